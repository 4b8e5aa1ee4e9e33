/- Contracts of PlaceOfPage, the model's and the program's. -/
import Derived.Test.YtgplciodddfpbaaFmLaw
namespace Go.Proofs.Ytgplciodddfpbaa
open Go.RowKit

namespace Fm
/-- Side, column, row and code of a page of a valid form. -/
def place (w : Int) (F G : List Int) (p : Int) : Int × Int × Int × Int :=
  if p ∈ F then (0, (F.idxOf p : Int) % w, (F.idxOf p : Int) / w, 0) else if p ∈ G then (1, w - 1 - (G.idxOf p : Int) % w, (G.idxOf p : Int) / w, 0) else (0, 0, 0, 4)
def plR (w h : Int) (F G H : List Int) (p : Int) : Int × Int × Int × Int := if okB w h F G H = true then place w F G p else (0, 0, 0, 1)
theorem idx_first {p : Int} : ∀ {L : List Int} {k : Nat}, L[k]? = some p → p ∉ L.take k → L.idxOf p = k := by
  intro L
  induction L with
  | nil => intro k h; simp at h
  | cons a L ih =>
    intro k h hn
    match k, h with
    | 0, h => simp at h; subst h; simp
    | k + 1, h =>
      have h1 : L[k]? = some p := by simpa using h
      rw [List.take_succ_cons, List.mem_cons] at hn
      have h2 : ¬ a = p := fun e => hn (.inl e.symm)
      have := ih h1 (fun e => hn (.inr e))
      have hb : (a == p) = false := by simpa using h2
      rw [List.idxOf_cons, hb, this]
      rfl
end Fm

set_option maxHeartbeats 1000000 in
theorem index_any (A : Option Addr) (n c B : Nat) (p : Int) (L : List Int) (w : World) (h : Rd I w B A n L) (hn : n ≤ 1048576) (v : Int) (hv : (if p ∈ L then (L.idxOf p : Int) else -1) = v) :
    Calls Try.prog 75 #[.slice A n c, .int .i64 p] w fun e w' => e = .returned (.int .i64 v) ∧ w = w' := by
  have HL : Hid (L.length = n) := h.1
  have HV := Lib.hid hv
  clear hv
  go_enter Try.func75, Try.ntmps75
  go_wp2
  go_loop [5, 8] (fun _ i => ∃ k : Nat, k ≤ n ∧ i = .int .i64 k ∧ Hid (p ∉ L.take k)) (fun _ i => n - (intOf i).toNat)
  case atStart => exact ⟨0, Nat.zero_le _, rfl, Lib.hid (by simp)⟩
  case round =>
    obtain ⟨k, hk, rfl, HN⟩ := hrel
    by_cases hlt : k < n
    · obtain ⟨b, o, x, rfl, hbB, hx, hc⟩ := h.at_ hlt
      have HX := Lib.hid hx
      clear hx
      by_cases hxp : p = x
      · have HE : Hid ((k : Int) = v) := Lib.hid (by
          have h1 := HX.out
          rw [← hxp] at h1
          rw [← HV.out, if_pos (List.mem_of_getElem? h1), Fm.idx_first h1 HN.out])
        subst hxp
        go_wp2
        go_ret
        exact ⟨ret_i HE.out, rfl⟩
      · have hne : (p == x) = false := by simpa using hxp
        go_wp2
        go_round
        case rel =>
          refine ⟨k + 1, by omega, by go_num, Lib.hid ?_⟩
          rw [take_next L k x HX.out, List.mem_append]
          rintro (hh | hh)
          · exact HN.out hh
          · exact hxp (List.mem_singleton.1 hh)
        case measure => simp [intOf]; omega
    · obtain rfl : k = n := by omega
      have HE : Hid (-1 = v) := Lib.hid (by
        have h1 := HN.out
        rw [List.take_of_length_le (Nat.le_of_eq HL.out)] at h1
        rw [← HV.out, if_neg h1])
      go_wp2
      go_ret
      exact ⟨ret_i HE.out, rfl⟩

set_option maxRecDepth 100000 in
theorem other_any (f : Fv) (g : Nat) (x : Int) (w : World) (hg : FBx w g f) (ha : 1 ≤ f.a ∧ f.a ≤ 8) (hx : 0 ≤ x ∧ x < f.a) (v : Int) (hv : f.a - 1 - x = v) :
    Calls Try.prog 76 #[.pointer (some ⟨g, 0, none⟩), .int .i64 x] w fun e w' => e = .returned (.int .i64 v) ∧ w = w' := by
  obtain ⟨k0, k1, k2, k3, k4⟩ := hg.fcell
  obtain ⟨a1, a2⟩ := ha
  obtain ⟨x1, x2⟩ := hx
  have e1 : IntKind.i64.wrap (f.a - 1) = f.a - 1 := IntWalk.i64_in _ (by omega)
  have e2 : IntKind.i64.wrap v = v := IntWalk.i64_in _ (by omega)
  go_enter Try.func76, Try.ntmps76
  go_wp2
  go_ret
  exact ⟨rfl, rfl⟩

theorem div_facts (k W N H : Nat) (hW : 1 ≤ W) (hk : k < N) (hN : N ≤ 64) (hWH : N = W * H) : ∃ X Y : Int, (k : Int) % (W : Int) = X ∧ (k : Int) / (W : Int) = Y ∧ (k : Int).tmod (W : Int) = X ∧ (k : Int).tdiv (W : Int) = Y ∧ 0 ≤ X ∧ X < (W : Int) ∧ 0 ≤ Y ∧ Y ≤ 64 ∧ Y < (H : Int) ∧ Y * (W : Int) + X = (k : Int) := by
  refine ⟨_, _, rfl, rfl, Int.tmod_eq_emod_of_nonneg (by omega), Int.tdiv_eq_ediv_of_nonneg (by omega), Int.emod_nonneg _ (by omega), Int.emod_lt_of_pos _ (by omega), Int.ediv_nonneg (by omega) (by omega), ?_, ?_, ?_⟩
  · have : (k : Int) / (W : Int) ≤ (k : Int) := Int.ediv_le_self _ (by omega)
    omega
  · refine Int.ediv_lt_of_lt_mul (by omega) ?_
    have : ((W * H : Nat) : Int) = (H : Int) * (W : Int) := by push_cast; exact Int.mul_comm _ _
    omega
  · have := Int.emod_add_mul_ediv (k : Int) (W : Int)
    rw [Int.mul_comm] at this
    omega

theorem tup4 {e : Ending} {a b c d a' b' c' d' : Int} (he : e = .returned (.tuple #[.int .i64 a, .int .i64 b, .int .i64 c, .int .i64 d])) (h : (a, b, c, d) = (a', b', c', d')) : e = .returned (.tuple #[.int .i64 a', .int .i64 b', .int .i64 c', .int .i64 d']) := by
  injection h with h1 h
  injection h with h2 h
  injection h with h3 h4
  subst h1 h2 h3 h4
  exact he
theorem Fm.place_front {w : Int} {F G : List Int} {p : Int} {k : Nat} (h : F[k]? = some p) (hn : p ∉ F.take k) : Fm.place w F G p = (0, (k : Int) % w, (k : Int) / w, 0) := by
  unfold Fm.place
  rw [if_pos (List.mem_of_getElem? h), Fm.idx_first h hn]
theorem Fm.place_back {w : Int} {F G : List Int} {p : Int} {k : Nat} (hd : (F ++ G).Nodup) (h : G[k]? = some p) (hn : p ∉ G.take k) : Fm.place w F G p = (1, w - 1 - (k : Int) % w, (k : Int) / w, 0) := by
  have hg := List.mem_of_getElem? h
  have hf : p ∉ F := fun hf => (List.nodup_append.1 hd).2.2 p hf p hg rfl
  unfold Fm.place
  rw [if_neg hf, if_pos hg, Fm.idx_first h hn]
theorem Fm.place_none {w : Int} {F G : List Int} {p : Int} (hf : p ∉ F) (hg : p ∉ G) : Fm.place w F G p = (0, 0, 0, 4) := by
  unfold Fm.place
  rw [if_neg hf, if_neg hg]
set_option maxRecDepth 100000 in
set_option maxHeartbeats 2000000 in
theorem specPlace_any (f : Fv) (a b p v0 v1 v2 v3 : Int) (ha : f.a = a) (hb : f.b = b) (B : Nat) (F G H : List Int) (hv : Fm.plR a b F G H p = (v0, v1, v2, v3)) (w : World) (h : RF w B f F G H) (hB : B ≤ w.heap.size) (hn : f.le 1048576) (hi64 : i64s F) (hi65 : i64s G) :
    Calls Try.prog 32 #[f.v, .int .i64 p] w fun e w' => e = .returned (.tuple #[.int .i64 v0, .int .i64 v1, .int .i64 v2, .int .i64 v3]) ∧ Below w.heap.size w w' := by
  obtain ⟨a', b', A1, n1, c1, A2, n2, c2, A3, n3, c3⟩ := f
  simp only at ha hb
  subst ha hb
  have hB0 := below_alloc w (.cells (Fv.cs ⟨a', b', A1, n1, c1, A2, n2, c2, A3, n3, c3⟩) 28)
  have hbx := FBx.new w ⟨a', b', A1, n1, c1, A2, n2, c2, A3, n3, c3⟩
  have hr0 := h.below hB0 hB
  have HV := Lib.hid hv
  have HNN := Lib.hid hn
  have HI1 := Lib.hid hi64
  have HI2 := Lib.hid hi65
  obtain ⟨k0, k1, k2, k3, k4⟩ := hbx.fcell
  simp only at k0 k1 k2 k3 k4
  clear hv hn hi64 hi65
  go_enter Try.func32, Try.ntmps32
  go_wp2_with fail
  generalize hW : w.alloc (.cells (Fv.cs ⟨a', b', A1, n1, c1, A2, n2, c2, A3, n3, c3⟩) 28) = W0 at hB0 hbx hr0 ⊢
  have hwz : w.heap.size < W0.heap.size := by rw [← hW]; simp
  clear k0 k1 k2 k3 k4 hW
  have hsp := specIsForm_any ⟨a', b', A1, n1, c1, A2, n2, c2, A3, n3, c3⟩ B F G H W0 hr0 (by omega) HNN.out HI1.out HI2.out
  simp only at hsp
  cases hok : Fm.okB a' b' F G H
  · rw [hok] at hsp
    have HE : Hid (((0 : Int), (0 : Int), (0 : Int), (1 : Int)) = (v0, v1, v2, v3)) := Lib.hid (by rw [← HV.out]; unfold Fm.plR; rw [if_neg (by rw [hok]; simp)])
    clear hok
    refine hsp.mono ?_
    rintro e w1 ⟨rfl, hb1⟩
    have HB1 := Lib.hid (hB0.trans (hb1.mono (by omega)))
    go_wp2_with fail
    refine bodyPost_ret (v := .tuple #[.int .i64 0, .int .i64 0, .int .i64 0, .int .i64 1]) (by simp [results, Try.results32, go_sem]) rfl ⟨tup4 rfl HE.out, HB1.out⟩
  · rw [hok] at hsp
    have HE : Hid (Fm.place a' F G p = (v0, v1, v2, v3)) := Lib.hid (by rw [← HV.out]; unfold Fm.plR; rw [if_pos hok])
    have HOK := Lib.hid (Fm.okB_ok hok)
    clear hok
    refine hsp.mono ?_
    rintro e w1 ⟨rfl, hb1⟩
    have HB1 := Lib.hid (hB0.trans (hb1.mono (by omega)))
    have hr1 := hr0.below hb1 (by omega)
    have hbx1 := hbx.below hb1 hwz
    obtain ⟨k0, k1, k2, k3, k4⟩ := hbx1.fcell
    obtain ⟨W, H', eW, eH, W1, W8, H1, H8, eWH, N1, N64⟩ := Fm.cells_of HOK.out.1
    obtain ⟨N, hN⟩ : ∃ N, N = W * H' := ⟨_, rfl⟩
    have l1 := HOK.out.2.1.1
    have l2 := HOK.out.2.1.2.1
    rw [eWH, ← hN] at l1 l2
    rw [← hN] at N1 N64 eWH
    obtain ⟨f1, f2, _⟩ := hr0.len
    simp only at k0 k1 k2 k3 k4 f1 f2
    obtain rfl : n1 = N := by omega
    obtain rfl : n2 = n1 := by omega
    subst eW
    have HWH := Lib.hid hN
    have ew : IntKind.i64.wrap (n2 : Int) = (n2 : Int) := IntWalk.i64_in _ (by omega)
    have HL1 := Lib.hid f1
    have HL2 := Lib.hid f2
    obtain ⟨r1, r2, _⟩ := hr1
    simp only at r1 r2
    clear l1 l2 f1 f2 hN hr0 hbx hbx1 hb1 hB0 eH
    go_wp2_with fail
    go_loopw [8, 9, 10] (fun i _ _ wr => ∃ k : Nat, k ≤ n2 ∧ i = .int .i64 k ∧ Hid (p ∉ F.take k ∧ p ∉ G.take k) ∧ Q w1 wr) (fun i _ _ _ => n2 - (intOf i).toNat)
    case atStart => exact ⟨0, Nat.zero_le _, rfl, Lib.hid (by simp), Q.refl _⟩
    case round =>
      obtain ⟨k, hk, rfl, HN, m, rfl⟩ := hrel
      by_cases hlt : k < n2
      · obtain ⟨bb, oo, x, rfl, hbB, hx, hc⟩ := r1.at_ hlt
        obtain ⟨bb2, oo2, y, rfl, hbB2, hy, hc2⟩ := r2.at_ hlt
        obtain ⟨X, Y, e1, e2, e3, e4, x1, x2, y1, y2, _, _⟩ := div_facts k W n2 H' W1 hlt N64 HWH.out
        have HX := Lib.hid hx
        have HY := Lib.hid hy
        have HXY := Lib.hid (And.intro e1 e2)
        have w1' : IntKind.i64.wrap X = X := IntWalk.i64_in _ (by omega)
        have w2' : IntKind.i64.wrap Y = Y := IntWalk.i64_in _ (by omega)
        have nz : ¬ (W : Int) = 0 := by omega
        clear hx hy
        by_cases hxp : x = p
        · subst hxp
          have HF := Lib.hid (Fm.place_front (w := (W : Int)) (G := G) HX.out HN.out.1)
          go_wp2_with fail
          go_region
          go_wp2_with fail
          refine bodyPost_ret (v := .tuple #[.int .i64 0, .int .i64 X, .int .i64 Y, .int .i64 0]) (by simp [results, Try.results32, go_sem]) rfl ⟨tup4 rfl (by rw [← HE.out, HF.out, HXY.out.1, HXY.out.2]), HB1.out.trans ((Q.drewN _ _).below _)⟩
        · have hne : (x == p) = false := by simpa using hxp
          by_cases hyp : y = p
          · subst hyp
            have HF := Lib.hid (Fm.place_back (w := (W : Int)) HOK.out.2.2.2.2.2.2 HY.out HN.out.2)
            go_wp2_with fail
            go_region
            go_wp2_with fail
            go_region
            go_wp2_with fail
            refine bodyPost_ret (v := .tuple #[.int .i64 1, .int .i64 ((W : Int) - 1 - X), .int .i64 Y, .int .i64 0]) (by simp [results, Try.results32, go_sem]) rfl ⟨tup4 rfl (by rw [← HE.out, HF.out, HXY.out.1, HXY.out.2]), HB1.out.trans ((Q.drewN _ _).below _)⟩
          · have hne2 : (y == p) = false := by simpa using hyp
            have HK : Hid (p ∉ F.take (k + 1) ∧ p ∉ G.take (k + 1)) := Lib.hid (by
              rw [take_next F k x HX.out, take_next G k y HY.out, List.mem_append, List.mem_append]
              refine ⟨?_, ?_⟩
              · rintro (hh | hh)
                · exact HN.out.1 hh
                · exact hxp (List.mem_singleton.1 hh).symm
              · rintro (hh | hh)
                · exact HN.out.2 hh
                · exact hyp (List.mem_singleton.1 hh).symm)
            go_wp2_with fail
            go_region
            go_wp2_with fail
            go_roundw
            case rel => exact ⟨k + 1, by omega, by go_num, HK, Q.drewN _ _⟩
            case measure => simp [intOf]; omega
      · obtain rfl : k = n2 := by omega
        have HF : Hid (Fm.place (W : Int) F G p = (0, 0, 0, 4)) := Lib.hid (by
          have h1 := HN.out
          rw [List.take_of_length_le (Nat.le_of_eq HL1.out), List.take_of_length_le (Nat.le_of_eq HL2.out)] at h1
          exact Fm.place_none h1.1 h1.2)
        go_wp2_with fail
        refine bodyPost_ret (v := .tuple #[.int .i64 0, .int .i64 0, .int .i64 0, .int .i64 4]) (by simp [results, Try.results32, go_sem]) rfl ⟨tup4 rfl (by rw [← HE.out, HF.out]), HB1.out.trans ((Q.drewN _ _).below _)⟩

set_option maxRecDepth 100000 in
set_option maxHeartbeats 2000000 in
theorem implPlace_any (f : Fv) (a b p v0 v1 v2 v3 : Int) (ha : f.a = a) (hb : f.b = b) (B : Nat) (F G H : List Int) (hv : Fm.plR a b F G H p = (v0, v1, v2, v3)) (w : World) (h : RF w B f F G H) (hB : B ≤ w.heap.size) (hn : f.le 1048576) (hi64 : i64s F) (hi65 : i64s G) :
    Calls Try.prog 31 #[f.v, .int .i64 p] w fun e w' => e = .returned (.tuple #[.int .i64 v0, .int .i64 v1, .int .i64 v2, .int .i64 v3]) ∧ Below w.heap.size w w' := by
  obtain ⟨a', b', A1, n1, c1, A2, n2, c2, A3, n3, c3⟩ := f
  simp only at ha hb
  subst ha hb
  have hB0 := below_alloc w (.cells (Fv.cs ⟨a', b', A1, n1, c1, A2, n2, c2, A3, n3, c3⟩) 28)
  have hbx := FBx.new w ⟨a', b', A1, n1, c1, A2, n2, c2, A3, n3, c3⟩
  have hr0 := h.below hB0 hB
  have HV := Lib.hid hv
  have HNN := Lib.hid hn
  have HI1 := Lib.hid hi64
  have HI2 := Lib.hid hi65
  obtain ⟨k0, k1, k2, k3, k4⟩ := hbx.fcell
  simp only at k0 k1 k2 k3 k4
  clear hv hn hi64 hi65
  go_enter Try.func31, Try.ntmps31
  go_wp2_with fail
  generalize hW : w.alloc (.cells (Fv.cs ⟨a', b', A1, n1, c1, A2, n2, c2, A3, n3, c3⟩) 28) = W0 at hB0 hbx hr0 ⊢
  have hwz : w.heap.size < W0.heap.size := by rw [← hW]; simp
  clear k0 k1 k2 k3 k4 hW
  have hsp := implIsForm_any ⟨a', b', A1, n1, c1, A2, n2, c2, A3, n3, c3⟩ B F G H W0 hr0 (by omega) HNN.out HI1.out HI2.out
  simp only at hsp
  cases hok : Fm.okB a' b' F G H
  · rw [hok] at hsp
    have HE : Hid (((0 : Int), (0 : Int), (0 : Int), (1 : Int)) = (v0, v1, v2, v3)) := Lib.hid (by rw [← HV.out]; unfold Fm.plR; rw [if_neg (by rw [hok]; simp)])
    clear hok
    refine hsp.mono ?_
    rintro e w1 ⟨rfl, hb1⟩
    have HB1 := Lib.hid (hB0.trans (hb1.mono (by omega)))
    go_wp2_with fail
    refine bodyPost_ret (v := .tuple #[.int .i64 0, .int .i64 0, .int .i64 0, .int .i64 1]) (by simp [results, Try.results31, go_sem]) rfl ⟨tup4 rfl HE.out, HB1.out⟩
  · rw [hok] at hsp
    have HE : Hid (Fm.place a' F G p = (v0, v1, v2, v3)) := Lib.hid (by rw [← HV.out]; unfold Fm.plR; rw [if_pos hok])
    have HOK := Lib.hid (Fm.okB_ok hok)
    clear hok
    refine hsp.mono ?_
    rintro e w1 ⟨rfl, hb1⟩
    have HB1 := Lib.hid (hB0.trans (hb1.mono (by omega)))
    have hr1 := hr0.below hb1 (by omega)
    have hbx1 := hbx.below hb1 hwz
    obtain ⟨k0, k1, k2, k3, k4⟩ := hbx1.fcell
    obtain ⟨W, H', eW, eH, W1, W8, H1, H8, eWH, N1, N64⟩ := Fm.cells_of HOK.out.1
    obtain ⟨N, hN⟩ : ∃ N, N = W * H' := ⟨_, rfl⟩
    have l1 := HOK.out.2.1.1
    have l2 := HOK.out.2.1.2.1
    rw [eWH, ← hN] at l1 l2
    rw [← hN] at N1 N64 eWH
    obtain ⟨f1, f2, _⟩ := hr0.len
    simp only at k0 k1 k2 k3 k4 f1 f2
    obtain rfl : n1 = N := by omega
    obtain rfl : n2 = n1 := by omega
    subst eW
    have HWH := Lib.hid hN
    have HL1 := Lib.hid f1
    have HL2 := Lib.hid f2
    have HBX := Lib.hid hbx1
    obtain ⟨r1, r2, _⟩ := hr1
    simp only at r1 r2
    have nz : ¬ (W : Int) = 0 := by omega
    clear l1 l2 f1 f2 hN hr0 hbx hbx1 hb1 hB0 eH
    by_cases hf : p ∈ F
    · have hk : F.idxOf p < n2 := by rw [← HL1.out]; exact List.idxOf_lt_length_of_mem hf
      have HFP : Hid (Fm.place (W : Int) F G p = (0, (F.idxOf p : Int) % (W : Int), (F.idxOf p : Int) / (W : Int), 0)) := Lib.hid (by unfold Fm.place; rw [if_pos hf])
      obtain ⟨k, hk'⟩ : ∃ k, F.idxOf p = k := ⟨_, rfl⟩
      have HIX : Hid ((if p ∈ F then (F.idxOf p : Int) else -1) = (k : Int)) := Lib.hid (by rw [if_pos hf, hk'])
      rw [hk'] at hk HFP
      obtain ⟨X, Y, e1, e2, e3, e4, x1, x2, y1, y2, _, _⟩ := div_facts k W n2 H' W1 hk N64 HWH.out
      have HXY := Lib.hid (And.intro e1 e2)
      have w1' : IntKind.i64.wrap X = X := IntWalk.i64_in _ (by omega)
      have w2' : IntKind.i64.wrap Y = Y := IntWalk.i64_in _ (by omega)
      clear hf hk'
      go_wp2_with fail
      refine (index_any _ _ _ _ p F _ r1 (by omega) (k : Int) HIX.out).mono ?_
      rintro e _ ⟨rfl, rfl⟩
      go_wp2_with fail
      go_region
      go_wp2_with fail
      refine bodyPost_ret (v := .tuple #[.int .i64 0, .int .i64 X, .int .i64 Y, .int .i64 0]) (by simp [results, Try.results31, go_sem]) rfl ⟨tup4 rfl (by rw [← HE.out, HFP.out, HXY.out.1, HXY.out.2]), HB1.out.trans ((Q.drewN w1 1).below _)⟩
    · have HIX : Hid ((if p ∈ F then (F.idxOf p : Int) else -1) = -1) := Lib.hid (if_neg hf)
      by_cases hgm : p ∈ G
      · have hk : G.idxOf p < n2 := by rw [← HL2.out]; exact List.idxOf_lt_length_of_mem hgm
        have HFP : Hid (Fm.place (W : Int) F G p = (1, (W : Int) - 1 - (G.idxOf p : Int) % (W : Int), (G.idxOf p : Int) / (W : Int), 0)) := Lib.hid (by unfold Fm.place; rw [if_neg hf, if_pos hgm])
        obtain ⟨k, hk'⟩ : ∃ k, G.idxOf p = k := ⟨_, rfl⟩
        have HIX2 : Hid ((if p ∈ G then (G.idxOf p : Int) else -1) = (k : Int)) := Lib.hid (by rw [if_pos hgm, hk'])
        rw [hk'] at hk HFP
        obtain ⟨X, Y, e1, e2, e3, e4, x1, x2, y1, y2, _, _⟩ := div_facts k W n2 H' W1 hk N64 HWH.out
        have HXY := Lib.hid (And.intro e1 e2)
        have w1' : IntKind.i64.wrap X = X := IntWalk.i64_in _ (by omega)
        have w2' : IntKind.i64.wrap Y = Y := IntWalk.i64_in _ (by omega)
        obtain ⟨Z, hZ⟩ : ∃ Z, (W : Int) - 1 - X = Z := ⟨_, rfl⟩
        have HZ := Lib.hid hZ
        have hoc : ∀ m, Calls Try.prog 76 #[.pointer (some ⟨w.heap.size, 0, none⟩), .int .i64 X] (w1.drewN m) fun e w' => e = .returned (.int .i64 Z) ∧ ∃ m', w' = w1.drewN m' := fun m => quiet_same (other_any _ w.heap.size X _ (HBX.out.q (Q.drewN w1 m)) ⟨by show 1 ≤ (W : Int); omega, by show (W : Int) ≤ 8; omega⟩ ⟨x1, x2⟩ Z HZ.out)
        clear hf hgm hk' hZ
        go_wp2_with fail
        refine (index_any _ _ _ _ p F _ r1 (by omega) (-1) HIX.out).mono ?_
        rintro e _ ⟨rfl, rfl⟩
        go_wp2_with fail
        refine (index_any _ _ _ _ p G _ r2 (by omega) (k : Int) HIX2.out).mono ?_
        rintro e _ ⟨rfl, rfl⟩
        go_wp2_with fail
        go_quiet (first | (go_at_call 76; with_reducible exact hoc _))
        go_wp2_with fail
        refine bodyPost_ret (v := .tuple #[.int .i64 1, .int .i64 Z, .int .i64 Y, .int .i64 0]) (by simp [results, Try.results31, go_sem]) rfl ⟨tup4 rfl (by rw [← HE.out, HFP.out, HXY.out.1, HXY.out.2, HZ.out]), HB1.out.trans ((Q.drewN w1 _).below _)⟩
      · have HIX2 : Hid ((if p ∈ G then (G.idxOf p : Int) else -1) = -1) := Lib.hid (if_neg hgm)
        have HFP : Hid (Fm.place (W : Int) F G p = (0, 0, 0, 4)) := Lib.hid (Fm.place_none hf hgm)
        clear hf hgm
        go_wp2_with fail
        refine (index_any _ _ _ _ p F _ r1 (by omega) (-1) HIX.out).mono ?_
        rintro e _ ⟨rfl, rfl⟩
        go_wp2_with fail
        refine (index_any _ _ _ _ p G _ r2 (by omega) (-1) HIX2.out).mono ?_
        rintro e _ ⟨rfl, rfl⟩
        go_wp2_with fail
        refine bodyPost_ret (v := .tuple #[.int .i64 0, .int .i64 0, .int .i64 0, .int .i64 4]) (by simp [results, Try.results31, go_sem]) rfl ⟨tup4 rfl (by rw [← HE.out, HFP.out]), HB1.out⟩
end Go.Proofs.Ytgplciodddfpbaa
