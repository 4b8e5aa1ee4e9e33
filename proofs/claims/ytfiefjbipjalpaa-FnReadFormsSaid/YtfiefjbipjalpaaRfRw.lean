/- The draws of the law of forms that are read. -/
import Derived.Test.YtfiefjbipjalpaaRfDw
import Derived.Test.YtfiefjbipjalpaaRfSf
import Derived.Deep.RegionHeld3
import Derived.Deep.Cut
namespace Go.Proofs.Ytfiefjbipjalpaa
open Go.RowKit

theorem Fo.sch_pos (n : Nat) : ∀ (a b : Nat) (s : List UInt8), a + b = n → 0 < (Fo.sch s a b).length := by
  induction n with
  | zero =>
    intro a b s h
    obtain rfl : a = 0 := by omega
    obtain rfl : b = 0 := by omega
    rw [Fo.sch_00]
    simp
  | succ n ih =>
    intro a b s h
    match a, b with
    | 0, 0 => omega
    | 0, b + 1 =>
      rw [Fo.sch_b, List.length_append]
      have := ih 0 b (s ++ [66]) (by omega)
      omega
    | a + 1, 0 =>
      rw [Fo.sch_a, List.length_append]
      have := ih a 0 (s ++ [76]) (by omega)
      omega
    | a + 1, b + 1 =>
      rw [Fo.sch_ab]
      have := ih (a + 1) b (s ++ [66]) (by omega)
      simp only [List.length_append]
      omega

set_option maxHeartbeats 400000 in
theorem hasInt_any (A : Option Addr) (n c B : Nat) (y : Int) (l : List Int) (w : World) (h : Rd I w B A n l) (hn : n ≤ 1048576) :
    Calls Try.prog 26 #[.slice A n c, .int .i64 y] w fun e w' => e = .returned (.bool (decide (y ∈ l))) ∧ w = w' := by
  have HL : Hid (l.length = n) := h.1
  go_enter Try.func26, Try.ntmps26
  go_wp2
  go_loop [5] (fun i => ∃ k : Nat, k ≤ n ∧ i = .int .i64 k ∧ Hid (y ∉ l.take k)) (fun i => n - (intOf i).toNat)
  case atStart => exact ⟨0, Nat.zero_le _, rfl, (by simp : y ∉ l.take 0)⟩
  case round =>
    obtain ⟨k, hk, rfl, hno⟩ := hrel
    by_cases hlt : k < n
    · obtain ⟨b, o, x, rfl, hbB, hx, hc⟩ := h.at_ hlt
      have HX : Hid (l[k]? = some x) := hx
      clear hx
      by_cases hxy : x = y
      · subst hxy
        go_wp2
        go_ret
        exact ⟨ret_b (decide_eq_true (List.mem_of_getElem? HX.out)).symm, rfl⟩
      · have hne : (x == y) = false := by simpa using hxy
        go_wp2
        go_round
        case rel =>
          refine ⟨k + 1, by omega, by go_num, ?_⟩
          have h1 := hno.out
          show y ∉ l.take (k + 1)
          rw [take_next l k x HX.out, List.mem_append]
          rintro (hh | hh)
          · exact h1 hh
          · exact hxy (List.mem_singleton.1 hh).symm
        case measure => simp [intOf]; omega
    · obtain rfl : k = n := by omega
      go_wp2
      go_ret
      have h1 := hno.out
      have h2 := HL.out
      rw [List.take_of_length_le (Nat.le_of_eq h2)] at h1
      exact ⟨ret_b (decide_eq_false h1).symm, rfl⟩

/-- What the draw gives. -/
def DrR (w : World) (e : Ending) (w' : World) : Prop :=
  ∃ (f : Fv) (F G H : List Int) (t : ByteArray), e = .returned (.tuple #[f.v, .string t]) ∧ (1 ≤ f.n1 ∧ f.n1 ≤ 64 ∧ f.n2 = f.n1 ∧ f.n3 ≤ 65) ∧ (Fm.near F ∧ Fm.near G) ∧ t.size ≤ 100 ∧ SF w' w.heap.size w'.heap.size f F G H ∧ Below w.heap.size w w'

set_option maxRecDepth 100000 in
set_option maxHeartbeats 8000000 in
theorem DrawRf_any (N C B : Nat) (A : Option Addr) (l : List Int) (w : World) (hc : Rd U w B A N l) (hl : inByte l) (hB : B ≤ w.heap.size) (hN : N ≤ 1048576) :
    Calls Try.prog 16 #[.slice A N C] w fun e w' => DrR w e w' := by
  go_enter Try.func16, Try.ntmps16
  go_wp2_with fail
  generalize hW : w.alloc (.cells (Fv.cs fv0) 26) = W0
  have bR : FBx W0 w.heap.size fv0 := by rw [← hW]; exact Blk.new _ _ rfl
  have hb0 : Below w.heap.size w W0 := by rw [← hW]; exact below_alloc _ _
  have z0 : W0.heap.size = w.heap.size + 1 := by rw [← hW]; simp
  have hc0 := hc.below hb0 (by omega)
  clear hW hc
  refine (l01From_ex N C B A l _ hc0 hl (by omega)).mono ?_
  rintro e w1 ⟨g, rfl, hg, hs1, hb1⟩
  have z1 := hb1.size
  have hlt := hs1.lt
  have bR1 := bR.below hb1 (by omega)
  have hc1 := hc0.below hb1 (by omega)
  go_wp2_with fail
  refine (draw5_any g N C B A l _ hs1 hc1 hl (by omega) hN).mono ?_
  rintro e w2 ⟨f, F, G, H, t, rfl, ha, ht, hn, hr, hsf, hs2, ho2⟩
  have z2 := ho2.size
  have bR2 := bR1.only ho2 (.inl (by omega))
  have hc2 := hc1.below (ho2.below (Nat.le_refl g) (by omega)) (by omega)
  have HB := Lib.hid ((hb0.trans (hb1.mono (by omega))).trans (ho2.below (by omega) (by omega)))
  obtain ⟨f0, f1, A1, n1, c1, A2, n2, c2, A3, n3, c3⟩ := f
  simp only at ha hn
  have HAA := Lib.hid ha
  have HNN := Lib.hid hn
  have HRR := Lib.hid hr
  clear ha hn hr
  have bE := FBx.new w2 ⟨f0, f1, A1, n1, c1, A2, n2, c2, A3, n3, c3⟩
  have hb3 := below_alloc w2 (.cells (Fv.cs ⟨f0, f1, A1, n1, c1, A2, n2, c2, A3, n3, c3⟩) 26)
  have bR3 := bR2.alloc (.cells (Fv.cs ⟨f0, f1, A1, n1, c1, A2, n2, c2, A3, n3, c3⟩) 26)
  have hsf3 := hsf.alloc (.cells (Fv.cs ⟨f0, f1, A1, n1, c1, A2, n2, c2, A3, n3, c3⟩) 26)
  have hs3 := hs2.below hb3 hs2.lt
  have hc3 := hc2.below hb3 (by omega)
  have hlt2 := hs2.lt
  have zv3 : (w2.alloc (.cells (Fv.cs ⟨f0, f1, A1, n1, c1, A2, n2, c2, A3, n3, c3⟩) 26)).heap.size = w2.heap.size + 1 := by simp
  clear hs1 hb1 hb0 hc0 hc1 bR bR1 bR2 hsf hs2 hc2 ho2
  go_wp2_with fail
  generalize w2.alloc (.cells (Fv.cs ⟨f0, f1, A1, n1, c1, A2, n2, c2, A3, n3, c3⟩) 26) = v3 at bE hb3 bR3 hsf3 hs3 hc3 zv3 ⊢
  refine (l01Next_any g N C B A l _ _ hs3 hc3 hl (by omega) hN (by omega)).mono ?_
  rintro e w4 ⟨y, rfl, y0, y1, _, hs4, ho4⟩
  have z4 := ho4.size
  have bE4 := bE.only ho4 (.inr (by omega))
  have bR4 := bR3.only ho4 (.inl (by omega))
  have hsf4 := hsf3.only ho4 (.inr (by omega))
  have hc4 := hc3.only ho4 (by omega) (by omega)
  have HB4 := Lib.hid ((HB.out.trans (hb3.mono (by omega))).trans (ho4.below (B := w.heap.size) (by omega) (by omega)))
  obtain ⟨j0, j1, j2, j3, j4⟩ := bE4.lcell
  simp only at j0 j1 j2 j3 j4
  clear y1 hb3 bE bR3 hsf3 hs3 hc3 ho4
  -- the form as it was drawn
  have hplain : Hid (∀ V, Below w4.heap.size w4 V → DrR w (.returned (.tuple #[Fv.v ⟨f0, f1, A1, n1, c1, A2, n2, c2, A3, n3, c3⟩, .string t])) (put5w V w.heap.size ⟨f0, f1, A1, n1, c1, A2, n2, c2, A3, n3, c3⟩)) := Lib.hid (fun V hV => ⟨⟨f0, f1, A1, n1, c1, A2, n2, c2, A3, n3, c3⟩, F, G, H, t, rfl, HNN.out, ⟨HRR.out.1, HRR.out.2.1⟩, by omega, ((hsf4.below hV (Nat.le_trans (by omega) z4)).put5 ⟨f0, f1, A1, n1, c1, A2, n2, c2, A3, n3, c3⟩ (.inl (by omega))).mono (by omega) (by have := hV.size; simp; omega), below_put5 (HB4.out.trans (hV.mono (by omega))) ⟨f0, f1, A1, n1, c1, A2, n2, c2, A3, n3, c3⟩ (Nat.le_refl _)⟩)
  obtain ⟨x0, x1, x2, x3, x4⟩ := bR4.lcell
  simp only at x0 x1 x2 x3 x4
  obtain ⟨u0, u1, u2, u3, u4⟩ := bR4.freeF
  have HS4 := Lib.hid (bR4.put5 ⟨f0, f1, A1, n1, c1, A2, n2, c2, A3, n3, c3⟩)
  have HBE := Lib.hid bE4
  have HBR := Lib.hid bR4
  have HSF := Lib.hid hsf4
  have HC4 := Lib.hid hc4
  have HSR := Lib.hid hs4
  clear bE4 bR4 hsf4 hc4 hs4
  by_cases h0 : y = 0
  · subst h0
    cases hsh : Fo.sheet f0 f1
    · have HSH := Lib.hid hsh
      clear hsh
      go_wp2_with fail
      refine (specSheet_any f0 f1 w4).mono ?_
      rintro e _ ⟨rfl, rfl⟩
      rw [HSH.out]
      go_wp2_with fail
      obtain ⟨e0, e1, e2, e3, e4⟩ := HS4.out.lcell
      simp only at e0 e1 e2 e3 e4
      exact bodyPost_ret (v := .tuple #[Fv.v ⟨f0, f1, A1, n1, c1, A2, n2, c2, A3, n3, c3⟩, .string t]) (by simp [results, Try.results16, go_sem, e0, e1, e2, e3, e4]) rfl (hplain.out w4 (Below.refl _ _))
    · have HSH := Lib.hid hsh
      obtain ⟨W, H', eW, eH, W1, W8, H1, H8, eWH, N1, N64⟩ := Fm.cells_of hsh
      obtain ⟨p, hp⟩ : ∃ p, f0 * f1 = p := ⟨_, rfl⟩
      have hpb : 1 ≤ p ∧ p ≤ 64 := by rw [← hp, eWH]; omega
      have ep : IntKind.i64.wrap (f0 * f1) = p := by rw [hp]; exact IntWalk.i64_in _ (by omega)
      clear hsh eW eH W1 W8 H1 H8 eWH N1 N64 hp
      by_cases hp16 : p ≤ 16
      · go_wp2_with fail
        refine (specSheet_any f0 f1 w4).mono ?_
        rintro e _ ⟨rfl, rfl⟩
        rw [HSH.out]
        go_wp2_with fail
        refine (specAll_any f0 f1 w4 HSH.out).mono ?_
        rintro e w5 ⟨AL, m, cL, rfl, oL, hm, hb5⟩
        have z5 := hb5.size
        have m0 : 0 < m := by rw [← oL.rd.1]; exact Fo.sch_pos _ _ _ _ rfl
        obtain ⟨gA, _, hA, hgA, _⟩ := oL.at_ m0
        subst hA
        obtain ⟨LL, hLL⟩ : ∃ LL, Fo.sch [] (Fo.pw f0) (Fo.pw f1) = LL := ⟨_, rfl⟩
        have hlen6 : ∀ (j : Nat) (x : List UInt8), LL[j]? = some x → x.length ≤ 100 := fun j x hx => by
          have hs := Fo.sch_scheme HSH.out (by rw [hLL]; exact List.mem_of_getElem? hx)
          have h1 := Fm.scheme_cells hs
          have h2 := Fm.cells_pos HSH.out
          obtain ⟨q, e1, _, e3⟩ := h2
          rw [e1] at h1
          have h3 : q = 2 ^ x.length := Int.ofNat_inj.1 h1
          have h4 : x.length < 2 ^ x.length := Nat.lt_two_pow_self
          omega
        rw [hLL] at oL
        have bE5 := HBE.out.below hb5 (by omega)
        have bR5 := HBR.out.below hb5 (by omega)
        have hsf5 := HSF.out.below hb5 (by omega)
        have hc5 := HC4.out.below hb5 (by omega)
        have hs5 := HSR.out.below hb5 (by omega)
        have HB5 := Lib.hid (HB4.out.trans (hb5.mono (by omega)))
        have hno : ∀ V, Only w.heap.size (g + 1) w5 V → V.cell? ⟨w2.heap.size, 0, none⟩ = some (.int .i64 f0) ∧ V.cell? ⟨w2.heap.size, 1, none⟩ = some (.int .i64 f1) ∧ V.cell? ⟨w2.heap.size, 2, none⟩ = some (.slice A1 n1 c1) ∧ V.cell? ⟨w2.heap.size, 3, none⟩ = some (.slice A2 n2 c2) ∧ V.cell? ⟨w2.heap.size, 4, none⟩ = some (.slice A3 n3 c3) := fun V hV => by
          have h5 := (bE5.only hV (.inr (by omega))).lcell
          exact ⟨h5.k0, h5.k1, h5.k2, h5.k3, h5.k4⟩
        have hS0 := hno w5.drew ((Only.refl w.heap.size (g + 1) w5).drew)
        have hnx : Calls Try.prog 54 #[.pointer (some ⟨g, 0, none⟩), .int .i64 (m : Int)] w5.drew fun e w' => ∃ (v : Nat) (tx : ByteArray), e = .returned (.int .i64 (v : Int)) ∧ v < m ∧ w'.cell? ⟨gA, v, none⟩ = some (.string tx) ∧ tx.size ≤ 100 ∧ Only g (g + 1) w5 w' :=
          (l01Next_any g N C B A l (m : Int) w5.drew (hs5.q (Q.drewN w5 1)) (hc5.drewN 1) hl (by omega) hN (by omega)).mono fun e w' ⟨v, h1, h2, h3, _, h4, h5⟩ => by
            obtain ⟨k, rfl⟩ := Int.eq_ofNat_of_zero_le h2
            have hkm : k < m := by have := h3 (by omega); omega
            have ho5 := only_undrew h5
            obtain ⟨g', x, hg', _, _, _, hx, hcx, _⟩ := (oL.only ho5 (.inr (by omega))).at_ hkm
            injection hg' with hg'
            injection hg' with hg' _ _
            subst hg'
            exact ⟨k, ⟨x.toArray⟩, h1, hkm, hcx, hlen6 k x hx, ho5⟩
        have bRk : ∀ V, Only g (g + 1) w5 V → FBx V w.heap.size fv0 := fun V hV => bR5.only hV (.inl (by omega))
        have HEND : ∀ (tx : ByteArray) V, tx.size ≤ 100 → Only g (g + 1) w5 V → Hid (DrR w (.returned (.tuple #[Fv.v ⟨f0, f1, A1, n1, c1, A2, n2, c2, A3, n3, c3⟩, .string tx])) (put5w V w.heap.size ⟨f0, f1, A1, n1, c1, A2, n2, c2, A3, n3, c3⟩)) := fun tx V htx hV => Lib.hid ⟨⟨f0, f1, A1, n1, c1, A2, n2, c2, A3, n3, c3⟩, F, G, H, tx, rfl, HNN.out, ⟨HRR.out.1, HRR.out.2.1⟩, htx, ((hsf5.only hV (.inr (by omega))).put5 ⟨f0, f1, A1, n1, c1, A2, n2, c2, A3, n3, c3⟩ (.inl (by omega))).mono (by omega) (by have := hV.size; simp; omega), below_put5 (HB5.out.trans (hV.below (by omega) (by omega))) ⟨f0, f1, A1, n1, c1, A2, n2, c2, A3, n3, c3⟩ (Nat.le_refl _)⟩
        have hwl : w.heap.size < g := by omega
        have hmi : (0 : Int) < (m : Int) := by omega
        clear oL hb5 j0 j1 j2 j3 j4 x0 x1 x2 x3 x4 u0 u1 u2 u3 u4 hLL hlen6
        go_wp2_with fail
        obtain ⟨p0, p1, p2, p3, p4⟩ := hS0
        go_region_law ((go_simp; go_at_call 54; with_reducible refine hnx.mono ?_; rintro e w7 ⟨v, tx, rfl, vm, hcx, htx, ho7⟩; have vmi : (v : Int) < (m : Int) := (by omega); obtain ⟨q0, q1, q2, q3, q4⟩ := hno _ (only_wide ho7 (Nat.le_of_lt hwl) (Nat.le_refl _)); have bR7 := bRk _ ho7; obtain ⟨x1, x2, x3, x4, x5⟩ := bR7.lcell; simp only at x1 x2 x3 x4 x5; obtain ⟨y0, y1, y2, y3, y4⟩ := bR7.freeF))
        all_goals
          have HE := HEND tx w7 htx ho7
          have HS7 := Lib.hid (bR7.put5 ⟨f0, f1, A1, n1, c1, A2, n2, c2, A3, n3, c3⟩)
          clear hnx hno bRk HEND
          go_wp2_with fail
          obtain ⟨e0, e1, e2, e3, e4⟩ := HS7.out.lcell
          simp only at e0 e1 e2 e3 e4
          exact bodyPost_ret (v := .tuple #[Fv.v ⟨f0, f1, A1, n1, c1, A2, n2, c2, A3, n3, c3⟩, .string tx]) (by simp [results, Try.results16, go_sem, e0, e1, e2, e3, e4]) rfl HE.out
      · have hp17 : 16 < p := by omega
        go_wp2_with fail
        refine (specSheet_any f0 f1 w4).mono ?_
        rintro e _ ⟨rfl, rfl⟩
        rw [HSH.out]
        go_wp2_with fail
        obtain ⟨e0, e1, e2, e3, e4⟩ := HS4.out.lcell
        simp only at e0 e1 e2 e3 e4
        exact bodyPost_ret (v := .tuple #[Fv.v ⟨f0, f1, A1, n1, c1, A2, n2, c2, A3, n3, c3⟩, .string t]) (by simp [results, Try.results16, go_sem, e0, e1, e2, e3, e4]) rfl (hplain.out w4 (Below.refl _ _))
  · have h0' : (y == 0) = false := by simpa using h0
    go_wp2_with fail
    obtain ⟨e0, e1, e2, e3, e4⟩ := HS4.out.lcell
    simp only at e0 e1 e2 e3 e4
    exact bodyPost_ret (v := .tuple #[Fv.v ⟨f0, f1, A1, n1, c1, A2, n2, c2, A3, n3, c3⟩, .string t]) (by simp [results, Try.results16, go_sem, e0, e1, e2, e3, e4]) rfl (hplain.out w4 (Below.refl _ _))
end Go.Proofs.Ytfiefjbipjalpaa

namespace Go.Proofs.Ytfiefjbipjalpaa
open Go.RowKit

theorem prod_bd {a b : Int} (h1 : -1 ≤ a) (h2 : a ≤ 16) (h3 : -1 ≤ b) (h4 : b ≤ 16) : -16 ≤ a * b ∧ a * b ≤ 256 := by
  have h : a = -1 ∨ a = 0 ∨ a = 1 ∨ a = 2 ∨ a = 3 ∨ a = 4 ∨ a = 5 ∨ a = 6 ∨ a = 7 ∨ a = 8 ∨ a = 9 ∨ a = 10 ∨ a = 11 ∨ a = 12 ∨ a = 13 ∨ a = 14 ∨ a = 15 ∨ a = 16 := by omega
  rcases h with rfl | rfl | rfl | rfl | rfl | rfl | rfl | rfl | rfl | rfl | rfl | rfl | rfl | rfl | rfl | rfl | rfl | rfl <;> omega
theorem Fm.ip_i64 {a b C : Int} {s : List UInt8} {u0 u1 : Int} {L1 L2 L3 : List Int} (hR : Fm.ipR a b s = (u0, u1, L1, L2, L3, C)) (hs : s.length ≤ 7) : i64s L1 ∧ i64s L2 := by
  by_cases hv : Fo.code a b s = 0
  · obtain ⟨_, _, h1, h2, _⟩ := Fm.ip_good hR hv
    have hp : 2 ^ s.length ≤ 128 := Nat.le_trans (Nat.pow_le_pow_right (by omega) hs) (by decide)
    refine ⟨fun x hx => ?_, fun x hx => ?_⟩
    · rw [h1] at hx
      have := Fm.imF_small _ _ _ _ x hx
      omega
    · rw [h2] at hx
      have := Fm.imB_small _ _ _ _ x hx
      omega
  · obtain ⟨_, _, h1, h2, _⟩ := Fm.ip_bad hR rfl hv
    subst h1 h2
    exact ⟨fun x hx => by simp at hx, fun x hx => by simp at hx⟩

/-- What the draw gives. -/
def DrF1 (w : World) (e : Ending) (w' : World) : Prop :=
  ∃ (f : Fv) (F G H : List Int), e = .returned f.v ∧ f.le 1048576 ∧ (i64s F ∧ i64s G) ∧ SF w' w.heap.size w'.heap.size f F G H ∧ Below w.heap.size w w'

theorem lit4 (V : World) (a b c d : ByteArray) (j : Nat) (hj : j < 4) (ha : a.size = 3 ∧ b.size = 3 ∧ c.size = 3 ∧ d.size = 3) :
    ∃ tx : ByteArray, tx.size = 3 ∧ (V.alloc (.cells #[.string a, .string b, .string c, .string d] 9)).cell? ⟨V.heap.size, j, none⟩ = some (.string tx) := by
  have h := fun (u : Value) => fun (hu : (#[Value.string a, .string b, .string c, .string d] : Array Value)[j]? = some u) => (cell_of_row (V.alloc (.cells #[.string a, .string b, .string c, .string d] 9)) V.heap.size j #[.string a, .string b, .string c, .string d] 9 (0, 0) (heap_alloc_new V _)).trans hu
  have hc : j = 0 ∨ j = 1 ∨ j = 2 ∨ j = 3 := by omega
  rcases hc with rfl | rfl | rfl | rfl
  · exact ⟨a, ha.1, h _ rfl⟩
  · exact ⟨b, ha.2.1, h _ rfl⟩
  · exact ⟨c, ha.2.2.1, h _ rfl⟩
  · exact ⟨d, ha.2.2.2, h _ rfl⟩

set_option maxRecDepth 100000 in
set_option maxHeartbeats 8000000 in
theorem DrawSfor_any (N C B : Nat) (A : Option Addr) (l : List Int) (w : World) (hc : Rd U w B A N l) (hl : inByte l) (hB : B ≤ w.heap.size) (hN : N ≤ 1048576) :
    Calls Try.prog 21 #[.slice A N C] w fun e w' => DrF1 w e w' := by
  go_enter Try.func21, Try.ntmps21
  go_wp2_with fail
  generalize hW : w.alloc (.cells (Fv.cs fv0) 26) = W0
  have bR : FBx W0 w.heap.size fv0 := by rw [← hW]; exact Blk.new _ _ rfl
  have hb0 : Below w.heap.size w W0 := by rw [← hW]; exact below_alloc _ _
  have z0 : W0.heap.size = w.heap.size + 1 := by rw [← hW]; simp
  have hc0 := hc.below hb0 (by omega)
  clear hW hc
  refine (l01From_ex N C B A l _ hc0 hl (by omega)).mono ?_
  rintro e w1 ⟨g, rfl, hg, hs1, hb1⟩
  have z1 := hb1.size
  have hlt := hs1.lt
  have bR1 := bR.below hb1 (by omega)
  have hc1 := hc0.below hb1 (by omega)
  go_wp2_with fail
  refine (draw5_any g N C B A l _ hs1 hc1 hl (by omega) hN).mono ?_
  rintro e w2 ⟨f, F, G, H, t, rfl, ha, ht, hn, hr, hsf, hs2, ho2⟩
  have z2 := ho2.size
  have bR2 := bR1.only ho2 (.inl (by omega))
  have hc2 := hc1.below (ho2.below (Nat.le_refl g) (by omega)) (by omega)
  have HB := Lib.hid ((hb0.trans (hb1.mono (by omega))).trans (ho2.below (by omega) (by omega)))
  obtain ⟨f0, f1, A1, n1, c1, A2, n2, c2, A3, n3, c3⟩ := f
  simp only at ha hn
  obtain ⟨p, hp⟩ : ∃ p, f0 * f1 = p := ⟨_, rfl⟩
  have hpb : -16 ≤ p ∧ p ≤ 256 := by rw [← hp]; exact prod_bd ha.1 ha.2.1 ha.2.2.1 ha.2.2.2
  have ep : IntKind.i64.wrap (f0 * f1) = p := by rw [hp]; exact IntWalk.i64_in _ (by omega)
  have HNN := Lib.hid hn
  have HRR := Lib.hid hr
  have HLE : Hid ((⟨f0, f1, A1, n1, c1, A2, n2, c2, A3, n3, c3⟩ : Fv).le 1048576) := Lib.hid ⟨show n1 ≤ _ by omega, show n2 ≤ _ by omega, show n3 ≤ _ by omega⟩
  clear ha hn hr hp
  have bE := FBx.new w2 ⟨f0, f1, A1, n1, c1, A2, n2, c2, A3, n3, c3⟩
  have hb3 := below_alloc w2 (.cells (Fv.cs ⟨f0, f1, A1, n1, c1, A2, n2, c2, A3, n3, c3⟩) 26)
  have bR3 := bR2.alloc (.cells (Fv.cs ⟨f0, f1, A1, n1, c1, A2, n2, c2, A3, n3, c3⟩) 26)
  have hsf3 := hsf.alloc (.cells (Fv.cs ⟨f0, f1, A1, n1, c1, A2, n2, c2, A3, n3, c3⟩) 26)
  have hs3 := hs2.below hb3 hs2.lt
  have hc3 := hc2.below hb3 (by omega)
  have hlt2 := hs2.lt
  have zv3 : (w2.alloc (.cells (Fv.cs ⟨f0, f1, A1, n1, c1, A2, n2, c2, A3, n3, c3⟩) 26)).heap.size = w2.heap.size + 1 := by simp
  clear hs1 hb1 hb0 hc0 hc1 bR bR1 bR2 hsf hs2 hc2 ho2
  obtain ⟨j0, j1, j2, j3, j4⟩ := bE.lcell
  simp only at j0 j1 j2 j3 j4
  obtain ⟨x0, x1, x2, x3, x4⟩ := bR3.lcell
  simp only at x0 x1 x2 x3 x4
  obtain ⟨u0, u1, u2, u3, u4⟩ := bR3.freeF
  have HB3 := Lib.hid (HB.out.trans (hb3.mono (by omega)))
  have HBE := Lib.hid bE
  have HBR := Lib.hid bR3
  have HSF := Lib.hid hsf3
  have HC3 := Lib.hid hc3
  have HS3 := Lib.hid hs3
  by_cases hp16 : 16 < p
  · have hlitB := below_alloc (w2.alloc (.cells (Fv.cs ⟨f0, f1, A1, n1, c1, A2, n2, c2, A3, n3, c3⟩) 26)) (.cells #[.string ⟨#[76, 84, 76]⟩, .string ⟨#[76, 76, 84]⟩, .string ⟨#[84, 76, 76]⟩, .string ⟨#[82, 66, 82]⟩] 9)
    have hlit := fun (j : Nat) (hj : j < 4) => lit4 (w2.alloc (.cells (Fv.cs ⟨f0, f1, A1, n1, c1, A2, n2, c2, A3, n3, c3⟩) 26)) ⟨#[76, 84, 76]⟩ ⟨#[76, 76, 84]⟩ ⟨#[84, 76, 76]⟩ ⟨#[82, 66, 82]⟩ j hj ⟨rfl, rfl, rfl, rfl⟩
    have zlit : ((w2.alloc (.cells (Fv.cs ⟨f0, f1, A1, n1, c1, A2, n2, c2, A3, n3, c3⟩) 26)).alloc (.cells #[.string ⟨#[76, 84, 76]⟩, .string ⟨#[76, 76, 84]⟩, .string ⟨#[84, 76, 76]⟩, .string ⟨#[82, 66, 82]⟩] 9)).heap.size = w2.heap.size + 2 := by simp
    have HLIT := Lib.hid hlit
    have HLB := Lib.hid hlitB
    clear bE bR3 hsf3 hc3 hs3 hb3 hlit hlitB
    go_wp2_with fail
    refine (l01Next_any g N C B A l _ _ (HS3.out.below HLB.out (by omega)) (HC3.out.below HLB.out (by omega)) hl (by omega) hN (by omega)).mono ?_
    rintro e w5 ⟨v, rfl, v0, v1, v2, v3, ho5⟩
    clear v2 v3
    have hv4 := v1 (by omega)
    obtain ⟨k, rfl⟩ := Int.eq_ofNat_of_zero_le v0
    have hk4 : k < 4 := by omega
    obtain ⟨tx, htx, hcx⟩ := HLIT.out k hk4
    have hcx5 : w5.cell? ⟨w2.heap.size + 1, k, none⟩ = some (.string tx) := by
      rw [zv3] at hcx
      exact (World.cell?_of_block (a := ⟨w2.heap.size + 1, k, none⟩) (ho5.block (w2.heap.size + 1) (by omega) (.inr (by omega)))).trans hcx
    have z5 := ho5.size
    have bE5 := (HBE.out.below HLB.out (by omega)).only ho5 (.inr (by omega))
    have bR5 := (HBR.out.below HLB.out (by omega)).only ho5 (.inl (by omega))
    have HB5 := Lib.hid ((HB3.out.trans (HLB.out.mono (by omega))).trans (ho5.below (B := w.heap.size) (by omega) (by omega)))
    obtain ⟨r0, r1, L1, L2, L3, D, hR⟩ : ∃ r0 r1 L1 L2 L3 D, Fm.ipR 4 2 tx.data.toList = (r0, r1, L1, L2, L3, D) := ⟨_, _, _, _, _, _, rfl⟩
    have HIP := Lib.hid hR
    have HI := Lib.hid (Fm.ip_i64 hR (by rw [toList_len, htx]; omega))
    have HTX : Hid (tx.size ≤ 1048577) := Lib.hid (by omega)
    clear v0 v1 hcx j0 j1 j2 j3 j4 x0 x1 x2 x3 x4 u0 u1 u2 u3 u4 ho5 hR htx
    go_wp2_with fail
    refine (specIp_any 4 2 tx r0 r1 D L1 L2 L3 HIP.out HTX.out w5).mono ?_
    rintro e w6 ⟨f', hfab, rfl, hsf6, hle6, hb6⟩
    clear hfab
    have z6 := hb6.size
    obtain ⟨g0, g1, A1', m1, d1, A2', m2, d2, A3', m3, d3⟩ := f'
    have bE6 := bE5.below hb6 (by omega)
    have bR6 := bR5.below hb6 (by omega)
    have HB6 := Lib.hid (HB5.out.trans (hb6.mono (by omega)))
    have hO7 := only_put5 w6 ⟨g0, g1, A1', m1, d1, A2', m2, d2, A3', m3, d3⟩ (g := w2.heap.size)
    have bE7 := bE6.put5 ⟨g0, g1, A1', m1, d1, A2', m2, d2, A3', m3, d3⟩
    have bR7 := bR6.only hO7 (.inl (by omega))
    have HB7 := Lib.hid (HB6.out.trans (hO7.below (B := w.heap.size) (by omega) (by omega)))
    have HSF7 := Lib.hid ((hsf6.put5 (g := w2.heap.size) ⟨g0, g1, A1', m1, d1, A2', m2, d2, A3', m3, d3⟩ (.inl (by omega))).mono (show w2.heap.size ≤ w5.heap.size by omega) (show w6.heap.size ≤ (put5w w6 w2.heap.size ⟨g0, g1, A1', m1, d1, A2', m2, d2, A3', m3, d3⟩).heap.size by simp))
    obtain ⟨j0, j1, j2, j3, j4⟩ := bE6.lcell
    simp only at j0 j1 j2 j3 j4
    obtain ⟨y0, y1, y2, y3, y4⟩ := bE6.freeF
    clear bE5 bR5 bE6 bR6 hsf6 hb6 hcx5 zv3 zlit HLIT HLB
    go_upto_region 5 with fail
    clear j0 j1 j2 j3 j4 y0 y1 y2 y3 y4
    change Code.wp _ _ _ _ (put5w w6 w2.heap.size ⟨g0, g1, A1', m1, d1, A2', m2, d2, A3', m3, d3⟩)
    have z7 := hO7.size
    clear hO7
    generalize put5w w6 w2.heap.size ⟨g0, g1, A1', m1, d1, A2', m2, d2, A3', m3, d3⟩ = w7 at bE7 bR7 HB7 HSF7 z7 ⊢
    obtain ⟨j0, j1, j2, j3, j4⟩ := bE7.lcell
    simp only at j0 j1 j2 j3 j4
    obtain ⟨x0, x1, x2, x3, x4⟩ := bR7.lcell
    simp only at x0 x1 x2 x3 x4
    obtain ⟨u0, u1, u2, u3, u4⟩ := bR7.freeF
    have HS8 := Lib.hid (bR7.put5 ⟨g0, g1, A1', m1, d1, A2', m2, d2, A3', m3, d3⟩)
    have HEND : Hid (DrF1 w (.returned (Fv.v ⟨g0, g1, A1', m1, d1, A2', m2, d2, A3', m3, d3⟩)) (put5w w7 w.heap.size ⟨g0, g1, A1', m1, d1, A2', m2, d2, A3', m3, d3⟩)) := Lib.hid ⟨⟨g0, g1, A1', m1, d1, A2', m2, d2, A3', m3, d3⟩, L1, L2, L3, rfl, ⟨Nat.le_trans hle6.1 (by decide), Nat.le_trans hle6.2.1 (by decide), Nat.le_trans hle6.2.2 (by decide)⟩, HI.out, (HSF7.out.put5 ⟨g0, g1, A1', m1, d1, A2', m2, d2, A3', m3, d3⟩ (.inl (by omega))).mono (by omega) (by simp), below_put5 HB7.out ⟨g0, g1, A1', m1, d1, A2', m2, d2, A3', m3, d3⟩ (Nat.le_refl _)⟩
    clear bE7 bR7 hle6
    go_wp2_with fail
    obtain ⟨e0, e1, e2, e3, e4⟩ := HS8.out.lcell
    simp only at e0 e1 e2 e3 e4
    exact bodyPost_ret (v := Fv.v ⟨g0, g1, A1', m1, d1, A2', m2, d2, A3', m3, d3⟩) (by simp [results, Try.results21, go_sem, e0, e1, e2, e3, e4]) rfl HEND.out
  · have hp17 : p ≤ 16 := by omega
    have HS4 := Lib.hid (bR3.put5 ⟨f0, f1, A1, n1, c1, A2, n2, c2, A3, n3, c3⟩)
    have HEND : Hid (DrF1 w (.returned (Fv.v ⟨f0, f1, A1, n1, c1, A2, n2, c2, A3, n3, c3⟩)) (put5w (w2.alloc (.cells (Fv.cs ⟨f0, f1, A1, n1, c1, A2, n2, c2, A3, n3, c3⟩) 26)) w.heap.size ⟨f0, f1, A1, n1, c1, A2, n2, c2, A3, n3, c3⟩)) := Lib.hid ⟨⟨f0, f1, A1, n1, c1, A2, n2, c2, A3, n3, c3⟩, F, G, H, rfl, HLE.out, ⟨HRR.out.1.i64, HRR.out.2.1.i64⟩, (HSF.out.put5 ⟨f0, f1, A1, n1, c1, A2, n2, c2, A3, n3, c3⟩ (.inl (by omega))).mono (by omega) (by simp), below_put5 HB3.out ⟨f0, f1, A1, n1, c1, A2, n2, c2, A3, n3, c3⟩ (Nat.le_refl _)⟩
    clear bE bR3 hsf3 hc3 hs3 hb3
    go_wp2_with fail
    obtain ⟨e0, e1, e2, e3, e4⟩ := HS4.out.lcell
    simp only at e0 e1 e2 e3 e4
    exact bodyPost_ret (v := Fv.v ⟨f0, f1, A1, n1, c1, A2, n2, c2, A3, n3, c3⟩) (by simp [results, Try.results21, go_sem, e0, e1, e2, e3, e4]) rfl HEND.out
end Go.Proofs.Ytfiefjbipjalpaa
