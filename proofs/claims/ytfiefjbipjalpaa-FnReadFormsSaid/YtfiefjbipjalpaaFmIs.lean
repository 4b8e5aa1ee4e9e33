/- The model's answer whether a form is valid. -/
import Derived.Test.YtfiefjbipjalpaaFmLe
import Derived.Test.YtfiefjbipjalpaaOrd2
import Derived.Test.YtfiefjbipjalpaaFoIs
namespace Go.Proofs.Ytfiefjbipjalpaa
open Go.RowKit

/-- A list of at most 64 numbers of 0..1. -/
def withH (l : List Int) : Bool := decide (l.length ≤ 64 ∧ ∀ c ∈ l, 0 ≤ c ∧ c ≤ 1)
set_option maxHeartbeats 1000000 in
theorem within_any (A : Option Addr) (n c B : Nat) (l : List Int) (w : World) (h : Rd I w B A n l) (hn : n ≤ 1048576) :
    Calls Try.prog 108 #[.slice A n c, .int .i64 64, .int .i64 0, .int .i64 1] w fun e w' => e = .returned (.bool (withH l)) ∧ w = w' := by
  have HL : Hid (l.length = n) := h.1
  go_enter Try.func108, Try.ntmps108
  go_wp2_with fail
  go_loop [9] (fun i => ∃ k : Nat, k ≤ n ∧ i = .int .i64 k ∧ ∀ c ∈ l.take k, 0 ≤ c ∧ c ≤ 1) (fun i => n - (intOf i).toNat)
  case atStart => exact ⟨0, Nat.zero_le _, rfl, by simp⟩
  case round =>
    obtain ⟨k, hk, rfl, hall⟩ := hrel
    have HA := Lib.hid hall
    clear hall
    by_cases hlt : k < n
    · obtain ⟨b, o, x, rfl, hbB, hx, hc⟩ := h.at_ hlt
      have HX := Lib.hid hx
      clear hx
      by_cases hok : 0 ≤ x ∧ x ≤ 1
      · obtain ⟨x0, x1⟩ := hok
        go_wp2_with fail
        refine (l01In_yes _ _ _ _ x0 x1).mono ?_
        rintro e _ ⟨rfl, rfl⟩
        go_wp2_with fail
        go_round
        case rel => 
          refine ⟨k + 1, by omega, by go_num, ?_⟩
          rw [take_next l k x HX.out]
          intro y hy
          rcases List.mem_append.1 hy with hy | hy
          · exact HA.out y hy
          · simp at hy; subst hy; exact ⟨x0, x1⟩
        case measure => simp [intOf]; omega
      · have HN : Hid (withH l = false) := decide_eq_false (fun hp => hok (hp.2 x (List.mem_of_getElem? HX.out)))
        have hok' : Hid (x < 0 ∨ 1 < x) := show x < 0 ∨ 1 < x by omega
        clear hok
        go_wp2_with fail
        refine (l01In_no _ _ _ _ hok'.out).mono ?_
        rintro e _ ⟨rfl, rfl⟩
        go_wp2_with fail
        go_ret
        exact ⟨ret_b HN.out.symm, rfl⟩
    · obtain rfl : k = n := by omega
      have HN : Hid (withH l = decide ((k : Int) ≤ 64)) := by
        show _ = _
        have h1 := HL.out
        have h2 : ∀ c ∈ l, 0 ≤ c ∧ c ≤ 1 := fun y hy => HA.out y (by rw [List.take_of_length_le (Nat.le_of_eq HL.out)]; exact hy)
        unfold withH
        rw [Bool.eq_iff_iff]
        simp only [decide_eq_true_eq]
        exact ⟨fun hp => by have := hp.1; omega, fun hp => ⟨by omega, h2⟩⟩
      go_wp2_with fail
      go_ret
      exact ⟨ret_b HN.out.symm, rfl⟩

theorem oneI (y : Int) : (I y).oneCell' = true := rfl

set_option maxHeartbeats 400000 in
theorem own_any (A : Option Addr) (n c B : Nat) (l : List Int) (w : World) (h : Rd I w B A n l) (hB : B ≤ w.heap.size) (hn : n ≤ 1048576) :
    Calls Try.prog 109 #[.slice A n c] w fun e w' => ∃ A' c', e = .returned (.slice A' n c') ∧ Own I w' w.heap.size w'.heap.size 2 (.slice A' n c') l ∧ Below w.heap.size w w' := by
  obtain ⟨i0, hi0, hz0, hz1, hz2⟩ := info_parts infoI
  have hl0 := Own.lit0 I w 2
  have hb0 : Below w.heap.size w (w.alloc (.cells #[] 2)) := (Below.refl _ _).alloc (Nat.le_refl _) _
  have hr := h.alloc hB (.cells #[] 2)
  go_enter Try.func109, Try.ntmps109
  go_wp2_with (at_builtin; refine wp_spread _ rfl _ _ 24 rfl 2 i0 _ 8 Try.underlying24 hi0 hz0 hz1 hz2 rfl _ 0 0 _ _ _ rfl hl0 A n c _ _ rfl hr oneI (by omega) (by omega) (by simp) ?_; intro A4 c4 w4 ho4 hm4)
  go_ret
  exact ⟨A4, c4, rfl, by simpa using ho4, hb0.trans (hm4.below (Nat.le_refl _) (by simp))⟩


theorem wrap64 (n : Int) : IntKind.i64.wrap n = if 9223372036854775808 ≤ n % 18446744073709551616 then n % 18446744073709551616 - 18446744073709551616 else n % 18446744073709551616 := by
  unfold IntKind.wrap
  simp [IntKind.signed, IntKind.bits]
set_option maxHeartbeats 1000000 in
theorem wrap_hi (m : Int) (N : Nat) (h0 : 1 ≤ N) (h1 : N ≤ 64) (hm : -9223372036854775808 ≤ m ∧ m ≤ 9223372036854775807) :
    ∃ u v, IntKind.i64.wrap (m + 2 * (N : Int)) = u ∧ IntKind.i64.wrap (u - 1) = v ∧ (v = m + 2 * (N : Int) - 1 ∨ (v < 0 ∧ 1000000000 < m)) := by
  refine ⟨_, _, rfl, rfl, ?_⟩
  rw [wrap64, wrap64]
  split <;> split <;> omega

/-- All numbers of the list are at most hi, and no two of them are equal. -/
def runTo (hi : Int) (L : List Int) : Prop := (∀ x ∈ L, x ≤ hi) ∧ L.Nodup
theorem runTo.zero (hi : Int) (L : List Int) : runTo hi (L.take 0) := ⟨by simp, by simp⟩
theorem runTo.next {hi x : Int} {L : List Int} {k : Nat} (h : runTo hi (L.take k)) (hx : L[k]? = some x) (h1 : x ≤ hi) (h2 : x ∉ L.take k) : runTo hi (L.take (k + 1)) := by
  refine ⟨?_, nodup_next L k x hx h.2 h2⟩
  rw [take_next L k x hx]
  intro y hy
  rcases List.mem_append.1 hy with hy | hy
  · exact h.1 y hy
  · simp at hy; omega
theorem not_nodup {L : List Int} {k : Nat} {x : Int} (hx : L[k]? = some x) (h : x ∈ L.take k) : ¬ L.Nodup := by
  intro hd
  have hs : L = L.take k ++ L.drop k := (List.take_append_drop k L).symm
  rw [hs, List.nodup_append] at hd
  refine hd.2.2 x h x ?_ rfl
  exact List.mem_of_getElem? (i := 0) (by rw [List.getElem?_drop]; simpa using hx)
theorem Fm.run_dup {F G : List Int} {k : Nat} {x : Int} (hx : (F ++ G)[k]? = some x) (h : x ∈ (F ++ G).take k) : decide (Fm.run F G) = false := decide_eq_false fun hr => not_nodup hx h hr.2.2.2
theorem Fm.run_far {F G : List Int} {k N : Nat} {x hi : Int} (hF : F.length = N) (hG : G.length = N) (hi' : hi = Fm.lst (F ++ G) + 2 * (N : Int) - 1 ∨ (hi < 0 ∧ 1000000000 < Fm.lst (F ++ G))) (hx : (F ++ G)[k]? = some x) (h : hi < x) : decide (Fm.run F G) = false := by
  refine decide_eq_false fun hr => ?_
  obtain ⟨r1, r2, r3, _⟩ := hr
  have := r3 x (List.mem_of_getElem? hx)
  rw [List.length_append, hF, hG] at this
  push_cast at this
  omega
theorem Fm.run_all {F G : List Int} {N : Nat} {hi : Int} (hF : F.length = N) (hG : G.length = N) (hp : 0 < N) (hi' : hi = Fm.lst (F ++ G) + 2 * (N : Int) - 1 ∨ (hi < 0 ∧ 1000000000 < Fm.lst (F ++ G))) (h : runTo hi ((F ++ G).take (2 * N))) :
    decide (Fm.run F G) = (decide (1 ≤ Fm.lst (F ++ G)) && decide (Fm.lst (F ++ G) ≤ 1000000000)) := by
  rw [List.take_of_length_le (by rw [List.length_append]; omega)] at h
  obtain ⟨h1, h2⟩ := h
  rw [Bool.eq_iff_iff]
  simp only [decide_eq_true_eq, Bool.and_eq_true]
  unfold Fm.run Fm.runIn
  have hm := (Fm.lst_is (L := F ++ G) (by intro he; have := congrArg List.length he; simp [hF] at this; omega)).1
  have hm' := h1 _ hm
  refine ⟨fun hh => ⟨hh.1, hh.2.1⟩, fun hh => ⟨hh.1, hh.2, fun x hx => ?_, h2⟩⟩
  have := h1 x hx
  rw [List.length_append, hF, hG]
  push_cast
  omega
theorem l01In_dec (x lo hi : Int) (w : World) :
    Calls Try.prog 75 #[.int .i64 x, .int .i64 lo, .int .i64 hi] w fun e w' => e = .returned (.bool (decide (lo ≤ x ∧ x ≤ hi))) ∧ w = w' := by
  by_cases h : lo ≤ x ∧ x ≤ hi
  · rw [decide_eq_true h]
    exact l01In_yes x lo hi w h.1 h.2
  · rw [decide_eq_false h]
    exact l01In_no x lo hi w (by omega)

theorem Own.capN {α : Type} {enc : α → Value} {w : World} {lo hi n c : Nat} {e : TypeId} {A : Option Addr} {l : List α} (h : Own enc w lo hi e (.slice A n c) l) : n ≤ c := by
  obtain ⟨A', c', hv, hl⟩ := h.form
  injection hv with _ h2 h3
  omega
set_option maxRecDepth 100000 in
set_option maxHeartbeats 4000000 in
theorem specIsForm_any (f : Fv) (B : Nat) (F G H : List Int) (w : World) (h : RF w B f F G H) (hB : B ≤ w.heap.size) (hn : f.le 1048576) (hi64 : i64s F) (hi65 : i64s G) :
    Calls Try.prog 69 #[f.v] w fun e w' => e = .returned (.bool (Fm.okB f.a f.b F G H)) ∧ Below w.heap.size w w' := by
  obtain ⟨i0, hi0, hz0, hz1, hz2⟩ := info_parts infoI
  obtain ⟨a, b, A1, n1, c1, A2, n2, c2, A3, n3, c3⟩ := f
  obtain ⟨l1, l2, l3⟩ := hn
  simp only at l1 l2 l3 ⊢
  have hbx := FBx.new w ⟨a, b, A1, n1, c1, A2, n2, c2, A3, n3, c3⟩
  have hB0 := below_alloc w (.cells (Fv.cs ⟨a, b, A1, n1, c1, A2, n2, c2, A3, n3, c3⟩) 26)
  have hr := h.alloc hB (.cells (Fv.cs ⟨a, b, A1, n1, c1, A2, n2, c2, A3, n3, c3⟩) 26)
  obtain ⟨e1, e2, e3⟩ := h.len
  simp only at e1 e2 e3
  have HF := Lib.hid e1
  have HG := Lib.hid e2
  have HH := Lib.hid e3
  have HI : Hid (i64s (F ++ G)) := Lib.hid fun x hx => by
    rcases List.mem_append.1 hx with hx | hx
    · exact hi64 x hx
    · exact hi65 x hx
  obtain ⟨k0, k1, k2, k3, k4⟩ := hbx.fcell
  simp only at k0 k1 k2 k3 k4
  have hsp : ∀ W, Calls Try.prog 55 #[.int .i64 a, .int .i64 b] W fun e w' => e = .returned (.bool (Fo.sheet a b)) ∧ W = w' := fun W => specSheet_any a b W
  clear h e1 e2 e3 hi64 hi65
  cases hsh : Fo.sheet a b
  · rw [hsh] at hsp
    have HN : Hid (Fm.okB a b F G H = false) := Lib.hid (Fm.okB_no (fun hh => by have := hh.1; rw [hsh] at this; cases this))
    clear hsh
    go_enter Try.func69, Try.ntmps69
    go_wp2_with fail
    refine (hsp _).mono ?_
    rintro e _ ⟨rfl, rfl⟩
    go_wp2_with fail
    go_ret
    exact ⟨ret_b HN.out.symm, hB0⟩
  rw [hsh] at hsp
  obtain ⟨N, hN, N1, N64⟩ := Fm.cells_pos hsh
  have HN := Lib.hid hN
  have HS := Lib.hid hsh
  have ew : IntKind.i64.wrap (N : Int) = (N : Int) := IntWalk.i64_in _ (by omega)
  clear hsh
  go_enter Try.func69, Try.ntmps69
  by_cases q1 : n1 = N
  rotate_left
  · have HE : Hid (Fm.okB a b F G H = false) := Lib.hid (Fm.okB_no (fun hh => by have := hh.2.1.1; rw [HF.out, HN.out] at this; omega))
    have t1 : ((n1 : Int) != (N : Int)) = true := by simp; omega
    have t2 : ¬ ((n1 : Int) = (N : Int)) := by omega
    clear q1
    go_wp2_with fail
    refine (hsp _).mono ?_
    rintro e _ ⟨rfl, rfl⟩
    go_wp2_with fail
    go_ret
    exact ⟨ret_b HE.out.symm, hB0⟩
  subst q1
  by_cases q2 : n2 = n1
  rotate_left
  · have HE : Hid (Fm.okB a b F G H = false) := Lib.hid (Fm.okB_no (fun hh => by have := hh.2.1.2.1; rw [HG.out, HN.out] at this; omega))
    have t1 : ((n2 : Int) != (n1 : Int)) = true := by simp; omega
    have t2 : ¬ ((n2 : Int) = (n1 : Int)) := by omega
    clear q2
    go_wp2_with fail
    refine (hsp _).mono ?_
    rintro e _ ⟨rfl, rfl⟩
    go_wp2_with fail
    go_ret
    exact ⟨ret_b HE.out.symm, hB0⟩
  subst q2
  by_cases q3 : n3 = n2
  rotate_left
  · have HE : Hid (Fm.okB a b F G H = false) := Lib.hid (Fm.okB_no (fun hh => by have := hh.2.1.2.2; rw [HH.out, HN.out] at this; omega))
    have t1 : ((n3 : Int) != (n2 : Int)) = true := by simp; omega
    have t2 : ¬ ((n3 : Int) = (n2 : Int)) := by omega
    clear q3
    go_wp2_with fail
    refine (hsp _).mono ?_
    rintro e _ ⟨rfl, rfl⟩
    go_wp2_with fail
    go_ret
    exact ⟨ret_b HE.out.symm, hB0⟩
  subst q3
  by_cases hbt : Fm.bits H
  rotate_left
  · have HE : Hid (Fm.okB a b F G H = false) := Lib.hid (Fm.okB_no (fun hh => hbt hh.2.2.1))
    have HW : Hid (withH H = false) := Lib.hid (decide_eq_false (fun hh => hbt hh.2))
    clear hbt
    go_wp2_with fail
    refine (hsp _).mono ?_
    rintro e _ ⟨rfl, rfl⟩
    go_wp2_with fail
    refine (within_any A3 n3 c3 B H _ hr.r3 l3).mono ?_
    rintro e _ ⟨rfl, rfl⟩
    rw [HW.out]
    go_wp2_with fail
    go_ret
    exact ⟨ret_b HE.out.symm, hB0⟩
  have HW : Hid (withH H = true) := Lib.hid (decide_eq_true ⟨by rw [HH.out]; exact N64, hbt⟩)
  have HO : Hid (∀ bb, decide (Fm.run F G) = bb → Fm.okB a b F G H = bb) := Lib.hid fun bb hb => Fm.okB_iff HS.out (by rw [HF.out, HN.out]) (by rw [HG.out, HN.out]) (by rw [HH.out, HN.out]) hbt hb
  clear hbt
  go_wp2_with fail
  refine (hsp _).mono ?_
  rintro e _ ⟨rfl, rfl⟩
  go_wp2_with fail
  refine (within_any A3 n3 c3 B H _ hr.r3 l3).mono ?_
  rintro e _ ⟨rfl, rfl⟩
  rw [HW.out]
  clear hsp
  generalize hW0 : w.alloc (.cells (Fv.cs ⟨a, b, A1, n3, c1, A2, n3, c2, A3, n3, c3⟩) 26) = W0 at *
  have hwz : w.heap.size < W0.heap.size := by rw [← hW0]; simp
  have hbx0 : FBx W0 w.heap.size ⟨a, b, A1, n3, c1, A2, n3, c2, A3, n3, c3⟩ := by rw [← hW0]; exact FBx.new w _
  clear hW0 hbx
  have HBX := Lib.hid hbx0
  have hR1 := hr.r1
  have hR2 := hr.r2
  simp only at hR1 hR2
  clear hbx0
  go_wp2_with fail
  go_region_law (first
    | (go_simp; go_at_call 109; refine (own_any A1 n3 c1 B F _ (hR1.drewN 1) (by simp; omega) (by omega)).mono ?_; rintro e w2 ⟨A5, c5, rfl, ho5, hb5⟩; have k3' : w2.cell? ⟨w.heap.size, 3, none⟩ = some (.slice A2 n3 c2) := (hb5.cell (p := ⟨w.heap.size, 3, none⟩) (by simpa using hwz)).trans k3)
    | ((refine step_spread w2 rfl (.tmp 47) (.tmp 49) 24 rfl 2 i0 (.int .i64 0) 8 Try.underlying24 hi0 hz0 hz1 hz2 rfl A5 n3 c5 F _ _ (by rfl) ho5 A2 n3 c2 B G (by rfl) ((hR2.drewN 1).below hb5 (by simp; omega)) oneI (by omega) (by omega) (by have hz5 := hb5.size; simpa using hz5) ?_); intro A6 c6 w3 ho6 hm6))
  all_goals
    have hz5 := hb5.size
    have hz6 := hm6.size
    simp at hz5
    have hbl : Below W0.heap.size W0 w3 := ((below_drewN' (Below.refl _ W0) 1).trans hb5).trans (hm6.below (by simp) hz5)
    have hr3 := hr.below hbl (by omega)
    have hcap := ho6.capN
    have hR6 := ho6.rd
    have hbx3 := HBX.out.below hbl hwz
    have HB3 := Lib.hid (hB0.trans (hbl.mono (by omega)))
    obtain ⟨M, hM⟩ : ∃ M, n3 + n3 = M := ⟨_, rfl⟩
    rw [hM] at hcap hR6 ⊢
    clear k0 k1 k2 k3 k3' k4 hb5 hm6 ho6 hR1 hR2 hr hbl hB0
    obtain ⟨k0, k1, k2, k3, k4⟩ := hbx3.fcell
    simp only at k0 k1 k2 k3 k4
    obtain ⟨m, hm⟩ : ∃ m, Fm.lst (F ++ G) = m := ⟨_, rfl⟩
    have hne : F ++ G ≠ [] := by
      intro he
      have := congrArg List.length he
      rw [List.length_append, HF.out] at this
      simp at this
      omega
    have hm64 := HI.out _ (Fm.lst_is hne).1
    rw [hm] at hm64
    obtain ⟨u, v, e1, e2, e3⟩ := wrap_hi m n3 N1 N64 hm64
    have HM := Lib.hid hm
    have HV := Lib.hid e3
    have HLE : Hid (∀ x ∈ F ++ G, m ≤ x) := Lib.hid (by rw [← hm]; exact (Fm.lst_is hne).2)
    have e0 : IntKind.i64.wrap (2 * (n3 : Int)) = 2 * (n3 : Int) := IntWalk.i64_in _ (by omega)
    have HNM := Lib.hid hM
    have hsl := specLeast_any ⟨a, b, A1, n3, c1, A2, n3, c2, A3, n3, c3⟩ B F G H w3 hr3 (by omega) ⟨l1, l2, l3⟩ N1 rfl
    rw [hm] at hsl
    clear hm hne hm64 e3 hM
    go_wp2_with fail
    refine hsl.mono ?_
    rintro e w4 ⟨rfl, hb4⟩
    have hR4 := (hR6.below hb4 (Nat.le_refl _))
    have HB4 := Lib.hid (HB3.out.trans (hb4.mono (by omega)))
    clear hsl hR6 hr3 hb4 k0 k1 k2 k3 k4 hbx3
    go_wp2_with fail
    go_loopw [6] (fun i wr => ∃ k : Nat, k ≤ M ∧ i = .int .i64 k ∧ Hid (runTo v ((F ++ G).take k)) ∧ Q w4 wr) (fun i _ => M - (intOf i).toNat)
    case atStart => exact ⟨0, Nat.zero_le _, rfl, Lib.hid (runTo.zero _ _), Q.refl _⟩
    case round =>
      obtain ⟨k, hk, rfl, hrun, hq⟩ := hrel
      have h := hR4.q hq
      have HMb : M ≤ 128 := by have := HNM.out; omega
      by_cases hlt : k < M
      · have hT := h.take (k := k) hk
        obtain ⟨bb, oo, x, rfl, hbB, hx, hcx⟩ := h.at_ hlt
        have HX := Lib.hid hx
        have hmx := HLE.out x (List.mem_of_getElem? hx)
        clear hx
        by_cases hin : x ≤ v
        · by_cases hmem : x ∈ (F ++ G).take k
          · have HD := Lib.hid hmem
            clear hmem
            go_wp2
            go_quiet (first | (go_at_call 75; exact quiet_same (l01In_yes _ _ _ _ hmx hin)) | (go_at_call 82; exact quiet_same (l01Has_yes _ _ _ _ _ _ _ hT (by omega) HD.out)))
            go_wp2
            go_ret
            exact ⟨ret_b (HO.out _ (Fm.run_dup HX.out HD.out)).symm, HB4.out.trans ((hq.more _).below _)⟩
          · have HD := Lib.hid hmem
            clear hmem
            go_wp2
            go_quiet (first | (go_at_call 75; exact quiet_same (l01In_yes _ _ _ _ hmx hin)) | (go_at_call 82; exact quiet_same (l01Has_no _ _ _ _ _ _ _ hT (by omega) HD.out)))
            go_wp2
            go_roundw
            case rel => exact ⟨k + 1, by omega, by go_num, Lib.hid (hrun.out.next HX.out hin HD.out), hq.more _⟩
            case measure => simp [intOf]; omega
        · go_wp2
          go_quiet (first | (go_at_call 75; exact quiet_same (l01In_no _ _ _ _ (by omega))))
          go_wp2
          go_ret
          exact ⟨ret_b (HO.out _ (Fm.run_far HF.out HG.out (by rw [HM.out]; exact HV.out) HX.out (by omega))).symm, HB4.out.trans ((hq.more _).below _)⟩
      · obtain rfl : k = M := by omega
        have HE : Hid (Fm.okB a b F G H = (decide (1 ≤ m) && decide (m ≤ 1000000000))) := Lib.hid (HO.out _ (by
          have := Fm.run_all HF.out HG.out N1 (by rw [HM.out]; exact HV.out) (by have := hrun.out; rwa [← HNM.out, ← Nat.two_mul] at this)
          rwa [HM.out] at this))
        go_wp2
        all_goals go_ret
        all_goals exact ⟨ret_b (by rw [HE.out]; simp <;> omega), HB4.out.trans (hq.below _)⟩
end Go.Proofs.Ytfiefjbipjalpaa
