/- Contracts of the program's tests of a gang and of ups, and of IsGang. -/
import Derived.Test.YtilfmnffdloneaaGaDc
import Derived.Deep.RegionHeld3
namespace Go.Proofs.Ytilfmnffdloneaa
open Go.RowKit
set_option linter.unusedVariables false

abbrev Ga.i64 (r : Int) : Prop := -9223372036854775808 ≤ r ∧ r ≤ 9223372036854775807
/-- A gang as a value, and the box that it lies in. -/
abbrev GV (r : Int) (A : Option Addr) (n c : Nat) : Value := .agg #[.int .i64 r, .slice A n c]
abbrev GBx (w : World) (g : Nat) (r : Int) (A : Option Addr) (n c : Nat) : Prop := Blk w g #[.int .i64 r, .slice A n c] 57
theorem below_newG (w : World) (o : Obj) : Below w.heap.size w (w.alloc o) := (Below.refl _ _).alloc (Nat.le_refl _) _
set_option maxRecDepth 100000 in
set_option maxHeartbeats 4000000 in
theorem gangLoop_any (r : Int) (A : Option Addr) (n c B : Nat) (s : List Int) (b : Bool) (w : World) (h : Rd I w B A n s) (hB : B ≤ w.heap.size) (h1 : 1 ≤ r) (h2 : r ≤ 32) (h3 : 1 ≤ n) (h4 : n ≤ 6) (h5 : (n : Int) ≤ r) (HE : Hid ((s.all fun x => decide (1 ≤ x ∧ x ≤ 1000000)) = b)) :
    Calls Try.prog 45 #[GV r A n c] w fun e w' => e = .returned (.bool b) ∧ Below w.heap.size w w' := by
  have HL := Lib.hid h.1
  have HN := Lib.hid (below_newG w (.cells #[.int .i64 r, .slice A n c] 57))
  have hbx : GBx (w.alloc (.cells #[.int .i64 r, .slice A n c] 57)) w.heap.size r A n c := Blk.new _ _ rfl
  have hr0 := h.alloc hB (.cells #[.int .i64 r, .slice A n c] 57)
  have c0 := hbx.cell 0 (v := .int .i64 r) rfl
  have c1 := hbx.cell 1 (v := .slice A n c) rfl
  clear hbx
  have g1 : ¬ r < 1 := by omega
  have g2 : ¬ 32 < r := by omega
  have g3 : ¬ (n : Int) < 1 := by omega
  have g4 : ¬ (6 : Int) < (n : Int) := by omega
  have g5 : ¬ r < (n : Int) := by omega
  clear h1 h2 h3 h4 h5
  rcases Int.lt_trichotomy 6 r with hlu | hlu | hlu
  · have k1 : ¬ r < 6 := by omega
    have k2 : ¬ r ≤ 6 := by omega
    have k3 : (6 : Int) ≤ r := by omega
    go_enter Try.func45, Try.ntmps45
    go_wp2_with fail
    go_loop [5, 31] (fun _ i => ∃ k : Nat, k ≤ n ∧ i = .int .i64 k ∧ Hid (∀ x ∈ s.take k, 1 ≤ x ∧ x ≤ 1000000)) (fun _ i => n - (intOf i).toNat)
    case atStart => exact ⟨0, Nat.zero_le _, rfl, Lib.hid (by simp)⟩
    case round =>
      obtain ⟨k, hk, rfl, HA⟩ := hrel
      by_cases hlt : k < n
      · obtain ⟨b1, o, x, rfl, hbB, hx, hc⟩ := hr0.at_ hlt
        have HX := Lib.hid hx
        clear hx
        have bad : (x < 1 ∨ 1000000 < x) → Hid (b = false) := fun h => Lib.hid (by
          rw [← HE.out, List.all_eq_false]
          exact ⟨x, List.mem_of_getElem? HX.out, by simp; omega⟩)
        by_cases hx1 : x < 1
        · have HF := bad (.inl hx1)
          clear bad
          go_wp2_with fail
          go_ret
          exact ⟨ret_b HF.out.symm, HN.out⟩
        by_cases hx2 : 1000000 < x
        · have HF := bad (.inr hx2)
          clear bad
          go_wp2_with fail
          go_ret
          exact ⟨ret_b HF.out.symm, HN.out⟩
        clear bad
        have HA2 : Hid (∀ y ∈ s.take (k + 1), 1 ≤ y ∧ y ≤ 1000000) := Lib.hid (by
          rw [take_nextGa s k x HX.out]
          intro y hy
          rcases List.mem_append.1 hy with hy | hy
          · exact HA.out y hy
          · simp at hy; subst hy; omega)
        go_wp2_with fail
        go_round
        case rel => exact ⟨k + 1, by omega, by go_num, HA2⟩
        case measure => simp [intOf]; omega
      · obtain rfl : k = n := by omega
        have HT : Hid (b = true) := Lib.hid (by
          rw [← HE.out, List.all_eq_true]
          intro x hx
          have h3 := HA.out
          rw [List.take_of_length_le (by rw [HL.out]; exact Nat.le_refl _)] at h3
          exact decide_eq_true (h3 x hx))
        go_wp2_with fail
        go_ret
        exact ⟨ret_b HT.out.symm, HN.out⟩
  · subst hlu
    go_enter Try.func45, Try.ntmps45
    go_wp2_with fail
    go_loop [5, 31] (fun _ i => ∃ k : Nat, k ≤ n ∧ i = .int .i64 k ∧ Hid (∀ x ∈ s.take k, 1 ≤ x ∧ x ≤ 1000000)) (fun _ i => n - (intOf i).toNat)
    case atStart => exact ⟨0, Nat.zero_le _, rfl, Lib.hid (by simp)⟩
    case round =>
      obtain ⟨k, hk, rfl, HA⟩ := hrel
      by_cases hlt : k < n
      · obtain ⟨b1, o, x, rfl, hbB, hx, hc⟩ := hr0.at_ hlt
        have HX := Lib.hid hx
        clear hx
        have bad : (x < 1 ∨ 1000000 < x) → Hid (b = false) := fun h => Lib.hid (by
          rw [← HE.out, List.all_eq_false]
          exact ⟨x, List.mem_of_getElem? HX.out, by simp; omega⟩)
        by_cases hx1 : x < 1
        · have HF := bad (.inl hx1)
          clear bad
          go_wp2_with fail
          go_ret
          exact ⟨ret_b HF.out.symm, HN.out⟩
        by_cases hx2 : 1000000 < x
        · have HF := bad (.inr hx2)
          clear bad
          go_wp2_with fail
          go_ret
          exact ⟨ret_b HF.out.symm, HN.out⟩
        clear bad
        have HA2 : Hid (∀ y ∈ s.take (k + 1), 1 ≤ y ∧ y ≤ 1000000) := Lib.hid (by
          rw [take_nextGa s k x HX.out]
          intro y hy
          rcases List.mem_append.1 hy with hy | hy
          · exact HA.out y hy
          · simp at hy; subst hy; omega)
        go_wp2_with fail
        go_round
        case rel => exact ⟨k + 1, by omega, by go_num, HA2⟩
        case measure => simp [intOf]; omega
      · obtain rfl : k = n := by omega
        have HT : Hid (b = true) := Lib.hid (by
          rw [← HE.out, List.all_eq_true]
          intro x hx
          have h3 := HA.out
          rw [List.take_of_length_le (by rw [HL.out]; exact Nat.le_refl _)] at h3
          exact decide_eq_true (h3 x hx))
        go_wp2_with fail
        go_ret
        exact ⟨ret_b HT.out.symm, HN.out⟩
  · have k1 : ¬ 6 < r := by omega
    have k2 : ¬ 6 ≤ r := by omega
    have k3 : r ≤ 6 := by omega
    go_enter Try.func45, Try.ntmps45
    go_wp2_with fail
    go_loop [5, 31] (fun _ i => ∃ k : Nat, k ≤ n ∧ i = .int .i64 k ∧ Hid (∀ x ∈ s.take k, 1 ≤ x ∧ x ≤ 1000000)) (fun _ i => n - (intOf i).toNat)
    case atStart => exact ⟨0, Nat.zero_le _, rfl, Lib.hid (by simp)⟩
    case round =>
      obtain ⟨k, hk, rfl, HA⟩ := hrel
      by_cases hlt : k < n
      · obtain ⟨b1, o, x, rfl, hbB, hx, hc⟩ := hr0.at_ hlt
        have HX := Lib.hid hx
        clear hx
        have bad : (x < 1 ∨ 1000000 < x) → Hid (b = false) := fun h => Lib.hid (by
          rw [← HE.out, List.all_eq_false]
          exact ⟨x, List.mem_of_getElem? HX.out, by simp; omega⟩)
        by_cases hx1 : x < 1
        · have HF := bad (.inl hx1)
          clear bad
          go_wp2_with fail
          go_ret
          exact ⟨ret_b HF.out.symm, HN.out⟩
        by_cases hx2 : 1000000 < x
        · have HF := bad (.inr hx2)
          clear bad
          go_wp2_with fail
          go_ret
          exact ⟨ret_b HF.out.symm, HN.out⟩
        clear bad
        have HA2 : Hid (∀ y ∈ s.take (k + 1), 1 ≤ y ∧ y ≤ 1000000) := Lib.hid (by
          rw [take_nextGa s k x HX.out]
          intro y hy
          rcases List.mem_append.1 hy with hy | hy
          · exact HA.out y hy
          · simp at hy; subst hy; omega)
        go_wp2_with fail
        go_round
        case rel => exact ⟨k + 1, by omega, by go_num, HA2⟩
        case measure => simp [intOf]; omega
      · obtain rfl : k = n := by omega
        have HT : Hid (b = true) := Lib.hid (by
          rw [← HE.out, List.all_eq_true]
          intro x hx
          have h3 := HA.out
          rw [List.take_of_length_le (by rw [HL.out]; exact Nat.le_refl _)] at h3
          exact decide_eq_true (h3 x hx))
        go_wp2_with fail
        go_ret
        exact ⟨ret_b HT.out.symm, HN.out⟩
set_option maxRecDepth 100000 in
set_option maxHeartbeats 4000000 in
theorem gangMost_any (r : Int) (A : Option Addr) (n c B : Nat) (s : List Int) (b : Bool) (w : World) (h : Rd I w B A n s) (hB : B ≤ w.heap.size) (h1 : 1 ≤ r) (h2 : r ≤ 32) (h3 : 1 ≤ n) (h4 : 6 < n ∨ r < (n : Int)) (HF : Hid (b = false)) :
    Calls Try.prog 45 #[GV r A n c] w fun e w' => e = .returned (.bool b) ∧ Below w.heap.size w w' := by
  have HL := Lib.hid h.1
  have HN := Lib.hid (below_newG w (.cells #[.int .i64 r, .slice A n c] 57))
  have hbx : GBx (w.alloc (.cells #[.int .i64 r, .slice A n c] 57)) w.heap.size r A n c := Blk.new _ _ rfl
  have hr0 := h.alloc hB (.cells #[.int .i64 r, .slice A n c] 57)
  have c0 := hbx.cell 0 (v := .int .i64 r) rfl
  have c1 := hbx.cell 1 (v := .slice A n c) rfl
  clear hbx
  have g1 : ¬ r < 1 := by omega
  have g2 : ¬ 32 < r := by omega
  have g3 : ¬ (n : Int) < 1 := by omega
  rcases Int.lt_trichotomy 6 r with hlu | hlu | hlu
  · have k1 : ¬ r < 6 := by omega
    have k2 : ¬ r ≤ 6 := by omega
    have k3 : (6 : Int) ≤ r := by omega
    have g5 : (6 : Int) < (n : Int) := by omega
    clear h1 h2 h3 h4
    go_enter Try.func45, Try.ntmps45
    go_wp2_with fail
    go_ret
    exact ⟨ret_b HF.out.symm, HN.out⟩
  · subst hlu
    have g5 : (6 : Int) < (n : Int) := by omega
    clear h1 h2 h3 h4
    go_enter Try.func45, Try.ntmps45
    go_wp2_with fail
    go_ret
    exact ⟨ret_b HF.out.symm, HN.out⟩
  · have k1 : ¬ 6 < r := by omega
    have k2 : ¬ 6 ≤ r := by omega
    have k3 : r ≤ 6 := by omega
    have g5 : r < (n : Int) := by omega
    clear h1 h2 h3 h4
    go_enter Try.func45, Try.ntmps45
    go_wp2_with fail
    go_ret
    exact ⟨ret_b HF.out.symm, HN.out⟩
set_option maxRecDepth 100000 in
set_option maxHeartbeats 4000000 in
theorem implGv_any (r : Int) (A : Option Addr) (n c B : Nat) (s : List Int) (b : Bool) (w : World) (h : Rd I w B A n s) (hB : B ≤ w.heap.size) (hn : n ≤ 1048576) (hb : Ga.okG r s = b) :
    Calls Try.prog 45 #[GV r A n c] w fun e w' => e = .returned (.bool b) ∧ Below w.heap.size w w' := by
  have HL := Lib.hid h.1
  have HB := Lib.hid hb
  have no : ¬ ((1 ≤ r ∧ r ≤ 32) ∧ 1 ≤ n ∧ (n : Int) ≤ r ∧ n ≤ 6) → Hid (b = false) := fun hno => Lib.hid (by
    rw [← HB.out]
    cases e : Ga.okG r s
    · rfl
    · have h9 := Ga.okG_iff.1 e
      rw [HL.out] at h9
      exact absurd ⟨h9.1, h9.2.1, h9.2.2.1, h9.2.2.2.1⟩ hno)
  by_cases hr1 : r < 1 ∨ 32 < r ∨ n < 1
  · have HF := no (by omega)
    clear no hb
    have HN := Lib.hid (below_newG w (.cells #[.int .i64 r, .slice A n c] 57))
    have hbx : GBx (w.alloc (.cells #[.int .i64 r, .slice A n c] 57)) w.heap.size r A n c := Blk.new _ _ rfl
    have hr0 := h.alloc hB (.cells #[.int .i64 r, .slice A n c] 57)
    have c0 := hbx.cell 0 (v := .int .i64 r) rfl
    have c1 := hbx.cell 1 (v := .slice A n c) rfl
    clear hbx
    by_cases h1 : r < 1
    · go_enter Try.func45, Try.ntmps45
      go_wp2_with fail
      go_ret
      exact ⟨ret_b HF.out.symm, HN.out⟩
    by_cases h2 : 32 < r
    · go_enter Try.func45, Try.ntmps45
      go_wp2_with fail
      go_ret
      exact ⟨ret_b HF.out.symm, HN.out⟩
    obtain rfl : n = 0 := by omega
    go_enter Try.func45, Try.ntmps45
    go_wp2_with fail
    go_ret
    exact ⟨ret_b HF.out.symm, HN.out⟩
  by_cases h4 : 6 < n ∨ r < (n : Int)
  · exact gangMost_any r A n c B s b w h hB (by omega) (by omega) (by omega) h4 (no (by omega))
  · refine gangLoop_any r A n c B s b w h hB (by omega) (by omega) (by omega) (by omega) (by omega) (Lib.hid ?_)
    rw [← HB.out]
    unfold Ga.okG Ga.wi
    rw [HL.out, decide_eq_true (show 1 ≤ r ∧ r ≤ 32 by omega), decide_eq_true (show 1 ≤ n by omega), decide_eq_true (show (n : Int) ≤ r by omega), decide_eq_true (show n ≤ 6 by omega), Bool.true_and, Bool.true_and, Bool.true_and, Bool.true_and]
set_option maxRecDepth 100000 in
theorem implGaG_any (r : Int) (A : Option Addr) (n c B : Nat) (q : List Int) (b : Bool) (w : World) (h : Rd I w B A n q) (hB : B ≤ w.heap.size) (hn : n ≤ 1048576) (hc : n ≤ c) (hr : Ga.i64 r) (hb : Ga.okG r q = b) :
    Calls Try.prog 28 #[.int .i64 r, .slice A n c] w fun e w' => e = .returned (.bool b) ∧ Below w.heap.size w w' := by
  go_enter Try.func28, Try.ntmps28
  go_wp2_with fail
  refine (implGv_any r A n c B q b _ h hB hn hb).mono ?_
  rintro e w1 ⟨rfl, hb1⟩
  go_wp2_with fail
  go_ret
  exact ⟨rfl, hb1⟩
end Go.Proofs.Ytilfmnffdloneaa
