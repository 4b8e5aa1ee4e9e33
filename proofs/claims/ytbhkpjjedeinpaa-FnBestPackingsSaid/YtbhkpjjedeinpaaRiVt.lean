/- Contracts of the program's test of a task, and of IsRollTask. -/
import Derived.Test.YtbhkpjjedeinpaaRlBe
import Derived.Deep.RegionHeld3
namespace Go.Proofs.Ytbhkpjjedeinpaa
open Go.RowKit
set_option linter.unusedVariables false

abbrev i64b (r : Int) : Prop := -9223372036854775808 ≤ r ∧ r ≤ 9223372036854775807
/-- A task as a value, and the box that it lies in. -/
abbrev TV (r : Int) (A : Option Addr) (n c : Nat) : Value := .agg #[.int .i64 r, .slice A n c]
abbrev TBx (w : World) (g : Nat) (r : Int) (A : Option Addr) (n c : Nat) : Prop := Blk w g #[.int .i64 r, .slice A n c] 44
theorem below_newR (w : World) (o : Obj) : Below w.heap.size w (w.alloc o) := (Below.refl _ _).alloc (Nat.le_refl _) _
set_option maxRecDepth 100000 in
set_option maxHeartbeats 4000000 in
theorem implVt_any (r : Int) (A : Option Addr) (n c B : Nat) (s : List Int) (b : Bool) (w : World) (h : Rd I w B A n s) (hB : B ≤ w.heap.size) (hn : n ≤ 1048576) (hb : Rl.okT r s = b) :
    Calls Try.prog 41 #[TV r A n c] w fun e w' => e = .returned (.bool b) ∧ Below w.heap.size w w' := by
  have HB := Lib.hid hb
  have HL := Lib.hid h.1
  have HN := Lib.hid (below_newR w (.cells #[.int .i64 r, .slice A n c] 44))
  have hbx : TBx (w.alloc (.cells #[.int .i64 r, .slice A n c] 44)) w.heap.size r A n c := Blk.new _ _ rfl
  have hr0 := h.alloc hB (.cells #[.int .i64 r, .slice A n c] 44)
  have c0 := hbx.cell 0 (v := .int .i64 r) rfl
  have c1 := hbx.cell 1 (v := .slice A n c) rfl
  clear hb hbx
  by_cases h1 : r < 1
  · have HF : Hid (b = false) := Lib.hid (by rw [← HB.out]; unfold Rl.okT; rw [decide_eq_false (by omega), Bool.false_and])
    go_enter Try.func41, Try.ntmps41
    go_wp2_with fail
    go_ret
    exact ⟨ret_b HF.out.symm, HN.out⟩
  by_cases h2 : 100000 < r
  · have HF : Hid (b = false) := Lib.hid (by rw [← HB.out]; unfold Rl.okT; rw [decide_eq_false (by omega), Bool.false_and])
    go_enter Try.func41, Try.ntmps41
    go_wp2_with fail
    go_ret
    exact ⟨ret_b HF.out.symm, HN.out⟩
  by_cases h3 : 12 < n
  · have HF : Hid (b = false) := Lib.hid (by rw [← HB.out]; unfold Rl.okT; rw [HL.out, decide_eq_false (show ¬ n ≤ 12 by omega), Bool.false_and, Bool.and_false])
    have h3I : (12 : Int) < (n : Int) := by omega
    go_enter Try.func41, Try.ntmps41
    go_wp2_with fail
    go_ret
    exact ⟨ret_b HF.out.symm, HN.out⟩
  have h3I : ¬ (12 : Int) < (n : Int) := by omega
  have HE : Hid ((s.all fun x => decide (1 ≤ x ∧ x ≤ r)) = b) := Lib.hid (by rw [← HB.out]; unfold Rl.okT; rw [HL.out, decide_eq_true (show 1 ≤ r ∧ r ≤ 100000 by omega), decide_eq_true (show n ≤ 12 by omega), Bool.true_and, Bool.true_and])
  go_enter Try.func41, Try.ntmps41
  go_wp2_with fail
  go_loop [4, 22] (fun _ i => ∃ k : Nat, k ≤ n ∧ i = .int .i64 k ∧ Hid (∀ x ∈ s.take k, 1 ≤ x ∧ x ≤ r)) (fun _ i => n - (intOf i).toNat)
  case atStart => exact ⟨0, Nat.zero_le _, rfl, Lib.hid (by simp)⟩
  case round =>
    obtain ⟨k, hk, rfl, HA⟩ := hrel
    by_cases hlt : k < n
    · obtain ⟨b1, o, x, rfl, hbB, hx, hc⟩ := hr0.at_ hlt
      have HX := Lib.hid hx
      clear hx
      have bad : (x < 1 ∨ r < x) → Hid (b = false) := fun h => Lib.hid (by
        rw [← HE.out, List.all_eq_false]
        exact ⟨x, List.mem_of_getElem? HX.out, by simp; omega⟩)
      by_cases hx1 : x < 1
      · have HF := bad (.inl hx1)
        clear bad
        go_wp2_with fail
        go_ret
        exact ⟨ret_b HF.out.symm, HN.out⟩
      by_cases hx2 : r < x
      · have HF := bad (.inr hx2)
        clear bad
        go_wp2_with fail
        go_ret
        exact ⟨ret_b HF.out.symm, HN.out⟩
      clear bad
      have HA2 : Hid (∀ y ∈ s.take (k + 1), 1 ≤ y ∧ y ≤ r) := Lib.hid (by
        rw [take_nextRl s k x HX.out]
        intro y hy
        rcases List.mem_append.1 hy with hy | hy
        · exact HA.out y hy
        · simp at hy; subst hy; omega)
      go_wp2_with fail
      go_round
      case rel => exact ⟨k + 1, by omega, by go_num, HA2⟩
      case measure => simp [intOf]; omega
    · obtain rfl : k = n := by omega
      have HT : Hid (b = true) := Lib.hid (by
        rw [← HE.out, List.all_eq_true]
        intro x hx
        have h3 := HA.out
        rw [List.take_of_length_le (by rw [HL.out]; exact Nat.le_refl _)] at h3
        exact decide_eq_true (h3 x hx))
      go_wp2_with fail
      go_ret
      exact ⟨ret_b HT.out.symm, HN.out⟩
set_option maxRecDepth 100000 in
theorem implRlT_any (r : Int) (A : Option Addr) (n c B : Nat) (s : List Int) (b : Bool) (w : World) (h : Rd I w B A n s) (hB : B ≤ w.heap.size) (hn : n ≤ 1048576) (hc : n ≤ c) (hr : i64b r) (hb : Rl.okT r s = b) :
    Calls Try.prog 26 #[.int .i64 r, .slice A n c] w fun e w' => e = .returned (.bool b) ∧ Below w.heap.size w w' := by
  go_enter Try.func26, Try.ntmps26
  go_wp2_with fail
  refine (implVt_any r A n c B s b _ h hB hn hb).mono ?_
  rintro e w1 ⟨rfl, hb1⟩
  go_wp2_with fail
  go_ret
  exact ⟨rfl, hb1⟩
end Go.Proofs.Ytbhkpjjedeinpaa
