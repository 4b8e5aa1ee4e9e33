/- Contracts of the model's IsPacking and RollBound. -/
import Derived.Test.YtbhkpjjedeinpaaRlLo
import Derived.Test.YtbhkpjjedeinpaaPad
namespace Go.Proofs.Ytbhkpjjedeinpaa
open Go.RowKit
set_option linter.unusedVariables false

namespace Rl
theorem num_next {p : List Int} {k : Nat} {x : Int} (h : numB 0 (p.take k) = true) (hx : p[k]? = some x) (h0 : 0 ≤ x) (h1 : x ≤ (rolls (p.take k) : Int)) : numB 0 (p.take (k + 1)) = true ∧ (rolls (p.take (k + 1)) : Int) = max (rolls (p.take k) : Int) (x + 1) := by
  rw [take_nextRl p k x hx]
  refine ⟨?_, by rw [rolls_append]; simp only [rolls]; omega⟩
  rw [numB_append 0 _ _ (by omega) (numB_pos h), h]
  simp only [numB, Bool.true_and, Bool.and_true, decide_eq_true_eq]
  omega
theorem num_stop {p : List Int} {k : Nat} {x : Int} (h : numB 0 (p.take k) = true) (hx : p[k]? = some x) (h1 : x < 0 ∨ (rolls (p.take k) : Int) < x) : numB 0 p = false := by
  have hk : k < p.length := (List.getElem?_eq_some_iff.1 hx).1
  have e : p = p.take k ++ x :: p.drop (k + 1) := by
    have h2 := List.take_append_drop k p
    rw [List.drop_eq_getElem_cons hk] at h2
    rw [List.getElem?_eq_getElem hk] at hx
    injection hx with hx
    rw [hx] at h2
    exact h2.symm
  rw [e, numB_append 0 _ _ (by omega) (numB_pos h), h]
  simp only [numB, Bool.true_and]
  rw [decide_eq_false (by omega), Bool.false_and]
theorem num_all {p : List Int} (h : numB 0 p = true) (hl : p.length ≤ 12) : ∀ k ∈ p, 0 ≤ k ∧ k ≤ 100 := by
  have h1 := rolls_le h (by omega)
  have h2 : ∀ q : List Int, ∀ k ∈ q, k < (rolls q : Int) := by
    intro q
    induction q with
    | nil => simp
    | cons a q ih =>
      intro k hk
      simp only [rolls]
      rcases List.mem_cons.1 hk with rfl | hk
      · omega
      · have := ih k hk; omega
  intro k hk
  have := h2 p k hk
  have := numB_pos h k hk
  omega
end Rl
set_option maxRecDepth 100000 in
set_option maxHeartbeats 4000000 in
theorem specRlP_any (r : Int) (A1 A2 : Option Addr) (n1 c1 B1 n2 c2 B2 : Nat) (s p : List Int) (b : Bool) (w : World) (h1 : Rd I w B1 A1 n1 s) (h2 : Rd I w B2 A2 n2 p) (hB1 : B1 ≤ w.heap.size) (hB2 : B2 ≤ w.heap.size) (hn1 : n1 ≤ 1048576) (hn2 : n2 ≤ 1048576) (hb : Rl.isP r s p = b) :
    Calls Try.prog 36 #[.int .i64 r, .slice A1 n1 c1, .slice A2 n2 c2] w fun e w' => e = .returned (.bool b) ∧ Below w.heap.size w w' := by
  have HB := Lib.hid hb
  have HL1 := Lib.hid h1.1
  have HL2 := Lib.hid h2.1
  clear hb
  obtain ⟨d, hd⟩ : ∃ d, Rl.okT r s = d := ⟨_, rfl⟩
  have HD := Lib.hid hd
  have hT := fun W (hW : Rd I W B1 A1 n1 s) => specRlT_any r A1 n1 c1 B1 s d W hW hn1 HD.out
  clear hd
  cases d
  · have HF : Hid (b = false) := Lib.hid (by rw [← HB.out]; unfold Rl.isP; rw [HD.out, Bool.false_and])
    go_enter Try.func36, Try.ntmps36
    go_wp2_with fail
    refine (hT _ h1).mono ?_
    rintro e _ ⟨rfl, rfl⟩
    go_wp2_with fail
    go_ret
    exact ⟨ret_b HF.out.symm, Below.refl _ _⟩
  by_cases hnn : n2 = n1
  rotate_left
  · have HF : Hid (b = false) := Lib.hid (by rw [← HB.out]; unfold Rl.isP; rw [HL1.out, HL2.out, decide_eq_false hnn, Bool.false_and, Bool.and_false])
    have hnI : ¬ ((n2 : Int) = (n1 : Int)) := by omega
    go_enter Try.func36, Try.ntmps36
    go_wp2_with fail
    refine (hT _ h1).mono ?_
    rintro e _ ⟨rfl, rfl⟩
    go_wp2_with fail
    go_ret
    exact ⟨ret_b HF.out.symm, Below.refl _ _⟩
  subst hnn
  have hn12 : n2 ≤ 12 := by have := (Rl.okT_iff.1 HD.out).2.1; rw [HL1.out] at this; exact this
  have HE : Hid ((Rl.numB 0 p && (Rl.loads s p).all fun x => decide (x ≤ r)) = b) := Lib.hid (by rw [← HB.out]; unfold Rl.isP; rw [HD.out, HL1.out, HL2.out]; simp)
  go_enter Try.func36, Try.ntmps36
  go_wp2_with fail
  refine (hT _ h1).mono ?_
  rintro e _ ⟨rfl, rfl⟩
  clear hT
  go_wp2_with fail
  go_loop [7, 8] (fun v i => ∃ (k m : Nat), k ≤ n2 ∧ m ≤ 13 ∧ i = .int .i64 k ∧ v = .int .i64 m ∧ Hid (Rl.numB 0 (p.take k) = true) ∧ Hid (Rl.rolls (p.take k) = m) ∧ Hid (m ≤ k)) (fun _ i => n2 - (intOf i).toNat)
  case atStart => exact ⟨0, 0, Nat.zero_le _, by omega, rfl, rfl, Lib.hid (by simp [Rl.numB]), Lib.hid (by simp [Rl.rolls]), Lib.hid (Nat.le_refl _)⟩
  case round =>
    obtain ⟨k, m, hk, hm, rfl, rfl, HN, HR, HMK⟩ := hrel
    by_cases hlt : k < n2
    · obtain ⟨b1, o, x, rfl, hbB, hx, hc⟩ := h2.at_ hlt
      have HX := Lib.hid hx
      clear hx
      by_cases hok : 0 ≤ x ∧ x ≤ (m : Int)
      · have hin := fun W => l01In_yes x 0 (m : Int) W hok.1 hok.2
        have hnx := Rl.num_next HN.out HX.out hok.1 (by rw [HR.out]; exact hok.2)
        rw [HR.out] at hnx
        have HNX := Lib.hid hnx
        have hmk : m ≤ k := HMK.out
        have ex : IntKind.i64.wrap (x + 1) = x + 1 := IntWalk.i64_in _ (by omega)
        by_cases hlx : x + 1 ≤ (m : Int)
        · have h3 : ¬ (m : Int) < x + 1 := by omega
          have HM2 : Hid (Rl.rolls (p.take (k + 1)) = m) := Lib.hid (by have := HNX.out.2; omega)
          clear hnx hok
          go_wp2_with fail
          refine (hin _).mono ?_
          rintro e _ ⟨rfl, rfl⟩
          go_wp2_with fail
          go_round
          case rel => exact ⟨k + 1, m, by omega, hm, by go_num, by first | rfl | (simp; omega), Lib.hid HNX.out.1, HM2, Lib.hid (by omega)⟩
          case measure => simp [intOf]; omega
        · have h3 : (m : Int) < x + 1 := by omega
          obtain ⟨q, rfl⟩ := Int.eq_ofNat_of_zero_le hok.1
          have hqm : q = m := by omega
          subst hqm
          have HM2 : Hid (Rl.rolls (p.take (k + 1)) = q + 1) := Lib.hid (by have := HNX.out.2; omega)
          have h4 : ¬ ((q : Int) + 1 ≤ (q : Int)) := by omega
          clear hnx hok hlx
          go_wp2_with fail
          refine (hin _).mono ?_
          rintro e _ ⟨rfl, rfl⟩
          go_wp2_with fail
          go_round
          case rel => exact ⟨k + 1, q + 1, by omega, by omega, by go_num, by first | rfl | (simp; omega), Lib.hid HNX.out.1, HM2, Lib.hid (by omega)⟩
          case measure => simp [intOf]; omega
      · have hin := fun W => l01In_no x 0 (m : Int) W (by omega)
        have HF : Hid (b = false) := Lib.hid (by
          rw [← HE.out, Rl.num_stop HN.out HX.out (by rw [HR.out]; omega), Bool.false_and])
        clear hok
        go_wp2_with fail
        refine (hin _).mono ?_
        rintro e _ ⟨rfl, rfl⟩
        go_wp2_with fail
        go_ret
        exact ⟨ret_b HF.out.symm, Below.refl _ _⟩
    · obtain rfl : k = n2 := by omega
      have HNP : Hid (Rl.numB 0 p = true) := Lib.hid (by have := HN.out; rwa [List.take_of_length_le (by rw [HL2.out]; exact Nat.le_refl _)] at this)
      have HE2 : Hid (((Rl.loads s p).all fun x => decide (x ≤ r)) = b) := Lib.hid (by rw [← HE.out, HNP.out, Bool.true_and])
      have hlo := fun W (hW1 : Rd I W B1 A1 k s) (hW2 : Rd I W B2 A2 k p) (hz1 : B1 ≤ W.heap.size) (hz2 : B2 ≤ W.heap.size) => specLo_any A1 A2 k c1 B1 k c2 B2 s p W hW1 hW2 hz1 hz2 (Nat.le_refl _) hn12 (fun x hx => by have := (Rl.okT_iff.1 HD.out).2.2 x hx; have := (Rl.okT_iff.1 HD.out).1; omega) (Rl.num_all HNP.out (by rw [HL2.out]; exact hn12))
      go_wp2_with fail
      refine (hlo _ h1 h2 hB1 hB2).mono ?_
      rintro e w1 ⟨A, n, c, rfl, ho, hb⟩
      have HLN := Lib.hid ho.rd.1
      have HLE : Hid (n ≤ 1000) := Lib.hid (by
        rw [← HLN.out, Rl.loads_len s p (by rw [HL1.out, HL2.out]; exact Nat.le_refl _)]
        have := Rl.rolls_le HNP.out (by omega)
        rw [HL2.out] at this
        omega)
      have hn1000 : n ≤ 1000 := HLE.out
      have hrd := ho.rd
      clear ho hlo
      go_wp2_with fail
      go_loop [10] (fun i => ∃ k : Nat, k ≤ n ∧ i = .int .i64 k ∧ Hid (∀ x ∈ (Rl.loads s p).take k, x ≤ r)) (fun i => n - (intOf i).toNat)
      case atStart => exact ⟨0, Nat.zero_le _, rfl, Lib.hid (by simp)⟩
      case round =>
        obtain ⟨j, hj, rfl, HA⟩ := hrel
        by_cases hlt2 : j < n
        · obtain ⟨b1, o, x, rfl, hbB, hx, hc⟩ := hrd.at_ hlt2
          have HX := Lib.hid hx
          clear hx
          by_cases hxr : r < x
          · have HF : Hid (b = false) := Lib.hid (by
              rw [← HE2.out, List.all_eq_false]
              exact ⟨x, List.mem_of_getElem? HX.out, by simpa using hxr⟩)
            go_wp2_with fail
            go_ret
            exact ⟨ret_b HF.out.symm, hb⟩
          · have HA2 : Hid (∀ y ∈ (Rl.loads s p).take (j + 1), y ≤ r) := Lib.hid (by
              rw [take_nextRl _ j x HX.out]
              intro y hy
              rcases List.mem_append.1 hy with hy | hy
              · exact HA.out y hy
              · simp at hy; subst hy; omega)
            go_wp2_with fail
            go_round
            case rel => exact ⟨j + 1, by omega, by go_num, HA2⟩
            case measure => simp [intOf]; omega
        · obtain rfl : j = n := by omega
          have HT : Hid (b = true) := Lib.hid (by
            rw [← HE2.out, List.all_eq_true]
            intro x hx
            have h3 := HA.out
            rw [List.take_of_length_le (by rw [HLN.out]; exact Nat.le_refl _)] at h3
            exact decide_eq_true (h3 x hx))
          go_wp2_with fail
          go_ret
          exact ⟨ret_b HT.out.symm, hb⟩
end Go.Proofs.Ytbhkpjjedeinpaa
