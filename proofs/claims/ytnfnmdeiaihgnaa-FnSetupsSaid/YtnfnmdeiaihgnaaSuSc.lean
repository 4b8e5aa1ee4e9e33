/- Contracts of the model's test of a set-up, of LayersAfter and of SchemeOfSetup. -/
import Derived.Test.YtnfnmdeiaihgnaaSuMath
import Derived.Test.YtnfnmdeiaihgnaaStr
import Derived.Test.YtnfnmdeiaihgnaaPad
namespace Go.Proofs.Ytnfnmdeiaihgnaa
open Go.RowKit
set_option linter.unusedVariables false

namespace Su
theorem okU_iff {l : List Un} : okU l = true ↔ l.length ≤ 6 ∧ ∀ u ∈ l, okG u = true := by
  unfold okU
  simp only [Bool.and_eq_true, decide_eq_true_eq, List.all_eq_true]
theorem okU_at {l : List Un} {k : Nat} {x : Un} (hx : l[k]? = some x) (h : okG x = false) : okU l = false := by
  cases e : okU l
  · rfl
  · rw [(okU_iff.1 e).2 x (List.mem_of_getElem? hx)] at h
    cases h
end Su
set_option maxRecDepth 100000 in
set_option maxHeartbeats 2000000 in
theorem specUn_any (A : Option Addr) (n c B : Nat) (l : List Un) (b : Bool) (w : World) (h : RdS Un.S w B A n l) (hn : n ≤ 1048577) (hb : Su.okU l = b) :
    Calls Try.prog 65 #[.slice A n c] w fun e w' => e = .returned (.bool b) ∧ Q w w' := by
  have HL := Lib.hid h.1
  have HO := Lib.hid hb
  clear hb
  go_enter Try.func65, Try.ntmps65
  go_wp2_with fail
  go_loopw [3] (fun i wr => ∃ k : Nat, k ≤ n ∧ i = .int .i64 k ∧ Hid (∀ j y, j < k → l[j]? = some y → Su.okG y = true) ∧ Q w wr) (fun i _ => n - (intOf i).toNat)
  case atStart => exact ⟨0, Nat.zero_le _, rfl, Lib.hid (by intro j y h; omega), Q.refl _⟩
  case round =>
    obtain ⟨k, hk, rfl, HK, hq⟩ := hrel
    by_cases hlt : k < n
    · obtain ⟨b1, o, x, rfl, hbB, hx, c0, c1, c2⟩ := (h.q hq).at_Un hlt
      have HX := Lib.hid hx
      clear hx
      by_cases hv : 0 ≤ x.g ∧ x.g ≤ 1000000000
      · have hi := fun W => l01In_yes x.g 0 1000000000 W hv.1 hv.2
        have HKX : Hid (Su.okG x = true) := Lib.hid (decide_eq_true hv)
        clear hv
        go_wp2_with fail
        refine (hi _).mono ?_
        rintro e _ ⟨rfl, rfl⟩
        go_wp2_with fail
        go_roundw
        case rel =>
          refine ⟨k + 1, by omega, by go_num, Lib.hid fun j y hj hy => ?_, hq⟩
          by_cases he : j = k
          · subst he
            have := HX.out.symm.trans hy
            injection this with this
            rw [← this]
            exact HKX.out
          · exact HK.out j y (by omega) hy
        case measure => simp [intOf]; omega
      · have hi := fun W => l01In_no x.g 0 1000000000 W (by omega)
        have HE : Hid (b = false) := Lib.hid (by rw [← HO.out]; exact Su.okU_at HX.out (decide_eq_false hv))
        clear hv
        go_wp2_with fail
        refine (hi _).mono ?_
        rintro e _ ⟨rfl, rfl⟩
        go_wp2_with fail
        go_ret
        exact ⟨ret_b HE.out.symm, hq⟩
    · obtain rfl : k = n := by omega
      by_cases h6 : k ≤ 6
      · have HE : Hid (b = true) := Lib.hid (by
          rw [← HO.out]
          refine Su.okU_iff.2 ⟨by rw [HL.out]; exact h6, fun u hu => ?_⟩
          obtain ⟨j, hj⟩ := List.getElem?_of_mem hu
          exact HK.out j u (by have := (List.getElem?_eq_some_iff.1 hj).1; have := HL.out; omega) hj)
        have h6i : (k : Int) ≤ 6 := by omega
        go_wp2_with fail
        go_ret
        exact ⟨ret_b HE.out.symm, hq⟩
      · have HE : Hid (b = false) := Lib.hid (by
          rw [← HO.out]
          cases e : Su.okU l
          · rfl
          · exact absurd (by rw [← HL.out]; exact (Su.okU_iff.1 e).1) h6)
        have h6i : ¬ (k : Int) ≤ 6 := by omega
        go_wp2_with fail
        go_ret
        exact ⟨ret_b HE.out.symm, hq⟩

/-- The layers after k folds. -/
def Su.laC (l : List Un) (k : Int) : Int := if Su.okU l then (if 0 ≤ k ∧ k ≤ (l.length : Int) then 0 else 2) else 1
def Su.laR (l : List Un) (k : Int) : Int := if Su.okU l then (if 0 ≤ k ∧ k ≤ (l.length : Int) then ((2 ^ k.toNat : Nat) : Int) else 0) else 0
theorem ret2U {a b a' b' : Int} (h : a = a') (h' : b = b') : Ending.returned (.tuple #[.int .i64 a, .int .i64 b]) = .returned (.tuple #[.int .i64 a', .int .i64 b']) := by rw [h, h']
theorem shl_oneU (k : Nat) (h : k ≤ 6) : IntKind.i64.wrap (2 ^ k) = ((2 ^ k : Nat) : Int) := by
  obtain ⟨p, hp⟩ : ∃ p : Nat, p = 2 ^ k := ⟨_, rfl⟩
  have h1 : p ≤ 64 := by rw [hp]; exact Nat.le_trans (Nat.pow_le_pow_right (by omega) h) (by decide)
  have h2 : ((2 : Int) ^ k) = (p : Int) := by rw [hp]; simp
  rw [h2, ← hp]
  exact IntWalk.i64_in _ (by omega)
set_option maxRecDepth 100000 in
theorem specLa_any (A : Option Addr) (n c B : Nat) (l : List Un) (k R C : Int) (w : World) (h : RdS Un.S w B A n l) (hn : n ≤ 1048577) (hR : Su.laR l k = R) (hC : Su.laC l k = C) :
    Calls Try.prog 24 #[.slice A n c, .int .i64 k] w fun e w' => e = .returned (.tuple #[.int .i64 R, .int .i64 C]) ∧ Q w w' := by
  obtain ⟨b, hb⟩ : ∃ b, Su.okU l = b := ⟨_, rfl⟩
  have hu := fun W (hW : RdS Un.S W B A n l) => specUn_any A n c B l b W hW hn hb
  have HL := Lib.hid h.1
  cases b
  · have HR : Hid (R = 0) := Lib.hid (by rw [← hR]; unfold Su.laR; rw [hb]; rfl)
    have HC : Hid (C = 1) := Lib.hid (by rw [← hC]; unfold Su.laC; rw [hb]; rfl)
    clear hb hR hC
    go_enter Try.func24, Try.ntmps24
    go_wp2_with fail
    refine (hu _ h).mono ?_
    rintro e w1 ⟨rfl, hq1⟩
    go_wp2_with fail
    go_ret2
    exact ⟨ret2U HR.out.symm HC.out.symm, hq1⟩
  · by_cases hk : 0 ≤ k ∧ k ≤ (l.length : Int)
    · have h6 := (Su.okU_iff.1 hb).1
      obtain ⟨m, rfl⟩ : ∃ m : Nat, k = (m : Int) := ⟨k.toNat, by omega⟩
      have HR : Hid (R = ((2 ^ m : Nat) : Int)) := Lib.hid (by rw [← hR]; unfold Su.laR; rw [hb, if_pos rfl, if_pos hk]; rfl)
      have HC : Hid (C = 0) := Lib.hid (by rw [← hC]; unfold Su.laC; rw [hb, if_pos rfl, if_pos hk])
      rw [HL.out] at hk
      have hi := fun W => l01In_yes (m : Int) 0 (n : Int) W hk.1 hk.2
      have hm6 : m ≤ 6 := by have := HL.out; omega
      have hsh := shl_oneU m hm6
      clear hb hR hC hk h6
      go_enter Try.func24, Try.ntmps24
      go_wp2_with fail
      refine (hu _ h).mono ?_
      rintro e w1 ⟨rfl, hq1⟩
      go_wp2_with fail
      refine (hi _).mono ?_
      rintro e _ ⟨rfl, rfl⟩
      go_wp2_with fail
      go_ret2
      exact ⟨ret2U HR.out.symm HC.out.symm, hq1⟩
    · have HR : Hid (R = 0) := Lib.hid (by rw [← hR]; unfold Su.laR; rw [hb, if_pos rfl, if_neg hk])
      have HC : Hid (C = 2) := Lib.hid (by rw [← hC]; unfold Su.laC; rw [hb, if_pos rfl, if_neg hk])
      rw [HL.out] at hk
      have hi := fun W => l01In_no k 0 (n : Int) W (by omega)
      clear hb hR hC hk
      go_enter Try.func24, Try.ntmps24
      go_wp2_with fail
      refine (hu _ h).mono ?_
      rintro e w1 ⟨rfl, hq1⟩
      go_wp2_with fail
      refine (hi _).mono ?_
      rintro e _ ⟨rfl, rfl⟩
      go_wp2_with fail
      go_ret2
      exact ⟨ret2U HR.out.symm HC.out.symm, hq1⟩
end Go.Proofs.Ytnfnmdeiaihgnaa
