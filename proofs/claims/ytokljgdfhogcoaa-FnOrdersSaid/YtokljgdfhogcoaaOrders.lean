/- The walk of the law of orders: the drawn orders, their composition and inverse by both programs, and the order composed with its inverse. -/
import Derived.Test.YtokljgdfhogcoaaDrawOrd
import Derived.Test.YtokljgdfhogcoaaOrdMath
namespace Go.Proofs.Ytokljgdfhogcoaa
open Go.RowKit

set_option maxRecDepth 100000 in
set_option maxHeartbeats 4000000 in
theorem w_FnOrders (A : Option Addr) (N C : Nat) (l : List Int) (w : World) (h : Rd U w w.heap.size A N l) (hl : inByte l) :
    Calls Try.prog 3 #[.slice A N C] w fun e w' => e = .returned (.bool true) ∧ Below w.heap.size w w' := by
  by_cases hN : N ≤ 4096
  · have HF : Hid (decide (4096 < N) = false) := decide_eq_false (by omega)
    go_enter Try.func3, Try.ntmps3
    go_wp2_with fail
    refine (big_any A N C _).mono ?_
    rintro e _ ⟨rfl, rfl⟩
    rw [HF.out]
    go_wp2_with fail
    refine (DrawCompose_any N C _ A l _ h hl (Nat.le_refl _) (by omega)).mono ?_
    rintro e w1 ⟨AP, nP, cP, p, AQ, nQ, cQ, q, rfl, hp, hcP, hnP, hq, hcQ, hnQ, hb1⟩
    have hz1 := hb1.size
    go_wp2_with fail
    refine (implCom_any AP AQ nP nQ cP cQ _ _ p q _ hp hq (Nat.le_refl _) (Nat.le_refl _) (by omega) (by omega)).mono ?_
    rintro e w2 ⟨AR, nR, cR, rfl, hR, hnR, hb2⟩
    have hz2 := hb2.size
    have hB2 := hb1.trans (hb2.mono hz1)
    have hp2 := hp.below hb2 (Nat.le_refl _)
    have hq2 := hq.below hb2 (Nat.le_refl _)
    go_wp2_with fail
    refine (specCom_any AP AQ nP nQ cP cQ _ _ p q _ hp2 hq2 (by omega) (by omega) (by omega) (by omega) hcP hcQ).mono ?_
    rintro e w3 ⟨AM, nM, cM, rfl, hM, hnM, hb3⟩
    have hz3 := hb3.size
    have hB3 := hB2.trans (hb3.mono (by omega))
    have hp3 := hp2.below hb3 (by omega)
    have hR3 := hR.below hb3 (by omega)
    go_wp2_with fail
    refine (implInv_any AP nP cP _ p _ hp3 (by omega) (by omega)).mono ?_
    rintro e w4 ⟨AI, nI, cI, rfl, hI, hnI, hb4⟩
    have hz4 := hb4.size
    have hB4 := hB3.trans (hb4.mono (by omega))
    have hp4 := hp3.below hb4 (by omega)
    have hR4 := hR3.below hb4 (by omega)
    have hM4 := hM.below hb4 (by omega)
    go_wp2_with fail
    refine (specInv_any AP nP cP _ p _ hp4 (by omega) (by omega) hcP).mono ?_
    rintro e w5 ⟨AJ, nJ, cJ, rfl, hJ, hnJ, hb5⟩
    have hz5 := hb5.size
    have hB5 := hB4.trans (hb5.mono (by omega))
    have hp5 := hp4.below hb5 (by omega)
    have hR5 := hR4.below hb5 (by omega)
    have hM5 := hM4.below hb5 (by omega)
    have hI5 := hI.below hb5 (by omega)
    obtain rfl : nR = nM := hR5.rd.1.symm.trans hM5.rd.1
    obtain rfl : nI = nJ := hI5.rd.1.symm.trans hJ.rd.1
    go_wp2_with fail
    refine (likeInts_true _ _ _ _ _ _ _ _ _ hR5.rd hM5.rd hnR).mono ?_
    rintro e w6 ⟨rfl, hq6⟩
    have hz6 := hq6.le
    have hB6 := hB5.trans (hq6.below _)
    go_wp2_with fail
    refine (likeInts_true _ _ _ _ _ _ _ _ _ (hI5.q hq6).rd (hJ.q hq6).rd hnI).mono ?_
    rintro e w7 ⟨rfl, hq7⟩
    have hz7 := hq7.le
    have hB7 := hB6.trans (hq7.below _)
    have hq67 := hq6.trans hq7
    have hp7 := hp5.q hq67
    have hR7 := hR5.q hq67
    have hI7 := hI5.q hq67
    go_wp2_with fail
    refine (IsOrder_any AP nP cP _ p _ hp7 (by omega) (by omega)).mono ?_
    rintro e w8 ⟨rfl, hb8⟩
    have hz8 := hb8.size
    have hB8 := hB7.trans (hb8.mono (by omega))
    have hp8 := hp7.below hb8 (by omega)
    have hR8 := hR7.below hb8 (by omega)
    have hI8 := hI7.below hb8 (by omega)
    go_wp2_with fail
    refine (specIsOrder_any AP nP cP _ p _ hp8 (by omega) hcP).mono ?_
    rintro e w9 ⟨rfl, hq9⟩
    have hz9 := hq9.le
    have hB9 := hB8.trans (hq9.below _)
    have hp9 := hp8.q hq9
    have hR9 := hR8.q hq9
    have hI9 := hI8.q hq9
    by_cases ho : isOrd p
    · have hC : invC p = 0 := by unfold invC; rw [if_pos ho]
      have hIR : invR p = invTo p p.length := by unfold invR; rw [if_pos ho]
      rw [hC]
      rw [hIR] at hI9
      obtain ⟨hc1, hc2⟩ := inv_codes p ho
      have hnn : nI = nP := hI9.rd.1.symm.trans ((invTo_len p p.length).trans hp9.1)
      have HAT : Hid (∀ j, j < p.length → (comL p (invTo p p.length))[j]? = some (j : Int)) := fun j hj => com_inv p ho j hj
      have HLP : Hid (p.length = nP) := hp9.1
      have HO := ordB_yes ho
      rw [HO.out]
      clear ho hC hIR
      subst hnn
      go_wp2_with fail
      refine (implCom_any AP AI nI nI cP cI _ _ p (invTo p p.length) _ hp9 hI9.rd (by omega) (by omega) (by omega) (by omega)).mono ?_
      rintro e wa ⟨AS, nS, cS, rfl, hS, hnS, hba⟩
      have hza := hba.size
      have hBa := hB9.trans (hba.mono (by omega))
      have hRa := hR9.below hba (by omega)
      rw [hc2] at hS
      rw [hc1]
      obtain rfl : nS = nI := hS.rd.1.symm.trans ((comL_len _ _).trans ((invTo_len _ _).trans HLP.out))
      have hSr := hS.rd
      clear hc1 hc2 hS hI9 hp9 hR9
      go_wp2_with fail
      go_loop [15] (fun i => ∃ k : Nat, k ≤ nS ∧ i = .int .i64 k) (fun i => nS - (intOf i).toNat)
      case atStart => exact ⟨0, Nat.zero_le _, rfl⟩
      case round =>
        obtain ⟨k, hk, rfl⟩ := hrel
        by_cases hlt : k < nS
        · obtain ⟨b, o, x, rfl, _, hx, hcx⟩ := hSr.at_ hlt
          have hkx : x = (k : Int) := by
            have h1 := HAT.out k (by rw [HLP.out]; exact hlt)
            rw [h1] at hx
            injection hx with hx
            exact hx.symm
          subst hkx
          clear hx
          go_wp2_with fail
          go_round
          case rel => exact ⟨k + 1, by omega, by go_num⟩
          case measure => simp [intOf]; omega
        · obtain rfl : k = nS := by omega
          by_cases hcc : comC p q = 0
          · have HRO := ordB_yes (com_code p q hcc)
            rw [hcc]
            clear hcc
            go_wp2_with fail
            refine (IsOrder_any AR nR cR _ _ _ hRa.rd (by omega) hnR).mono ?_
            rintro e wb ⟨rfl, hbb⟩
            rw [HRO.out]
            go_wp2_with fail
            go_ret
            exact ⟨rfl, hBa.trans (hbb.mono (by omega))⟩
          · have hcc' : (comC p q != 0) = true := by simpa using hcc
            go_wp2_with fail
            go_ret
            exact ⟨rfl, hBa⟩
    · have hC : Hid (invC p = 1) := by unfold invC; rw [if_neg ho]; exact rfl
      rw [hC.out]
      clear ho
      go_wp2_with fail
      go_ret
      exact ⟨rfl, hB9⟩
  · have HF : Hid (decide (4096 < N) = true) := decide_eq_true (by omega)
    go_enter Try.func3, Try.ntmps3
    go_wp2_with fail
    refine (big_any A N C _).mono ?_
    rintro e _ ⟨rfl, rfl⟩
    rw [HF.out]
    go_wp2_with fail
    go_ret
    exact ⟨rfl, Below.refl _ _⟩
end Go.Proofs.Ytokljgdfhogcoaa
