/- The walk of the law FnEfforts, out of the contracts. -/
import Derived.Test.YtnfnmdeiaihgnaaSxLe
namespace Go.Proofs.Ytnfnmdeiaihgnaa
open Go.RowKit
set_option linter.unusedVariables false

set_option maxRecDepth 100000 in
set_option maxHeartbeats 40000000 in
theorem w_FnEfforts (A : Option Addr) (N C : Nat) (l : List Int) (w : World) (h : Rd U w w.heap.size A N l) (hl : inByte l) :
    Calls Try.prog 4 #[.slice A N C] w fun e' w' => e' = .returned (.bool true) ∧ Below w.heap.size w w' := by
  by_cases hN : N ≤ 4096
  · have Q0_code := h
    have HF : Hid (decide (4096 < N) = false) := decide_eq_false (by omega)
    go_enter Try.func4, Try.ntmps4
    go_wp2_with fail
    refine (big_any A N C _).mono ?_
    rintro e _ ⟨rfl, rfl⟩
    rw [HF.out]
    go_wp2_with fail
    refine (DrawEffort_any N C w.heap.size A l _ Q0_code hl (Nat.le_refl _) (by omega)).mono ?_
    rintro e' w1 ⟨A1, n, c, us, A2, m, c2, o, rfl, q1, hn, q2, hm, hb1⟩
    have z1 : w.heap.size ≤ w1.heap.size := hb1.size
    have HB1 := Lib.hid ((Below.refl w.heap.size w).trans (hb1.mono (Below.refl w.heap.size w).size))
    have Q1_code := Q0_code.below hb1 (by omega)
    clear Q0_code
    have Q1_s := q1.rd
    have Q1_o := q2.rd
    clear hb1
    have hc2 : m ≤ c2 := q2.cap
    clear q1 q2
    obtain ⟨R, hR⟩ : ∃ v, Su.jfR (Su.lsU us) o = v := ⟨_, rfl⟩
    have HR := Lib.hid hR
    clear hR
    obtain ⟨D, hD⟩ : ∃ v, Su.jfC (Su.lsU us) o = v := ⟨_, rfl⟩
    have HD := Lib.hid hD
    clear hD
    obtain ⟨J, hJ⟩ : ∃ v, Su.jbC (Su.lsU us) = v := ⟨_, rfl⟩
    have HJ := Lib.hid hJ
    clear hJ
    go_wp2_with fail
    refine (implEo_any A1 A2 n c m c2 _ _ us o _ Q1_s Q1_o (by omega) (by omega) (by omega) (by omega) hc2 R D HR.out HD.out).mono ?_
    rintro e' w2 ⟨rfl, hb2⟩
    have z2 : w1.heap.size ≤ w2.heap.size := hb2.size
    have HB2 := Lib.hid (HB1.out.trans (hb2.mono HB1.out.size))
    have Q2_code := Q1_code.below hb2 (by omega)
    have Q2_s := Q1_s.below hb2 (by omega)
    have Q2_o := Q1_o.below hb2 (by omega)
    clear Q1_code Q1_s Q1_o
    clear hb2
    go_wp2_with fail
    refine (specEo_any A1 A2 n c m c2 _ _ us o _ Q2_s Q2_o (by omega) (by omega) (by omega) (by omega) hc2 R D HR.out HD.out).mono ?_
    rintro e' w3 ⟨rfl, hb3⟩
    have z3 : w2.heap.size ≤ w3.heap.size := hb3.size
    have HB3 := Lib.hid (HB2.out.trans (hb3.mono HB2.out.size))
    have Q3_code := Q2_code.below hb3 (by omega)
    have Q3_s := Q2_s.below hb3 (by omega)
    have Q3_o := Q2_o.below hb3 (by omega)
    clear Q2_code Q2_s Q2_o
    clear hb3
    go_wp2_with fail
    refine (implBj_any A1 n c _ us _ Q3_s (by omega) (by omega) J HJ.out).mono ?_
    rintro e' w4 ⟨A3, m3, c3, p, ef, rfl, q3, hm3, hz3, hy3, hb4⟩
    have z4 : w3.heap.size ≤ w4.heap.size := hb4.size
    have HB4 := Lib.hid (HB3.out.trans (hb4.mono HB3.out.size))
    have Q4_code := Q3_code.below hb4 (by omega)
    have Q4_s := Q3_s.below hb4 (by omega)
    have Q4_o := Q3_o.below hb4 (by omega)
    clear Q3_code Q3_s Q3_o
    have Q4_p := q3.rd
    clear hb4
    have hc3 : m3 ≤ c3 := q3.cap
    have HZ3 := Lib.hid hz3
    have HY3 := Lib.hid hy3
    clear q3 hz3 hy3
    go_wp2_with fail
    refine (specBj_any A1 n c _ us _ Q4_s (by omega) (by omega) J HJ.out).mono ?_
    rintro e' w5 ⟨A4, m4, c4, p4, ef4, rfl, q4, hm4, hz4, hy4, hb5⟩
    have z5 : w4.heap.size ≤ w5.heap.size := hb5.size
    have HB5 := Lib.hid (HB4.out.trans (hb5.mono HB4.out.size))
    have Q5_code := Q4_code.below hb5 (by omega)
    have Q5_s := Q4_s.below hb5 (by omega)
    have Q5_o := Q4_o.below hb5 (by omega)
    have Q5_p := Q4_p.below hb5 (by omega)
    clear Q4_code Q4_s Q4_o Q4_p
    have Q5_q := q4.rd
    clear hb5
    obtain ⟨rfl, rfl⟩ : p = p4 ∧ ef = ef4 := Su.bj_same HZ3.out HY3.out hz4 hy4
    clear q4 hz4 hy4
    go_wp2_with fail
    refine (DrawChanges_any N C w.heap.size A l _ Q5_code hl (by omega) (by omega)).mono ?_
    rintro e' w6 ⟨A5, n5, c5, li, A6, n6, c6, lj, rfl, q5, hn5, q6, hn6, hb6⟩
    have z6 : w5.heap.size ≤ w6.heap.size := hb6.size
    have HB6 := Lib.hid (HB5.out.trans (hb6.mono HB5.out.size))
    have Q6_code := Q5_code.below hb6 (by omega)
    have Q6_s := Q5_s.below hb6 (by omega)
    have Q6_o := Q5_o.below hb6 (by omega)
    have Q6_p := Q5_p.below hb6 (by omega)
    have Q6_q := Q5_q.below hb6 (by omega)
    clear Q5_code Q5_s Q5_o Q5_p Q5_q
    have Q6_a := q5.rd
    have Q6_b := q6.rd
    clear hb6
    have hc5 : n5 ≤ c5 := q5.capE
    have hc6 : n6 ≤ c6 := q6.capE
    clear q5 q6
    obtain ⟨X, hX⟩ : ∃ v, Su.ccR li lj = v := ⟨_, rfl⟩
    have HX := Lib.hid hX
    clear hX
    obtain ⟨Y, hY⟩ : ∃ v, Su.ccC li lj = v := ⟨_, rfl⟩
    have HY := Lib.hid hY
    clear hY
    go_wp2_with fail
    refine (implCcU_any A5 A6 n5 c5 _ n6 c6 _ li lj X Y _ Q6_a Q6_b (by omega) (by omega) (by omega) (by omega) hc5 hc6 HX.out HY.out).mono ?_
    rintro e' w7 ⟨rfl, hb7⟩
    have z7 : w6.heap.size ≤ w7.heap.size := hb7.size
    have HB7 := Lib.hid (HB6.out.trans (hb7.mono HB6.out.size))
    have Q7_code := Q6_code.below hb7 (by omega)
    have Q7_s := Q6_s.below hb7 (by omega)
    have Q7_o := Q6_o.below hb7 (by omega)
    have Q7_p := Q6_p.below hb7 (by omega)
    have Q7_q := Q6_q.below hb7 (by omega)
    have Q7_a := Q6_a.below hb7 (by omega)
    have Q7_b := Q6_b.below hb7 (by omega)
    clear Q6_code Q6_s Q6_o Q6_p Q6_q Q6_a Q6_b
    clear hb7
    go_wp2_with fail
    refine (q_bE (specCcU_any A5 A6 n5 c5 _ n6 c6 _ li lj X Y _ Q7_a Q7_b (by omega) (by omega) HX.out HY.out)).mono ?_
    rintro e' w8 ⟨rfl, hb8⟩
    have z8 : w7.heap.size ≤ w8.heap.size := hb8.size
    have HB8 := Lib.hid (HB7.out.trans (hb8.mono HB7.out.size))
    have Q8_code := Q7_code.below hb8 (by omega)
    have Q8_s := Q7_s.below hb8 (by omega)
    have Q8_o := Q7_o.below hb8 (by omega)
    have Q8_p := Q7_p.below hb8 (by omega)
    have Q8_q := Q7_q.below hb8 (by omega)
    have Q8_a := Q7_a.below hb8 (by omega)
    have Q8_b := Q7_b.below hb8 (by omega)
    clear Q7_code Q7_s Q7_o Q7_p Q7_q Q7_a Q7_b
    clear hb8
    go_wp2_with fail
    refine (implCcU_any A6 A5 n6 c6 _ n5 c5 _ lj li X Y _ Q8_b Q8_a (by omega) (by omega) (by omega) (by omega) hc6 hc5 ((Su.ccR_comm _ _).trans HX.out) ((Su.ccC_comm _ _).trans HY.out)).mono ?_
    rintro e' w9 ⟨rfl, hb9⟩
    have z9 : w8.heap.size ≤ w9.heap.size := hb9.size
    have HB9 := Lib.hid (HB8.out.trans (hb9.mono HB8.out.size))
    have Q9_code := Q8_code.below hb9 (by omega)
    have Q9_s := Q8_s.below hb9 (by omega)
    have Q9_o := Q8_o.below hb9 (by omega)
    have Q9_p := Q8_p.below hb9 (by omega)
    have Q9_q := Q8_q.below hb9 (by omega)
    have Q9_a := Q8_a.below hb9 (by omega)
    have Q9_b := Q8_b.below hb9 (by omega)
    clear Q8_code Q8_s Q8_o Q8_p Q8_q Q8_a Q8_b
    clear hb9
    go_wp2_with fail
    refine (likeI13_b A3 A4 m3 m4 c3 c4 _ _ p _ Q9_p Q9_q (by omega)).mono ?_
    rintro e' w10 ⟨rfl, hb10⟩
    have z10 : w9.heap.size ≤ w10.heap.size := hb10.size
    have HB10 := Lib.hid (HB9.out.trans (hb10.mono HB9.out.size))
    have Q10_code := Q9_code.below hb10 (by omega)
    have Q10_s := Q9_s.below hb10 (by omega)
    have Q10_o := Q9_o.below hb10 (by omega)
    have Q10_p := Q9_p.below hb10 (by omega)
    have Q10_q := Q9_q.below hb10 (by omega)
    have Q10_a := Q9_a.below hb10 (by omega)
    have Q10_b := Q9_b.below hb10 (by omega)
    clear Q9_code Q9_s Q9_o Q9_p Q9_q Q9_a Q9_b
    clear hb10
    by_cases hY : Y = 0
    · obtain ⟨X1, X2, e1, e2, e3, e4, hle, hb1, hb2⟩ := Su.cc_by HX.out HY.out hY
      subst hY
      have ew : IntKind.i64.wrap (X1 + X2) = X1 + X2 := IntWalk.i64_in _ (by omega)
      have hgt : (X1 + X2 < X) = False := eq_false (by omega)
      have E1 := Lib.hid e1
      have E2 := Lib.hid e2
      have E3 := Lib.hid e3
      have E4 := Lib.hid e4
      clear e1 e2 e3 e4
      have zA : (w10.alloc (.cells #[] 83)).heap.size = w10.heap.size + 1 := by simp
      go_wp2_with fail
      refine (implCcU_any A5 (some ⟨w10.heap.size, 0, none⟩) n5 c5 _ 0 0 w10.heap.size li [] X1 0 _ (Q10_a.below ((Below.refl w10.heap.size w10).alloc (Nat.le_refl _) (.cells #[] 83)) (by omega)) RdS.none_ (by omega) (by omega) (by omega) (by omega) hc5 (Nat.le_refl _) E1.out E2.out).mono ?_
      rintro e' w11 ⟨rfl, hb11_⟩
      have hb11 : Below w10.heap.size w10 w11 := ((Below.refl w10.heap.size w10).alloc (Nat.le_refl _) (.cells #[] 83)).trans (hb11_.mono (by omega))
      have z11 : w10.heap.size ≤ w11.heap.size := hb11.size
      have HB11 := Lib.hid (HB10.out.trans (hb11.mono HB10.out.size))
      have Q11_code := Q10_code.below hb11 (by omega)
      have Q11_s := Q10_s.below hb11 (by omega)
      have Q11_o := Q10_o.below hb11 (by omega)
      have Q11_p := Q10_p.below hb11 (by omega)
      have Q11_q := Q10_q.below hb11 (by omega)
      have Q11_a := Q10_a.below hb11 (by omega)
      have Q11_b := Q10_b.below hb11 (by omega)
      clear Q10_code Q10_s Q10_o Q10_p Q10_q Q10_a Q10_b hb11 hb11_
      go_wp2_with fail
      refine (implCcU_any (some ⟨w10.heap.size, 0, none⟩) A6 0 0 w10.heap.size n6 c6 _ [] lj X2 0 _ RdS.none_ Q11_b (by omega) (by omega) (by omega) (by omega) (Nat.le_refl _) hc6 E3.out E4.out).mono ?_
      rintro e' w12 ⟨rfl, hb12⟩
      have z12 : w11.heap.size ≤ w12.heap.size := hb12.size
      have HB12 := Lib.hid (HB11.out.trans (hb12.mono HB11.out.size))
      have Q12_code := Q11_code.below hb12 (by omega)
      have Q12_s := Q11_s.below hb12 (by omega)
      have Q12_o := Q11_o.below hb12 (by omega)
      have Q12_p := Q11_p.below hb12 (by omega)
      have Q12_q := Q11_q.below hb12 (by omega)
      have Q12_a := Q11_a.below hb12 (by omega)
      have Q12_b := Q11_b.below hb12 (by omega)
      clear Q11_code Q11_s Q11_o Q11_p Q11_q Q11_a Q11_b
      clear hb12
      by_cases hD : D = 0
      · subst hD
        obtain ⟨hJ, j1, j2, hle⟩ := Su.ef_facts HR.out HD.out rfl HJ.out HZ3.out
        subst hJ
        go_wp2_with fail
        refine (implEo_any A1 A3 n c m3 c3 _ _ us p _ Q12_s Q12_p (by omega) (by omega) (by omega) (by omega) hc3 ef 0 j2 j1).mono ?_
        rintro e' w13 ⟨rfl, hb13⟩
        have z13 : w12.heap.size ≤ w13.heap.size := hb13.size
        have HB13 := Lib.hid (HB12.out.trans (hb13.mono HB12.out.size))
        have Q13_code := Q12_code.below hb13 (by omega)
        have Q13_s := Q12_s.below hb13 (by omega)
        have Q13_o := Q12_o.below hb13 (by omega)
        have Q13_p := Q12_p.below hb13 (by omega)
        have Q13_q := Q12_q.below hb13 (by omega)
        have Q13_a := Q12_a.below hb13 (by omega)
        have Q13_b := Q12_b.below hb13 (by omega)
        clear Q12_code Q12_s Q12_o Q12_p Q12_q Q12_a Q12_b
        clear hb13
        go_wp2_with fail
        go_ret
        exact ⟨ret_b (by simp <;> omega), HB13.out⟩
      · have hDb : (D != 0) = true := by simpa using hD
        go_wp2_with fail
        go_ret
        exact ⟨rfl, HB12.out⟩
    · have hYb : (Y == 0) = false := by simpa using hY
      by_cases hD : D = 0
      · subst hD
        obtain ⟨hJ, j1, j2, hle⟩ := Su.ef_facts HR.out HD.out rfl HJ.out HZ3.out
        subst hJ
        go_wp2_with fail
        refine (implEo_any A1 A3 n c m3 c3 _ _ us p _ Q10_s Q10_p (by omega) (by omega) (by omega) (by omega) hc3 ef 0 j2 j1).mono ?_
        rintro e' w11 ⟨rfl, hb11⟩
        have z11 : w10.heap.size ≤ w11.heap.size := hb11.size
        have HB11 := Lib.hid (HB10.out.trans (hb11.mono HB10.out.size))
        have Q11_code := Q10_code.below hb11 (by omega)
        have Q11_s := Q10_s.below hb11 (by omega)
        have Q11_o := Q10_o.below hb11 (by omega)
        have Q11_p := Q10_p.below hb11 (by omega)
        have Q11_q := Q10_q.below hb11 (by omega)
        have Q11_a := Q10_a.below hb11 (by omega)
        have Q11_b := Q10_b.below hb11 (by omega)
        clear Q10_code Q10_s Q10_o Q10_p Q10_q Q10_a Q10_b
        clear hb11
        go_wp2_with fail
        go_ret
        exact ⟨ret_b (by simp <;> omega), HB11.out⟩
      · have hDb : (D != 0) = true := by simpa using hD
        go_wp2_with fail
        go_ret
        exact ⟨rfl, HB10.out⟩
  · have HF : Hid (decide (4096 < N) = true) := decide_eq_true (by omega)
    go_enter Try.func4, Try.ntmps4
    go_wp2_with fail
    refine (big_any A N C _).mono ?_
    rintro e _ ⟨rfl, rfl⟩
    rw [HF.out]
    go_wp2_with fail
    go_ret
    exact ⟨rfl, Below.refl _ _⟩
end Go.Proofs.Ytnfnmdeiaihgnaa
