/- The walk of the law FnRuns, out of the contracts. -/
import Derived.Test.YtilfmnffdloneaaGaIg
import Derived.Test.YtilfmnffdloneaaGaDx
import Derived.Test.YtilfmnffdloneaaGaFn
import Derived.Test.YtilfmnffdloneaaSum
namespace Go.Proofs.Ytilfmnffdloneaa
open Go.RowKit
set_option linter.unusedVariables false

theorem likeGa_b (A A' : Option Addr) (n n' c c' B B' : Nat) (l : List Int) (w : World) (h : Rd I w B A n l) (h' : Rd I w B' A' n' l) (hn : n ≤ 1048576) :
    Calls Try.prog 27 #[.slice A n c, .slice A' n' c'] w fun e w' => e = .returned (.bool true) ∧ Below w.heap.size w w' := by
  obtain rfl : n = n' := h.1.symm.trans h'.1
  refine (likeInts_true A A' n c c' B B' l w h h' hn).mono ?_
  rintro e w' ⟨he, m, hm⟩
  exact ⟨he, by rw [hm]; exact below_drewN' (Below.refl _ _) m⟩

set_option maxRecDepth 100000 in
set_option maxHeartbeats 40000000 in
theorem w_FnRuns (A : Option Addr) (N C : Nat) (l : List Int) (w : World) (h : Rd U w w.heap.size A N l) (hl : inByte l) :
    Calls Try.prog 3 #[.slice A N C] w fun e' w' => e' = .returned (.bool true) ∧ Below w.heap.size w w' := by
  by_cases hN : N ≤ 4096
  · have HF : Hid (decide (4096 < N) = false) := decide_eq_false (by omega)
    go_enter Try.func3, Try.ntmps3
    go_wp2_with fail
    refine (big_any A N C _).mono ?_
    rintro e _ ⟨rfl, rfl⟩
    rw [HF.out]
    go_wp2_with fail
    refine (DrawBestUps_any N C w.heap.size A l _ h hl (Nat.le_refl _) (by omega)).mono ?_
    rintro e' w1 ⟨r, A1, n1, c1, s, rfl, hr, q1, hn1, hb1⟩
    have z1 : w.heap.size ≤ w1.heap.size := hb1.size
    have HB1 := Lib.hid ((Below.refl w.heap.size w).trans (hb1.mono (Below.refl w.heap.size w).size))
    have Q1_s := q1
    clear hb1
    clear q1
    obtain ⟨G, hG⟩ : ∃ v, Ga.buR r s = v := ⟨_, rfl⟩
    have HG := Lib.hid hG
    clear hG
    obtain ⟨D, hD⟩ : ∃ v, Ga.lrC r s = v := ⟨_, rfl⟩
    have HD := Lib.hid hD
    clear hD
    obtain ⟨m, hm⟩ : ∃ v, Ga.lrR r s = v := ⟨_, rfl⟩
    have Hm := Lib.hid hm
    clear hm
    go_wp2_with fail
    refine (implGaBu_any r A1 n1 c1 _ s G D _ Q1_s (by omega) (by omega) (by omega) ⟨by omega, by omega⟩ HG.out HD.out).mono ?_
    rintro e' w2 ⟨A2, n2, c2, rfl, o2, hn2, hb2⟩
    have z2 : w1.heap.size ≤ w2.heap.size := hb2.size
    have HB2 := Lib.hid (HB1.out.trans (hb2.mono HB1.out.size))
    have Q2_s := Q1_s.below hb2 (by omega)
    clear Q1_s
    have Q2_u := o2.rd
    clear hb2
    have hc2 := o2.cap
    clear o2
    go_wp2_with fail
    refine (specGaBu_any r A1 n1 c1 _ s G D _ Q2_s (by omega) (by omega) HG.out HD.out).mono ?_
    rintro e' w3 ⟨A3, n3, c3, rfl, o3, hn3, hb3⟩
    have z3 : w2.heap.size ≤ w3.heap.size := hb3.size
    have HB3 := Lib.hid (HB2.out.trans (hb3.mono HB2.out.size))
    have Q3_s := Q2_s.below hb3 (by omega)
    have Q3_u := Q2_u.below hb3 (by omega)
    clear Q2_s Q2_u
    have Q3_m := o3.rd
    clear hb3
    clear o3
    go_wp2_with fail
    refine (implGaLr_any r A1 n1 c1 _ s m D _ Q3_s (by omega) (by omega) (by omega) ⟨by omega, by omega⟩ Hm.out HD.out).mono ?_
    rintro e' w4 ⟨rfl, hb4⟩
    have z4 : w3.heap.size ≤ w4.heap.size := hb4.size
    have HB4 := Lib.hid (HB3.out.trans (hb4.mono HB3.out.size))
    have Q4_s := Q3_s.below hb4 (by omega)
    have Q4_u := Q3_u.below hb4 (by omega)
    have Q4_m := Q3_m.below hb4 (by omega)
    clear Q3_s Q3_u Q3_m
    clear hb4
    go_wp2_with fail
    refine (specGaLr_any r A1 n1 c1 _ s m D _ Q4_s (by omega) (by omega) Hm.out HD.out).mono ?_
    rintro e' w5 ⟨rfl, hb5⟩
    have z5 : w4.heap.size ≤ w5.heap.size := hb5.size
    have HB5 := Lib.hid (HB4.out.trans (hb5.mono HB4.out.size))
    have Q5_s := Q4_s.below hb5 (by omega)
    have Q5_u := Q4_u.below hb5 (by omega)
    have Q5_m := Q4_m.below hb5 (by omega)
    clear Q4_s Q4_u Q4_m
    clear hb5
    go_wp2_with fail
    refine (DrawRunFor_any N C w.heap.size A l _ (h.below HB5.out (Nat.le_refl _)) hl (by omega) (by omega)).mono ?_
    rintro e' w6 ⟨x, A6, n6, c6, y, A7, n7, c7, z, rfl, hx, q6, q7, hnn, hb6⟩
    have z6 : w5.heap.size ≤ w6.heap.size := hb6.size
    have HB6 := Lib.hid (HB5.out.trans (hb6.mono HB5.out.size))
    have Q6_s := Q5_s.below hb6 (by omega)
    have Q6_u := Q5_u.below hb6 (by omega)
    have Q6_m := Q5_m.below hb6 (by omega)
    clear Q5_s Q5_u Q5_m
    have Q6_y := q6
    have Q6_z := q7
    clear hb6
    clear q6 q7
    obtain ⟨T, hT⟩ : ∃ v, Ga.rfR x y z = v := ⟨_, rfl⟩
    have HT := Lib.hid hT
    clear hT
    obtain ⟨P, hP⟩ : ∃ v, Ga.rfC x y z = v := ⟨_, rfl⟩
    have HP := Lib.hid hP
    clear hP
    obtain ⟨S, hS⟩ : ∃ v, Ga.ovR x y z = v := ⟨_, rfl⟩
    have HS := Lib.hid hS
    clear hS
    go_wp2_with fail
    refine (implGaRf_any x A6 A7 n6 c6 _ n7 c7 _ y z T P _ Q6_y Q6_z (by omega) (by omega) (by omega) (by omega) (by omega) (by omega) ⟨by omega, by omega⟩ HT.out HP.out).mono ?_
    rintro e' w7 ⟨rfl, hb7⟩
    have z7 : w6.heap.size ≤ w7.heap.size := hb7.size
    have HB7 := Lib.hid (HB6.out.trans (hb7.mono HB6.out.size))
    have Q7_s := Q6_s.below hb7 (by omega)
    have Q7_u := Q6_u.below hb7 (by omega)
    have Q7_m := Q6_m.below hb7 (by omega)
    have Q7_y := Q6_y.below hb7 (by omega)
    have Q7_z := Q6_z.below hb7 (by omega)
    clear Q6_s Q6_u Q6_m Q6_y Q6_z
    clear hb7
    go_wp2_with fail
    refine (specGaRf_below x A6 A7 n6 c6 _ n7 c7 _ y z T P _ Q7_y Q7_z (by omega) (by omega) HT.out HP.out).mono ?_
    rintro e' w8 ⟨rfl, hb8⟩
    have z8 : w7.heap.size ≤ w8.heap.size := hb8.size
    have HB8 := Lib.hid (HB7.out.trans (hb8.mono HB7.out.size))
    have Q8_s := Q7_s.below hb8 (by omega)
    have Q8_u := Q7_u.below hb8 (by omega)
    have Q8_m := Q7_m.below hb8 (by omega)
    have Q8_y := Q7_y.below hb8 (by omega)
    have Q8_z := Q7_z.below hb8 (by omega)
    clear Q7_s Q7_u Q7_m Q7_y Q7_z
    clear hb8
    go_wp2_with fail
    refine (implGaOv_any x A6 A7 n6 c6 _ n7 c7 _ y z S P _ Q8_y Q8_z (by omega) (by omega) (by omega) (by omega) (by omega) (by omega) ⟨by omega, by omega⟩ HS.out HP.out).mono ?_
    rintro e' w9 ⟨A8, n8, c8, rfl, o8, hn8, hb9⟩
    have z9 : w8.heap.size ≤ w9.heap.size := hb9.size
    have HB9 := Lib.hid (HB8.out.trans (hb9.mono HB8.out.size))
    have Q9_s := Q8_s.below hb9 (by omega)
    have Q9_u := Q8_u.below hb9 (by omega)
    have Q9_m := Q8_m.below hb9 (by omega)
    have Q9_y := Q8_y.below hb9 (by omega)
    have Q9_z := Q8_z.below hb9 (by omega)
    clear Q8_s Q8_u Q8_m Q8_y Q8_z
    have Q9_o := o8.rd
    clear hb9
    clear o8
    go_wp2_with fail
    refine (specGaOv_any x A6 A7 n6 c6 _ n7 c7 _ y z S P _ Q9_y Q9_z (by omega) (by omega) (by omega) (by omega) HS.out HP.out).mono ?_
    rintro e' w10 ⟨A9, n9, c9, rfl, o9, hn9, hb10⟩
    have z10 : w9.heap.size ≤ w10.heap.size := hb10.size
    have HB10 := Lib.hid (HB9.out.trans (hb10.mono HB9.out.size))
    have Q10_s := Q9_s.below hb10 (by omega)
    have Q10_u := Q9_u.below hb10 (by omega)
    have Q10_m := Q9_m.below hb10 (by omega)
    have Q10_y := Q9_y.below hb10 (by omega)
    have Q10_z := Q9_z.below hb10 (by omega)
    have Q10_o := Q9_o.below hb10 (by omega)
    clear Q9_s Q9_u Q9_m Q9_y Q9_z Q9_o
    have Q10_v := o9.rd
    clear hb10
    clear o9
    go_wp2_with fail
    refine (DrawUpsFor_any N C w.heap.size A l _ (h.below HB10.out (Nat.le_refl _)) hl (by omega) (by omega)).mono ?_
    rintro e' w11 ⟨d, A10, n10, c10, f, k0, rfl, hd, hk0, q10, hn10, hb11⟩
    have z11 : w10.heap.size ≤ w11.heap.size := hb11.size
    have HB11 := Lib.hid (HB10.out.trans (hb11.mono HB10.out.size))
    have Q11_s := Q10_s.below hb11 (by omega)
    have Q11_u := Q10_u.below hb11 (by omega)
    have Q11_m := Q10_m.below hb11 (by omega)
    have Q11_y := Q10_y.below hb11 (by omega)
    have Q11_z := Q10_z.below hb11 (by omega)
    have Q11_o := Q10_o.below hb11 (by omega)
    have Q11_v := Q10_v.below hb11 (by omega)
    clear Q10_s Q10_u Q10_m Q10_y Q10_z Q10_o Q10_v
    have Q11_f := q10
    clear hb11
    clear q10
    obtain ⟨V, hV⟩ : ∃ v, Ga.ufR d f k0 = v := ⟨_, rfl⟩
    have HV := Lib.hid hV
    clear hV
    obtain ⟨E, hE⟩ : ∃ v, Ga.ufC d f k0 = v := ⟨_, rfl⟩
    have HE := Lib.hid hE
    clear hE
    have hkb : -9223372036854775808 ≤ k0 ∧ k0 ≤ 9223372036854775807 := ⟨by omega, by omega⟩
    go_wp2_with fail
    refine (implGaUf_any d k0 A10 n10 c10 _ f V E _ Q11_f (by omega) (by omega) (by omega) ⟨by omega, by omega⟩ hkb HV.out HE.out).mono ?_
    rintro e' w12 ⟨A11, n11, c11, rfl, o11, hn11, hb12⟩
    have z12 : w11.heap.size ≤ w12.heap.size := hb12.size
    have HB12 := Lib.hid (HB11.out.trans (hb12.mono HB11.out.size))
    have Q12_s := Q11_s.below hb12 (by omega)
    have Q12_u := Q11_u.below hb12 (by omega)
    have Q12_m := Q11_m.below hb12 (by omega)
    have Q12_y := Q11_y.below hb12 (by omega)
    have Q12_z := Q11_z.below hb12 (by omega)
    have Q12_o := Q11_o.below hb12 (by omega)
    have Q12_v := Q11_v.below hb12 (by omega)
    have Q12_f := Q11_f.below hb12 (by omega)
    clear Q11_s Q11_u Q11_m Q11_y Q11_z Q11_o Q11_v Q11_f
    have Q12_a := o11.rd
    clear hb12
    clear o11
    go_wp2_with fail
    refine (specGaUf_any d k0 A10 n10 c10 _ f V E _ Q12_f (by omega) (by omega) HV.out HE.out).mono ?_
    rintro e' w13 ⟨A12, n12, c12, rfl, o12, hn12, hb13⟩
    have z13 : w12.heap.size ≤ w13.heap.size := hb13.size
    have HB13 := Lib.hid (HB12.out.trans (hb13.mono HB12.out.size))
    have Q13_s := Q12_s.below hb13 (by omega)
    have Q13_u := Q12_u.below hb13 (by omega)
    have Q13_m := Q12_m.below hb13 (by omega)
    have Q13_y := Q12_y.below hb13 (by omega)
    have Q13_z := Q12_z.below hb13 (by omega)
    have Q13_o := Q12_o.below hb13 (by omega)
    have Q13_v := Q12_v.below hb13 (by omega)
    have Q13_f := Q12_f.below hb13 (by omega)
    have Q13_a := Q12_a.below hb13 (by omega)
    clear Q12_s Q12_u Q12_m Q12_y Q12_z Q12_o Q12_v Q12_f Q12_a
    have Q13_b := o12.rd
    clear hb13
    clear o12
    go_wp2_with fail
    refine (likeGa_b A2 A3 n2 n3 c2 c3 _ _ G _ Q13_u Q13_m (by omega)).mono ?_
    rintro e' w14 ⟨rfl, hb14⟩
    have z14 : w13.heap.size ≤ w14.heap.size := hb14.size
    have HB14 := Lib.hid (HB13.out.trans (hb14.mono HB13.out.size))
    have Q14_s := Q13_s.below hb14 (by omega)
    have Q14_u := Q13_u.below hb14 (by omega)
    have Q14_m := Q13_m.below hb14 (by omega)
    have Q14_y := Q13_y.below hb14 (by omega)
    have Q14_z := Q13_z.below hb14 (by omega)
    have Q14_o := Q13_o.below hb14 (by omega)
    have Q14_v := Q13_v.below hb14 (by omega)
    have Q14_f := Q13_f.below hb14 (by omega)
    have Q14_a := Q13_a.below hb14 (by omega)
    have Q14_b := Q13_b.below hb14 (by omega)
    clear Q13_s Q13_u Q13_m Q13_y Q13_z Q13_o Q13_v Q13_f Q13_a Q13_b
    clear hb14
    go_wp2_with fail
    refine (likeGa_b A8 A9 n8 n9 c8 c9 _ _ S _ Q14_o Q14_v (by omega)).mono ?_
    rintro e' w15 ⟨rfl, hb15⟩
    have z15 : w14.heap.size ≤ w15.heap.size := hb15.size
    have HB15 := Lib.hid (HB14.out.trans (hb15.mono HB14.out.size))
    have Q15_s := Q14_s.below hb15 (by omega)
    have Q15_u := Q14_u.below hb15 (by omega)
    have Q15_m := Q14_m.below hb15 (by omega)
    have Q15_y := Q14_y.below hb15 (by omega)
    have Q15_z := Q14_z.below hb15 (by omega)
    have Q15_o := Q14_o.below hb15 (by omega)
    have Q15_v := Q14_v.below hb15 (by omega)
    have Q15_f := Q14_f.below hb15 (by omega)
    have Q15_a := Q14_a.below hb15 (by omega)
    have Q15_b := Q14_b.below hb15 (by omega)
    clear Q14_s Q14_u Q14_m Q14_y Q14_z Q14_o Q14_v Q14_f Q14_a Q14_b
    clear hb15
    go_wp2_with fail
    refine (likeGa_b A11 A12 n11 n12 c11 c12 _ _ V _ Q15_a Q15_b (by omega)).mono ?_
    rintro e' w16 ⟨rfl, hb16⟩
    have z16 : w15.heap.size ≤ w16.heap.size := hb16.size
    have HB16 := Lib.hid (HB15.out.trans (hb16.mono HB15.out.size))
    have Q16_s := Q15_s.below hb16 (by omega)
    have Q16_u := Q15_u.below hb16 (by omega)
    have Q16_m := Q15_m.below hb16 (by omega)
    have Q16_y := Q15_y.below hb16 (by omega)
    have Q16_z := Q15_z.below hb16 (by omega)
    have Q16_o := Q15_o.below hb16 (by omega)
    have Q16_v := Q15_v.below hb16 (by omega)
    have Q16_f := Q15_f.below hb16 (by omega)
    have Q16_a := Q15_a.below hb16 (by omega)
    have Q16_b := Q15_b.below hb16 (by omega)
    clear Q15_s Q15_u Q15_m Q15_y Q15_z Q15_o Q15_v Q15_f Q15_a Q15_b
    clear hb16
    obtain ⟨g, hg⟩ : ∃ v, Ga.okG r s = v := ⟨_, rfl⟩
    have HGG := Lib.hid hg
    clear hg
    go_wp2_with fail
    refine (implGaG_any r A1 n1 c1 _ s g _ Q16_s (by omega) (by omega) (by omega) ⟨by omega, by omega⟩ HGG.out).mono ?_
    rintro e' w17 ⟨rfl, hb17⟩
    have z17 : w16.heap.size ≤ w17.heap.size := hb17.size
    have HB17 := Lib.hid (HB16.out.trans (hb17.mono HB16.out.size))
    have Q17_s := Q16_s.below hb17 (by omega)
    have Q17_u := Q16_u.below hb17 (by omega)
    have Q17_m := Q16_m.below hb17 (by omega)
    have Q17_y := Q16_y.below hb17 (by omega)
    have Q17_z := Q16_z.below hb17 (by omega)
    have Q17_o := Q16_o.below hb17 (by omega)
    have Q17_v := Q16_v.below hb17 (by omega)
    have Q17_f := Q16_f.below hb17 (by omega)
    have Q17_a := Q16_a.below hb17 (by omega)
    have Q17_b := Q16_b.below hb17 (by omega)
    clear Q16_s Q16_u Q16_m Q16_y Q16_z Q16_o Q16_v Q16_f Q16_a Q16_b
    clear hb17
    have hlr := Ga.lr_cases r s
    rw [HGG.out, HD.out] at hlr
    have hrf := Ga.rf_cases x y z
    rw [HP.out] at hrf
    have HRF := Lib.hid hrf
    clear hrf
    rcases hlr with ⟨rfl, rfl⟩ | ⟨rfl, rfl⟩
    · rcases HRF.out with rfl | rfl | rfl
      · obtain ⟨e1, e2, e3, e4, e5, e6, e7, e8, e9, e10⟩ := Ga.rf_facts HP.out HT.out HS.out
        obtain ⟨t0, ht0⟩ : ∃ v, Ga.lrR x y = v := ⟨_, rfl⟩
        rw [ht0] at e3
        have HT0 := Lib.hid ht0
        have HE2_ := Lib.hid e2
        have ly := Q17_y.1
        have lz := Q17_z.1
        have lo := Q17_o.1
        obtain rfl : n7 = n6 := by omega
        obtain rfl : n8 = n7 := by omega
        have h6 : n8 ≤ 6 := by omega
        have HY := Lib.hid e8
        have HZ := Lib.hid e9
        have HO := Lib.hid e10
        clear ht0 e1 e2 e5 e6 e7 e8 e9 e10 ly lz lo
        go_wp2_with fail
        refine (implGaLr_any x A6 n8 c6 _ y t0 0 _ Q17_y (by omega) (by omega) (by omega) ⟨by omega, by omega⟩ HT0.out HE2_.out).mono ?_
        rintro e' w18 ⟨rfl, hb18⟩
        have z18 : w17.heap.size ≤ w18.heap.size := hb18.size
        have HB18 := Lib.hid (HB17.out.trans (hb18.mono HB17.out.size))
        have Q18_s := Q17_s.below hb18 (by omega)
        have Q18_u := Q17_u.below hb18 (by omega)
        have Q18_m := Q17_m.below hb18 (by omega)
        have Q18_y := Q17_y.below hb18 (by omega)
        have Q18_z := Q17_z.below hb18 (by omega)
        have Q18_o := Q17_o.below hb18 (by omega)
        have Q18_v := Q17_v.below hb18 (by omega)
        have Q18_f := Q17_f.below hb18 (by omega)
        have Q18_a := Q17_a.below hb18 (by omega)
        have Q18_b := Q17_b.below hb18 (by omega)
        clear Q17_s Q17_u Q17_m Q17_y Q17_z Q17_o Q17_v Q17_f Q17_a Q17_b
        clear hb18
        have e3f : (T < t0) = False := eq_false (by omega)
        have e3n : ¬ T < t0 := by omega
        go_wp2_with fail
        go_loopw [33] (fun i wr => ∃ k : Nat, k ≤ n8 ∧ i = .int .i64 k ∧ Q w18 wr) (fun i _ => n8 - (intOf i).toNat)
        case atStart => exact ⟨0, Nat.zero_le _, rfl, Q.refl _⟩
        case round =>
          obtain ⟨k, hk, rfl, hqq⟩ := hrel
          by_cases hlt : k < n8
          · obtain ⟨b1, o1, va, rfl, hb1_, ha, ca⟩ := (Q18_y.q hqq).at_ hlt
            obtain ⟨b2, o2, vb, rfl, hb2_, hb_, cb⟩ := (Q18_z.q hqq).at_ hlt
            obtain ⟨b3, o3, vc, rfl, hb3_, hc_, cc⟩ := (Q18_o.q hqq).at_ hlt
            have ha1 := HY.out va (List.mem_of_getElem? ha)
            have hb1 := HZ.out vb (List.mem_of_getElem? hb_)
            obtain ⟨p1, p2⟩ := HO.out k va vb ha hb_
            have p3 : vc = vb * T - va := by rw [hc_] at p1; injection p1
            obtain ⟨tt, htt⟩ : ∃ v, vb * T = v := ⟨_, rfl⟩
            have htb : 0 ≤ tt ∧ tt ≤ 32000000 := by
              rw [← htt]
              have h5 := Int.mul_le_mul (a := vb) (b := T) (c := 32) (d := 1000000) (by omega) (by omega) (by omega) (by omega)
              exact ⟨Int.mul_nonneg (by omega) (by omega), by omega⟩
            rw [htt] at p2 p3
            have w1_ : IntKind.i64.wrap (vb * T) = tt := by rw [htt]; exact IntWalk.i64_in _ (by omega)
            have w2_ : IntKind.i64.wrap (tt - va) = vc := by rw [p3]; exact IntWalk.i64_in _ (by omega)
            have p4 : ¬ vc < 0 := by omega
            have p5 : 0 ≤ vc := by omega
            clear ha hb_ hc_ ha1 hb1 p1 p2 p3 htt htb
            go_wp2_with fail
            go_quiet (fail)
            go_wp2_with fail
            go_roundw
            case rel => exact ⟨k + 1, by omega, by go_num, hqq.more _⟩
            case measure => simp [intOf]; omega
          · obtain rfl : k = n8 := by omega
            obtain ⟨w19, rfl⟩ : ∃ v, v = wr := ⟨_, rfl⟩
            have z19 : w18.heap.size ≤ w19.heap.size := hqq.le
            have HB19 := Lib.hid (HB18.out.trans (hqq.below _))
            have Q19_s := Q18_s.q hqq
            have Q19_u := Q18_u.q hqq
            have Q19_m := Q18_m.q hqq
            have Q19_y := Q18_y.q hqq
            have Q19_z := Q18_z.q hqq
            have Q19_o := Q18_o.q hqq
            have Q19_v := Q18_v.q hqq
            have Q19_f := Q18_f.q hqq
            have Q19_a := Q18_a.q hqq
            have Q19_b := Q18_b.q hqq
            clear Q18_s Q18_u Q18_m Q18_y Q18_z Q18_o Q18_v Q18_f Q18_a Q18_b
            clear hqq
            obtain ⟨hz1_, hz2_⟩ := Ga.rf_best HGG.out HG.out
            have HZ1 := Lib.hid hz1_
            have HZ2 : Hid (Ga.rfR r s G = m) := Lib.hid (hz2_.trans Hm.out)
            clear hz1_ hz2_
            have hmb : 0 ≤ m ∧ m ≤ 1000000 := by rw [← Hm.out]; exact Ga.lrR_bd r s
            have em : IntKind.i64.wrap (m - 1) = m - 1 := IntWalk.i64_in _ (by omega)
            obtain ⟨E2, hE2⟩ : ∃ v, Ga.ufC r s (m - 1) = v := ⟨_, rfl⟩
            obtain ⟨V2, hV2⟩ : ∃ v, Ga.ufR r s (m - 1) = v := ⟨_, rfl⟩
            have HE2 := Lib.hid hE2
            have HV2 := Lib.hid hV2
            clear hE2 hV2
            go_wp2_with fail
            refine (implGaRf_any r A1 A2 n1 c1 _ n2 c2 _ s G m 0 _ Q19_s Q19_u (by omega) (by omega) (by omega) (by omega) (by omega) (by omega) ⟨by omega, by omega⟩ HZ2.out HZ1.out).mono ?_
            rintro e' w20 ⟨rfl, hb20⟩
            have z20 : w19.heap.size ≤ w20.heap.size := hb20.size
            have HB20 := Lib.hid (HB19.out.trans (hb20.mono HB19.out.size))
            have Q20_s := Q19_s.below hb20 (by omega)
            have Q20_u := Q19_u.below hb20 (by omega)
            have Q20_m := Q19_m.below hb20 (by omega)
            have Q20_y := Q19_y.below hb20 (by omega)
            have Q20_z := Q19_z.below hb20 (by omega)
            have Q20_o := Q19_o.below hb20 (by omega)
            have Q20_v := Q19_v.below hb20 (by omega)
            have Q20_f := Q19_f.below hb20 (by omega)
            have Q20_a := Q19_a.below hb20 (by omega)
            have Q20_b := Q19_b.below hb20 (by omega)
            clear Q19_s Q19_u Q19_m Q19_y Q19_z Q19_o Q19_v Q19_f Q19_a Q19_b
            clear hb20
            go_wp2_with fail
            refine (implGaUf_any r (m - 1) A1 n1 c1 _ s V2 E2 _ Q20_s (by omega) (by omega) (by omega) ⟨by omega, by omega⟩ ⟨by omega, by omega⟩ HV2.out HE2.out).mono ?_
            rintro e' w21 ⟨A20, n20, c20, rfl, o20, hn20, hb21⟩
            have z21 : w20.heap.size ≤ w21.heap.size := hb21.size
            have HB21 := Lib.hid (HB20.out.trans (hb21.mono HB20.out.size))
            have Q21_s := Q20_s.below hb21 (by omega)
            have Q21_u := Q20_u.below hb21 (by omega)
            have Q21_m := Q20_m.below hb21 (by omega)
            have Q21_y := Q20_y.below hb21 (by omega)
            have Q21_z := Q20_z.below hb21 (by omega)
            have Q21_o := Q20_o.below hb21 (by omega)
            have Q21_v := Q20_v.below hb21 (by omega)
            have Q21_f := Q20_f.below hb21 (by omega)
            have Q21_a := Q20_a.below hb21 (by omega)
            have Q21_b := Q20_b.below hb21 (by omega)
            clear Q20_s Q20_u Q20_m Q20_y Q20_z Q20_o Q20_v Q20_f Q20_a Q20_b
            clear hb21
            clear o20
            by_cases hm1 : m = 1
            · subst hm1
              go_wp2_with fail
              go_ret
              exact ⟨ret_b (by simp <;> omega), HB21.out⟩
            · have hm1' : (m == 1) = false := by simpa using hm1
              obtain rfl : E2 = 4 := by rw [← HE2.out, ← Hm.out]; exact Ga.uf_less HGG.out (by rw [Hm.out]; exact hm1)
              go_wp2_with fail
              go_ret
              exact ⟨ret_b (by simp <;> omega), HB21.out⟩
      · obtain ⟨hz1_, hz2_⟩ := Ga.rf_best HGG.out HG.out
        have HZ1 := Lib.hid hz1_
        have HZ2 : Hid (Ga.rfR r s G = m) := Lib.hid (hz2_.trans Hm.out)
        clear hz1_ hz2_
        have hmb : 0 ≤ m ∧ m ≤ 1000000 := by rw [← Hm.out]; exact Ga.lrR_bd r s
        have em : IntKind.i64.wrap (m - 1) = m - 1 := IntWalk.i64_in _ (by omega)
        obtain ⟨E2, hE2⟩ : ∃ v, Ga.ufC r s (m - 1) = v := ⟨_, rfl⟩
        obtain ⟨V2, hV2⟩ : ∃ v, Ga.ufR r s (m - 1) = v := ⟨_, rfl⟩
        have HE2 := Lib.hid hE2
        have HV2 := Lib.hid hV2
        clear hE2 hV2
        go_wp2_with fail
        refine (implGaRf_any r A1 A2 n1 c1 _ n2 c2 _ s G m 0 _ Q17_s Q17_u (by omega) (by omega) (by omega) (by omega) (by omega) (by omega) ⟨by omega, by omega⟩ HZ2.out HZ1.out).mono ?_
        rintro e' w18 ⟨rfl, hb18⟩
        have z18 : w17.heap.size ≤ w18.heap.size := hb18.size
        have HB18 := Lib.hid (HB17.out.trans (hb18.mono HB17.out.size))
        have Q18_s := Q17_s.below hb18 (by omega)
        have Q18_u := Q17_u.below hb18 (by omega)
        have Q18_m := Q17_m.below hb18 (by omega)
        have Q18_y := Q17_y.below hb18 (by omega)
        have Q18_z := Q17_z.below hb18 (by omega)
        have Q18_o := Q17_o.below hb18 (by omega)
        have Q18_v := Q17_v.below hb18 (by omega)
        have Q18_f := Q17_f.below hb18 (by omega)
        have Q18_a := Q17_a.below hb18 (by omega)
        have Q18_b := Q17_b.below hb18 (by omega)
        clear Q17_s Q17_u Q17_m Q17_y Q17_z Q17_o Q17_v Q17_f Q17_a Q17_b
        clear hb18
        go_wp2_with fail
        refine (implGaUf_any r (m - 1) A1 n1 c1 _ s V2 E2 _ Q18_s (by omega) (by omega) (by omega) ⟨by omega, by omega⟩ ⟨by omega, by omega⟩ HV2.out HE2.out).mono ?_
        rintro e' w19 ⟨A20, n20, c20, rfl, o20, hn20, hb19⟩
        have z19 : w18.heap.size ≤ w19.heap.size := hb19.size
        have HB19 := Lib.hid (HB18.out.trans (hb19.mono HB18.out.size))
        have Q19_s := Q18_s.below hb19 (by omega)
        have Q19_u := Q18_u.below hb19 (by omega)
        have Q19_m := Q18_m.below hb19 (by omega)
        have Q19_y := Q18_y.below hb19 (by omega)
        have Q19_z := Q18_z.below hb19 (by omega)
        have Q19_o := Q18_o.below hb19 (by omega)
        have Q19_v := Q18_v.below hb19 (by omega)
        have Q19_f := Q18_f.below hb19 (by omega)
        have Q19_a := Q18_a.below hb19 (by omega)
        have Q19_b := Q18_b.below hb19 (by omega)
        clear Q18_s Q18_u Q18_m Q18_y Q18_z Q18_o Q18_v Q18_f Q18_a Q18_b
        clear hb19
        clear o20
        by_cases hm1 : m = 1
        · subst hm1
          go_wp2_with fail
          go_ret
          exact ⟨ret_b (by simp <;> omega), HB19.out⟩
        · have hm1' : (m == 1) = false := by simpa using hm1
          obtain rfl : E2 = 4 := by rw [← HE2.out, ← Hm.out]; exact Ga.uf_less HGG.out (by rw [Hm.out]; exact hm1)
          go_wp2_with fail
          go_ret
          exact ⟨ret_b (by simp <;> omega), HB19.out⟩
      · obtain ⟨hz1_, hz2_⟩ := Ga.rf_best HGG.out HG.out
        have HZ1 := Lib.hid hz1_
        have HZ2 : Hid (Ga.rfR r s G = m) := Lib.hid (hz2_.trans Hm.out)
        clear hz1_ hz2_
        have hmb : 0 ≤ m ∧ m ≤ 1000000 := by rw [← Hm.out]; exact Ga.lrR_bd r s
        have em : IntKind.i64.wrap (m - 1) = m - 1 := IntWalk.i64_in _ (by omega)
        obtain ⟨E2, hE2⟩ : ∃ v, Ga.ufC r s (m - 1) = v := ⟨_, rfl⟩
        obtain ⟨V2, hV2⟩ : ∃ v, Ga.ufR r s (m - 1) = v := ⟨_, rfl⟩
        have HE2 := Lib.hid hE2
        have HV2 := Lib.hid hV2
        clear hE2 hV2
        go_wp2_with fail
        refine (implGaRf_any r A1 A2 n1 c1 _ n2 c2 _ s G m 0 _ Q17_s Q17_u (by omega) (by omega) (by omega) (by omega) (by omega) (by omega) ⟨by omega, by omega⟩ HZ2.out HZ1.out).mono ?_
        rintro e' w18 ⟨rfl, hb18⟩
        have z18 : w17.heap.size ≤ w18.heap.size := hb18.size
        have HB18 := Lib.hid (HB17.out.trans (hb18.mono HB17.out.size))
        have Q18_s := Q17_s.below hb18 (by omega)
        have Q18_u := Q17_u.below hb18 (by omega)
        have Q18_m := Q17_m.below hb18 (by omega)
        have Q18_y := Q17_y.below hb18 (by omega)
        have Q18_z := Q17_z.below hb18 (by omega)
        have Q18_o := Q17_o.below hb18 (by omega)
        have Q18_v := Q17_v.below hb18 (by omega)
        have Q18_f := Q17_f.below hb18 (by omega)
        have Q18_a := Q17_a.below hb18 (by omega)
        have Q18_b := Q17_b.below hb18 (by omega)
        clear Q17_s Q17_u Q17_m Q17_y Q17_z Q17_o Q17_v Q17_f Q17_a Q17_b
        clear hb18
        go_wp2_with fail
        refine (implGaUf_any r (m - 1) A1 n1 c1 _ s V2 E2 _ Q18_s (by omega) (by omega) (by omega) ⟨by omega, by omega⟩ ⟨by omega, by omega⟩ HV2.out HE2.out).mono ?_
        rintro e' w19 ⟨A20, n20, c20, rfl, o20, hn20, hb19⟩
        have z19 : w18.heap.size ≤ w19.heap.size := hb19.size
        have HB19 := Lib.hid (HB18.out.trans (hb19.mono HB18.out.size))
        have Q19_s := Q18_s.below hb19 (by omega)
        have Q19_u := Q18_u.below hb19 (by omega)
        have Q19_m := Q18_m.below hb19 (by omega)
        have Q19_y := Q18_y.below hb19 (by omega)
        have Q19_z := Q18_z.below hb19 (by omega)
        have Q19_o := Q18_o.below hb19 (by omega)
        have Q19_v := Q18_v.below hb19 (by omega)
        have Q19_f := Q18_f.below hb19 (by omega)
        have Q19_a := Q18_a.below hb19 (by omega)
        have Q19_b := Q18_b.below hb19 (by omega)
        clear Q18_s Q18_u Q18_m Q18_y Q18_z Q18_o Q18_v Q18_f Q18_a Q18_b
        clear hb19
        clear o20
        by_cases hm1 : m = 1
        · subst hm1
          go_wp2_with fail
          go_ret
          exact ⟨ret_b (by simp <;> omega), HB19.out⟩
        · have hm1' : (m == 1) = false := by simpa using hm1
          obtain rfl : E2 = 4 := by rw [← HE2.out, ← Hm.out]; exact Ga.uf_less HGG.out (by rw [Hm.out]; exact hm1)
          go_wp2_with fail
          go_ret
          exact ⟨ret_b (by simp <;> omega), HB19.out⟩
    · rcases HRF.out with rfl | rfl | rfl
      · obtain ⟨e1, e2, e3, e4, e5, e6, e7, e8, e9, e10⟩ := Ga.rf_facts HP.out HT.out HS.out
        obtain ⟨t0, ht0⟩ : ∃ v, Ga.lrR x y = v := ⟨_, rfl⟩
        rw [ht0] at e3
        have HT0 := Lib.hid ht0
        have HE2_ := Lib.hid e2
        have ly := Q17_y.1
        have lz := Q17_z.1
        have lo := Q17_o.1
        obtain rfl : n7 = n6 := by omega
        obtain rfl : n8 = n7 := by omega
        have h6 : n8 ≤ 6 := by omega
        have HY := Lib.hid e8
        have HZ := Lib.hid e9
        have HO := Lib.hid e10
        clear ht0 e1 e2 e5 e6 e7 e8 e9 e10 ly lz lo
        go_wp2_with fail
        refine (implGaLr_any x A6 n8 c6 _ y t0 0 _ Q17_y (by omega) (by omega) (by omega) ⟨by omega, by omega⟩ HT0.out HE2_.out).mono ?_
        rintro e' w18 ⟨rfl, hb18⟩
        have z18 : w17.heap.size ≤ w18.heap.size := hb18.size
        have HB18 := Lib.hid (HB17.out.trans (hb18.mono HB17.out.size))
        have Q18_s := Q17_s.below hb18 (by omega)
        have Q18_u := Q17_u.below hb18 (by omega)
        have Q18_m := Q17_m.below hb18 (by omega)
        have Q18_y := Q17_y.below hb18 (by omega)
        have Q18_z := Q17_z.below hb18 (by omega)
        have Q18_o := Q17_o.below hb18 (by omega)
        have Q18_v := Q17_v.below hb18 (by omega)
        have Q18_f := Q17_f.below hb18 (by omega)
        have Q18_a := Q17_a.below hb18 (by omega)
        have Q18_b := Q17_b.below hb18 (by omega)
        clear Q17_s Q17_u Q17_m Q17_y Q17_z Q17_o Q17_v Q17_f Q17_a Q17_b
        clear hb18
        have e3f : (T < t0) = False := eq_false (by omega)
        have e3n : ¬ T < t0 := by omega
        go_wp2_with fail
        go_loopw [33] (fun i wr => ∃ k : Nat, k ≤ n8 ∧ i = .int .i64 k ∧ Q w18 wr) (fun i _ => n8 - (intOf i).toNat)
        case atStart => exact ⟨0, Nat.zero_le _, rfl, Q.refl _⟩
        case round =>
          obtain ⟨k, hk, rfl, hqq⟩ := hrel
          by_cases hlt : k < n8
          · obtain ⟨b1, o1, va, rfl, hb1_, ha, ca⟩ := (Q18_y.q hqq).at_ hlt
            obtain ⟨b2, o2, vb, rfl, hb2_, hb_, cb⟩ := (Q18_z.q hqq).at_ hlt
            obtain ⟨b3, o3, vc, rfl, hb3_, hc_, cc⟩ := (Q18_o.q hqq).at_ hlt
            have ha1 := HY.out va (List.mem_of_getElem? ha)
            have hb1 := HZ.out vb (List.mem_of_getElem? hb_)
            obtain ⟨p1, p2⟩ := HO.out k va vb ha hb_
            have p3 : vc = vb * T - va := by rw [hc_] at p1; injection p1
            obtain ⟨tt, htt⟩ : ∃ v, vb * T = v := ⟨_, rfl⟩
            have htb : 0 ≤ tt ∧ tt ≤ 32000000 := by
              rw [← htt]
              have h5 := Int.mul_le_mul (a := vb) (b := T) (c := 32) (d := 1000000) (by omega) (by omega) (by omega) (by omega)
              exact ⟨Int.mul_nonneg (by omega) (by omega), by omega⟩
            rw [htt] at p2 p3
            have w1_ : IntKind.i64.wrap (vb * T) = tt := by rw [htt]; exact IntWalk.i64_in _ (by omega)
            have w2_ : IntKind.i64.wrap (tt - va) = vc := by rw [p3]; exact IntWalk.i64_in _ (by omega)
            have p4 : ¬ vc < 0 := by omega
            have p5 : 0 ≤ vc := by omega
            clear ha hb_ hc_ ha1 hb1 p1 p2 p3 htt htb
            go_wp2_with fail
            go_quiet (fail)
            go_wp2_with fail
            go_roundw
            case rel => exact ⟨k + 1, by omega, by go_num, hqq.more _⟩
            case measure => simp [intOf]; omega
          · obtain rfl : k = n8 := by omega
            obtain ⟨w19, rfl⟩ : ∃ v, v = wr := ⟨_, rfl⟩
            have z19 : w18.heap.size ≤ w19.heap.size := hqq.le
            have HB19 := Lib.hid (HB18.out.trans (hqq.below _))
            have Q19_s := Q18_s.q hqq
            have Q19_u := Q18_u.q hqq
            have Q19_m := Q18_m.q hqq
            have Q19_y := Q18_y.q hqq
            have Q19_z := Q18_z.q hqq
            have Q19_o := Q18_o.q hqq
            have Q19_v := Q18_v.q hqq
            have Q19_f := Q18_f.q hqq
            have Q19_a := Q18_a.q hqq
            have Q19_b := Q18_b.q hqq
            clear Q18_s Q18_u Q18_m Q18_y Q18_z Q18_o Q18_v Q18_f Q18_a Q18_b
            clear hqq
            go_wp2_with fail
            go_ret
            exact ⟨rfl, HB19.out⟩
      · go_wp2_with fail
        go_ret
        exact ⟨rfl, HB17.out⟩
      · go_wp2_with fail
        go_ret
        exact ⟨rfl, HB17.out⟩
  · have HF : Hid (decide (4096 < N) = true) := decide_eq_true (by omega)
    go_enter Try.func3, Try.ntmps3
    go_wp2_with fail
    refine (big_any A N C _).mono ?_
    rintro e _ ⟨rfl, rfl⟩
    rw [HF.out]
    go_wp2_with fail
    go_ret
    exact ⟨rfl, Below.refl _ _⟩
end Go.Proofs.Ytilfmnffdloneaa
