/- The walk of the law FnGridCuts, out of the contracts. -/
import Derived.Test.YtbhofhobnbhhhaaGreatDoorGrDg
import Derived.Test.YtbhofhobnbhhhaaGreatDoorGzA
import Derived.Test.YtbhofhobnbhhhaaGreatDoorGzB
import Derived.Test.YtbhofhobnbhhhaaGreatDoorGuGs
import Derived.Test.YtbhofhobnbhhhaaGreatDoorGuGi
import Derived.Test.YtbhofhobnbhhhaaGreatDoorGzC
import Derived.Test.YtbhofhobnbhhhaaGreatDoorRpSp
namespace Go.Proofs.YtbhofhobnbhhhaaGreatDoor
open Go.RowKit
set_option linter.unusedVariables false

theorem below_new (w : World) (o : Obj) : Below w.heap.size w (w.alloc o) := (Below.refl _ _).alloc (Nat.le_refl _) o
theorem likeCuts_b (A A' : Option Addr) (n n' c c' B B' : Nat) (l : List Ct) (w : World) (h : RdS Ct.S w B A n l) (h' : RdS Ct.S w B' A' n' l) (hn : n ≤ 1048576) :
    Calls Tryz.prog 13 #[.slice A n c, .slice A' n' c'] w fun e w' => e = .returned (.bool true) ∧ Below w.heap.size w w' := by
  refine (likeCuts_true A A' n n' c c' B B' l w h h' hn).mono ?_
  rintro e w' ⟨he, m, hm⟩
  exact ⟨he, by rw [hm]; exact below_drewN' (Below.refl _ _) m⟩
/-- What a grid's code 0 says. -/
theorem Gu.grid_facts {p q : Pc} {a c : Int} {R : List Ct} (h : Gu.gcC p a c q = 0) (hR : Gu.gcR p a c q = R) : Gu.rcC p R = 0 ∧ Gu.cpC (Gu.rcR p R) q = 0 ∧ a * c ≤ Gu.cpR (Gu.rcR p R) q := by
  have hg := Gu.grid_run h
  rw [hR] at hg
  obtain ⟨h1, h2, h3, h4⟩ := hg
  exact ⟨h1, (Gu.cp_yes (by rw [h2, h3]; rfl)).2, h4⟩
theorem Px.RP.of_true {s : ByteArray} {R : List Ct} (h : Px.RP s R true) : Px.ptS R = s := by
  rcases h with ⟨_, h, _⟩ | ⟨h, _⟩
  · exact h
  · cases h

set_option maxRecDepth 100000 in
set_option maxHeartbeats 40000000 in
theorem w_FnGridCuts (A : Option Addr) (N C : Nat) (l : List Int) (w : World) (h : Rd U w w.heap.size A N l) (hl : inByte l) (hLb : Lb w) :
    Calls Tryz.prog 3 #[.slice A N C] w fun e' w' => e' = .returned (.bool true) ∧ Below w.heap.size w w' := by
  by_cases hN : N ≤ 4096
  · have HF : Hid (decide (4096 < N) = false) := decide_eq_false (by omega)
    have HL0 := Lib.hid hLb
    clear hLb
    go_enter Tryz.func3, Tryz.ntmps3
    go_wp2_with fail
    refine (sgBig_any A N C _).mono ?_
    rintro e _ ⟨rfl, rfl⟩
    rw [HF.out]
    go_wp2_with fail
    refine (drawGc_any N C w.heap.size A l w h hl (Nat.le_refl _) (by omega)).mono ?_
    rintro e' w1 ⟨p, q, a, c, rfl, ha, hc, hb1⟩
    have y1 : w.heap.size ≤ w1.heap.size := hb1.size
    have HL1 := Lib.hid (HL0.out.below hb1)
    have z1 : w.heap.size ≤ w1.heap.size := hb1.size
    have HB1 := Lib.hid hb1
    clear hb1
    obtain ⟨R, hR⟩ : ∃ R, Gu.gcR p a c q = R := ⟨_, rfl⟩
    have HR := Lib.hid hR
    obtain ⟨Cd, hCd⟩ : ∃ C, Gu.gcC p a c q = C := ⟨_, rfl⟩
    have HCd := Lib.hid hCd
    clear hR hCd
    go_wp2_with fail
    refine (implGc_any p a c q R Cd _ (by omega) (by omega) HR.out HCd.out).mono ?_
    rintro e' w2 ⟨A1, n1, c1, rfl, o1, hn1, hb2⟩
    have N2_0 := ((Blk.new (w := w1) (g := w1.heap.size) #[.int .i64 p.w, .int .i64 p.h] 25 (by simp)).alloc (.cells #[.int .i64 q.w, .int .i64 q.h] 25))
    have B2_0 := Lib.hid (N2_0.below hb2 N2_0.lt)
    clear N2_0
    have N2_1 := (Blk.new (w := (w1.alloc (.cells #[.int .i64 p.w, .int .i64 p.h] 25))) (g := w1.heap.size + 1) #[.int .i64 q.w, .int .i64 q.h] 25 (by simp))
    have B2_1 := Lib.hid (N2_1.below hb2 N2_1.lt)
    clear N2_1
    replace hb2 := ((below_new w1 (.cells #[.int .i64 p.w, .int .i64 p.h] 25)).alloc (by simp <;> omega) (.cells #[.int .i64 q.w, .int .i64 q.h] 25)).trans (hb2.mono (by simp <;> omega))
    have y2 : w1.heap.size ≤ w2.heap.size := hb2.size
    have HL2 := Lib.hid (HL1.out.below hb2)
    have z2 : w.heap.size + 0 ≤ w2.heap.size := Nat.le_trans z1 hb2.size
    have HB2 := Lib.hid (HB1.out.trans (hb2.mono (by omega)))
    clear hb2
    have c2_0_0 := B2_0.out.cell 0 (v := .int .i64 p.w) rfl
    have c2_0_1 := B2_0.out.cell 1 (v := .int .i64 p.h) rfl
    have c2_1_0 := B2_1.out.cell 0 (v := .int .i64 q.w) rfl
    have c2_1_1 := B2_1.out.cell 1 (v := .int .i64 q.h) rfl
    have Q2_m1 := o1.rd
    clear o1
    go_wp2_with fail
    refine (specGc_any p a c q R Cd _ (by omega) (by omega) HR.out HCd.out).mono ?_
    rintro e' w3 ⟨A2, n2, c2, rfl, o2, hn2, hb3⟩
    have y3 : w2.heap.size ≤ w3.heap.size := hb3.size
    have HL3 := Lib.hid (HL2.out.below hb3)
    have Q3_m1 := Q2_m1.below hb3 (by omega)
    clear Q2_m1
    have z3 : w.heap.size + 0 ≤ w3.heap.size := Nat.le_trans z2 hb3.size
    have HB3 := Lib.hid (HB2.out.trans (hb3.mono (by omega)))
    have B3_0 := Lib.hid (B2_0.out.below hb3 B2_0.out.lt)
    have B3_1 := Lib.hid (B2_1.out.below hb3 B2_1.out.lt)
    clear hb3
    clear c2_0_0 c2_0_1 c2_1_0 c2_1_1
    have Q3_m2 := o2.rd
    clear o2
    go_wp2_with fail
    refine (drawPt_any N C w.heap.size A l _ (h.below HB3.out (Nat.le_refl _)) hl (by omega) (by omega)).mono ?_
    rintro e' w4 ⟨A3, n3, c3, x, rfl, o3, hn3, hb4⟩
    have y4 : w3.heap.size ≤ w4.heap.size := hb4.size
    have HL4 := Lib.hid (HL3.out.below hb4)
    have Q4_m1 := Q3_m1.below hb4 (by omega)
    have Q4_m2 := Q3_m2.below hb4 (by omega)
    clear Q3_m1 Q3_m2
    have z4 : w.heap.size + 0 ≤ w4.heap.size := Nat.le_trans z3 hb4.size
    have HB4 := Lib.hid (HB3.out.trans (hb4.mono (by omega)))
    have B4_0 := Lib.hid (B3_0.out.below hb4 B3_0.out.lt)
    have B4_1 := Lib.hid (B3_1.out.below hb4 B3_1.out.lt)
    clear hb4
    have Q4_x := o3.rd
    clear o3
    obtain ⟨T, hT⟩ : ∃ T, Px.ptS x = T := ⟨_, rfl⟩
    have HZ : Hid (T.size ≤ 948) := Lib.hid (by rw [← hT]; exact Px.pt_size x)
    have HT := Lib.hid hT
    clear hT
    go_wp2_with fail
    refine (implPt_any A3 n3 c3 _ x T _ Q4_x (by omega) (by omega) HL4.out.tab HT.out).mono ?_
    rintro e' w5 ⟨rfl, hb5⟩
    have y5 : w4.heap.size ≤ w5.heap.size := hb5.size
    have HL5 := Lib.hid (HL4.out.below hb5)
    have Q5_m1 := Q4_m1.below hb5 (by omega)
    have Q5_m2 := Q4_m2.below hb5 (by omega)
    have Q5_x := Q4_x.below hb5 (by omega)
    clear Q4_m1 Q4_m2 Q4_x
    have z5 : w.heap.size + 0 ≤ w5.heap.size := Nat.le_trans z4 hb5.size
    have HB5 := Lib.hid (HB4.out.trans (hb5.mono (by omega)))
    have B5_0 := Lib.hid (B4_0.out.below hb5 B4_0.out.lt)
    have B5_1 := Lib.hid (B4_1.out.below hb5 B4_1.out.lt)
    clear hb5
    go_wp2_with fail
    refine (drawRp_any N C w.heap.size A l _ (h.below HB5.out (Nat.le_refl _)) hl (by omega) (by omega)).mono ?_
    rintro e' w6 ⟨s, rfl, hs, hb6⟩
    have y6 : w5.heap.size ≤ w6.heap.size := hb6.size
    have HL6 := Lib.hid (HL5.out.below hb6)
    have Q6_m1 := Q5_m1.below hb6 (by omega)
    have Q6_m2 := Q5_m2.below hb6 (by omega)
    have Q6_x := Q5_x.below hb6 (by omega)
    clear Q5_m1 Q5_m2 Q5_x
    have z6 : w.heap.size + 0 ≤ w6.heap.size := Nat.le_trans z5 hb6.size
    have HB6 := Lib.hid (HB5.out.trans (hb6.mono (by omega)))
    have B6_0 := Lib.hid (B5_0.out.below hb6 B5_0.out.lt)
    have B6_1 := Lib.hid (B5_1.out.below hb6 B5_1.out.lt)
    clear hb6
    have hs1 : s.size ≤ 1048576 := by omega
    have HS := Lib.hid hs1
    clear hs hs1
    go_wp2_with fail
    refine (implRp_any s _ HL6.out HS.out).mono ?_
    rintro e' w7 ⟨A4, n4, c4, y, b1, rfl, o4, h4, hb7⟩
    have y7 : w6.heap.size ≤ w7.heap.size := hb7.size
    have HL7 := Lib.hid (HL6.out.below hb7)
    have Q7_m1 := Q6_m1.below hb7 (by omega)
    have Q7_m2 := Q6_m2.below hb7 (by omega)
    have Q7_x := Q6_x.below hb7 (by omega)
    clear Q6_m1 Q6_m2 Q6_x
    have z7 : w.heap.size + 0 ≤ w7.heap.size := Nat.le_trans z6 hb7.size
    have HB7 := Lib.hid (HB6.out.trans (hb7.mono (by omega)))
    have B7_0 := Lib.hid (B6_0.out.below hb7 B6_0.out.lt)
    have B7_1 := Lib.hid (B6_1.out.below hb7 B6_1.out.lt)
    clear hb7
    have Q7_y := o4.rd
    clear o4
    have H4 := Lib.hid h4
    clear h4
    go_wp2_with fail
    refine (specRp_any s _ HS.out).mono ?_
    rintro e' w8 ⟨A5, n5, c5, z, b2, rfl, o5, h5, hb8⟩
    have y8 : w7.heap.size ≤ w8.heap.size := hb8.size
    have HL8 := Lib.hid (HL7.out.below hb8)
    have Q8_m1 := Q7_m1.below hb8 (by omega)
    have Q8_m2 := Q7_m2.below hb8 (by omega)
    have Q8_x := Q7_x.below hb8 (by omega)
    have Q8_y := Q7_y.below hb8 (by omega)
    clear Q7_m1 Q7_m2 Q7_x Q7_y
    have z8 : w.heap.size + 0 ≤ w8.heap.size := Nat.le_trans z7 hb8.size
    have HB8 := Lib.hid (HB7.out.trans (hb8.mono (by omega)))
    have B8_0 := Lib.hid (B7_0.out.below hb8 B7_0.out.lt)
    have B8_1 := Lib.hid (B7_1.out.below hb8 B7_1.out.lt)
    clear hb8
    have Q8_z := o5.rd
    clear o5
    obtain ⟨rfl, rfl⟩ := H4.out.same h5
    clear h5
    have hn4 : n4 ≤ 1048576 := by have h1 := H4.out.len; have h2 := Q8_y.1; omega
    go_wp2_with fail
    refine (likeCuts_b A1 A2 n1 n2 c1 c2 _ _ R _ Q8_m1 Q8_m2 hn1).mono ?_
    rintro e' w9 ⟨rfl, hb9⟩
    have y9 : w8.heap.size ≤ w9.heap.size := hb9.size
    have HL9 := Lib.hid (HL8.out.below hb9)
    have Q9_m1 := Q8_m1.below hb9 (by omega)
    have Q9_m2 := Q8_m2.below hb9 (by omega)
    have Q9_x := Q8_x.below hb9 (by omega)
    have Q9_y := Q8_y.below hb9 (by omega)
    have Q9_z := Q8_z.below hb9 (by omega)
    clear Q8_m1 Q8_m2 Q8_x Q8_y Q8_z
    have z9 : w.heap.size + 0 ≤ w9.heap.size := Nat.le_trans z8 hb9.size
    have HB9 := Lib.hid (HB8.out.trans (hb9.mono (by omega)))
    have B9_0 := Lib.hid (B8_0.out.below hb9 B8_0.out.lt)
    have B9_1 := Lib.hid (B8_1.out.below hb9 B8_1.out.lt)
    clear hb9
    go_wp2_with fail
    refine (specPt_any A3 n3 c3 _ x T _ Q9_x (by omega) (by omega) HT.out).mono ?_
    rintro e' w10 ⟨rfl, hb10⟩
    have y10 : w9.heap.size ≤ w10.heap.size := hb10.size
    have HL10 := Lib.hid (HL9.out.below hb10)
    have Q10_m1 := Q9_m1.below hb10 (by omega)
    have Q10_m2 := Q9_m2.below hb10 (by omega)
    have Q10_x := Q9_x.below hb10 (by omega)
    have Q10_y := Q9_y.below hb10 (by omega)
    have Q10_z := Q9_z.below hb10 (by omega)
    clear Q9_m1 Q9_m2 Q9_x Q9_y Q9_z
    have z10 : w.heap.size + 0 ≤ w10.heap.size := Nat.le_trans z9 hb10.size
    have HB10 := Lib.hid (HB9.out.trans (hb10.mono (by omega)))
    have B10_0 := Lib.hid (B9_0.out.below hb10 B9_0.out.lt)
    have B10_1 := Lib.hid (B9_1.out.below hb10 B9_1.out.lt)
    clear hb10
    go_wp2_with fail
    refine (likeCuts_b A4 A5 n4 n5 c4 c5 _ _ y _ Q10_y Q10_z hn4).mono ?_
    rintro e' w11 ⟨rfl, hb11⟩
    have y11 : w10.heap.size ≤ w11.heap.size := hb11.size
    have HL11 := Lib.hid (HL10.out.below hb11)
    have Q11_m1 := Q10_m1.below hb11 (by omega)
    have Q11_m2 := Q10_m2.below hb11 (by omega)
    have Q11_x := Q10_x.below hb11 (by omega)
    have Q11_y := Q10_y.below hb11 (by omega)
    have Q11_z := Q10_z.below hb11 (by omega)
    clear Q10_m1 Q10_m2 Q10_x Q10_y Q10_z
    have z11 : w.heap.size + 0 ≤ w11.heap.size := Nat.le_trans z10 hb11.size
    have HB11 := Lib.hid (HB10.out.trans (hb11.mono (by omega)))
    have B11_0 := Lib.hid (B10_0.out.below hb11 B10_0.out.lt)
    have B11_1 := Lib.hid (B10_1.out.below hb11 B10_1.out.lt)
    clear hb11
    cases b1
    · by_cases hT0 : T = ⟨#[]⟩
      · subst hT0
        by_cases hC : Cd = 0
        · subst hC
          obtain ⟨hr, hp, hge⟩ := Gu.grid_facts HCd.out HR.out
          obtain ⟨M, hM⟩ : ∃ M, Gu.rcR p R = M := ⟨_, rfl⟩
          rw [hM] at hp hge
          obtain ⟨K, hK⟩ : ∃ K, Gu.cpR M q = K := ⟨_, rfl⟩
          rw [hK] at hge
          have HM := Lib.hid hM
          have HK := Lib.hid hK
          have HRC := Lib.hid hr
          have HPC := Lib.hid hp
          have m0 : 0 ≤ a * c := Int.mul_nonneg ha.1 hc.1
          have m1 : a * c ≤ 1000 * 1000 := Int.mul_le_mul ha.2 hc.2 hc.1 (by omega)
          have ym : IntKind.i64.wrap (a * c) = a * c := IntWalk.i64_in _ (by omega)
          have yd : decide (a * c ≤ K) = true := decide_eq_true hge
          have HG := Lib.hid hge
          clear hr hp hM hK m0 m1 hge
          have c11_0_0 := B11_0.out.cell 0 (v := .int .i64 p.w) rfl
          have c11_0_1 := B11_0.out.cell 1 (v := .int .i64 p.h) rfl
          go_wp2_with fail
          refine (implRc_any p A1 n1 c1 _ R M 0 _ Q11_m1 (by omega) (by omega) HM.out HRC.out).mono ?_
          rintro e' w12 ⟨A7, n7, c7, rfl, o7, hn7, hb12⟩
          have y12 : w11.heap.size ≤ w12.heap.size := hb12.size
          have HL12 := Lib.hid (HL11.out.below hb12)
          have Q12_m1 := Q11_m1.below hb12 (by omega)
          have Q12_m2 := Q11_m2.below hb12 (by omega)
          have Q12_x := Q11_x.below hb12 (by omega)
          have Q12_y := Q11_y.below hb12 (by omega)
          have Q12_z := Q11_z.below hb12 (by omega)
          clear Q11_m1 Q11_m2 Q11_x Q11_y Q11_z
          have z12 : w.heap.size + 0 ≤ w12.heap.size := Nat.le_trans z11 hb12.size
          have HB12 := Lib.hid (HB11.out.trans (hb12.mono (by omega)))
          have B12_0 := Lib.hid (B11_0.out.below hb12 B11_0.out.lt)
          have B12_1 := Lib.hid (B11_1.out.below hb12 B11_1.out.lt)
          clear hb12
          clear c11_0_0 c11_0_1
          have c12_1_0 := B12_1.out.cell 0 (v := .int .i64 q.w) rfl
          have c12_1_1 := B12_1.out.cell 1 (v := .int .i64 q.h) rfl
          have Q12_L := o7.rd
          clear o7
          go_wp2_with fail
          refine (implCp_any A7 n7 c7 _ M q K 0 _ Q12_L (by omega) (by omega) HK.out HPC.out).mono ?_
          rintro e' w13 ⟨rfl, hb13⟩
          have y13 : w12.heap.size ≤ w13.heap.size := hb13.size
          have HL13 := Lib.hid (HL12.out.below hb13)
          have Q13_m1 := Q12_m1.below hb13 (by omega)
          have Q13_m2 := Q12_m2.below hb13 (by omega)
          have Q13_x := Q12_x.below hb13 (by omega)
          have Q13_y := Q12_y.below hb13 (by omega)
          have Q13_z := Q12_z.below hb13 (by omega)
          clear Q12_m1 Q12_m2 Q12_x Q12_y Q12_z
          have z13 : w.heap.size + 0 ≤ w13.heap.size := Nat.le_trans z12 hb13.size
          have HB13 := Lib.hid (HB12.out.trans (hb13.mono (by omega)))
          have B13_0 := Lib.hid (B12_0.out.below hb13 B12_0.out.lt)
          have B13_1 := Lib.hid (B12_1.out.below hb13 B12_1.out.lt)
          clear hb13
          clear c12_1_0 c12_1_1
          have hge := HG.out
          go_wp2_with fail
          go_ret
          exact ⟨ret_b (by simp <;> omega), HB13.out⟩
        · have hC' : (Cd == 0) = false := by simpa using hC
          go_wp2_with fail
          go_ret
          exact ⟨rfl, HB11.out⟩
      · have hne : (T.toList == []) = false := by
          rw [beq_eq_false_iff_ne, ByteArray.toList_eq]
          intro he
          exact hT0 (Px.bytes_ext he)
        have HT0 := Lib.hid hT0
        clear hT0
        go_wp2_with fail
        refine (implRp_any T _ HL11.out (by have := HZ.out; omega)).mono ?_
        rintro e' w12 ⟨A6, n6, c6, u, b3, rfl, o6, h6, hb12⟩
        have y12 : w11.heap.size ≤ w12.heap.size := hb12.size
        have HL12 := Lib.hid (HL11.out.below hb12)
        have Q12_m1 := Q11_m1.below hb12 (by omega)
        have Q12_m2 := Q11_m2.below hb12 (by omega)
        have Q12_x := Q11_x.below hb12 (by omega)
        have Q12_y := Q11_y.below hb12 (by omega)
        have Q12_z := Q11_z.below hb12 (by omega)
        clear Q11_m1 Q11_m2 Q11_x Q11_y Q11_z
        have z12 : w.heap.size + 0 ≤ w12.heap.size := Nat.le_trans z11 hb12.size
        have HB12 := Lib.hid (HB11.out.trans (hb12.mono (by omega)))
        have B12_0 := Lib.hid (B11_0.out.below hb12 B11_0.out.lt)
        have B12_1 := Lib.hid (B11_1.out.below hb12 B11_1.out.lt)
        clear hb12
        obtain ⟨hu, hb3⟩ := h6.same (Px.RP.reads HT0.out HT.out)
        obtain rfl := hu.symm
        subst hb3
        have Q12_u := o6.rd
        clear o6
        clear h6
        have hn6 : n6 ≤ 1048576 := by have h1 := Q12_u.1; have h2 := Q12_x.1; omega
        go_wp2_with fail
        refine (likeCuts_b A6 A3 n6 n3 c6 c3 _ _ x _ Q12_u Q12_x hn6).mono ?_
        rintro e' w13 ⟨rfl, hb13⟩
        have y13 : w12.heap.size ≤ w13.heap.size := hb13.size
        have HL13 := Lib.hid (HL12.out.below hb13)
        have Q13_m1 := Q12_m1.below hb13 (by omega)
        have Q13_m2 := Q12_m2.below hb13 (by omega)
        have Q13_x := Q12_x.below hb13 (by omega)
        have Q13_y := Q12_y.below hb13 (by omega)
        have Q13_z := Q12_z.below hb13 (by omega)
        have Q13_u := Q12_u.below hb13 (by omega)
        clear Q12_m1 Q12_m2 Q12_x Q12_y Q12_z Q12_u
        have z13 : w.heap.size + 0 ≤ w13.heap.size := Nat.le_trans z12 hb13.size
        have HB13 := Lib.hid (HB12.out.trans (hb13.mono (by omega)))
        have B13_0 := Lib.hid (B12_0.out.below hb13 B12_0.out.lt)
        have B13_1 := Lib.hid (B12_1.out.below hb13 B12_1.out.lt)
        clear hb13
        by_cases hC : Cd = 0
        · subst hC
          obtain ⟨hr, hp, hge⟩ := Gu.grid_facts HCd.out HR.out
          obtain ⟨M, hM⟩ : ∃ M, Gu.rcR p R = M := ⟨_, rfl⟩
          rw [hM] at hp hge
          obtain ⟨K, hK⟩ : ∃ K, Gu.cpR M q = K := ⟨_, rfl⟩
          rw [hK] at hge
          have HM := Lib.hid hM
          have HK := Lib.hid hK
          have HRC := Lib.hid hr
          have HPC := Lib.hid hp
          have m0 : 0 ≤ a * c := Int.mul_nonneg ha.1 hc.1
          have m1 : a * c ≤ 1000 * 1000 := Int.mul_le_mul ha.2 hc.2 hc.1 (by omega)
          have ym : IntKind.i64.wrap (a * c) = a * c := IntWalk.i64_in _ (by omega)
          have yd : decide (a * c ≤ K) = true := decide_eq_true hge
          have HG := Lib.hid hge
          clear hr hp hM hK m0 m1 hge
          have c13_0_0 := B13_0.out.cell 0 (v := .int .i64 p.w) rfl
          have c13_0_1 := B13_0.out.cell 1 (v := .int .i64 p.h) rfl
          go_wp2_with fail
          refine (implRc_any p A1 n1 c1 _ R M 0 _ Q13_m1 (by omega) (by omega) HM.out HRC.out).mono ?_
          rintro e' w14 ⟨A7, n7, c7, rfl, o7, hn7, hb14⟩
          have y14 : w13.heap.size ≤ w14.heap.size := hb14.size
          have HL14 := Lib.hid (HL13.out.below hb14)
          have Q14_m1 := Q13_m1.below hb14 (by omega)
          have Q14_m2 := Q13_m2.below hb14 (by omega)
          have Q14_x := Q13_x.below hb14 (by omega)
          have Q14_y := Q13_y.below hb14 (by omega)
          have Q14_z := Q13_z.below hb14 (by omega)
          have Q14_u := Q13_u.below hb14 (by omega)
          clear Q13_m1 Q13_m2 Q13_x Q13_y Q13_z Q13_u
          have z14 : w.heap.size + 0 ≤ w14.heap.size := Nat.le_trans z13 hb14.size
          have HB14 := Lib.hid (HB13.out.trans (hb14.mono (by omega)))
          have B14_0 := Lib.hid (B13_0.out.below hb14 B13_0.out.lt)
          have B14_1 := Lib.hid (B13_1.out.below hb14 B13_1.out.lt)
          clear hb14
          clear c13_0_0 c13_0_1
          have c14_1_0 := B14_1.out.cell 0 (v := .int .i64 q.w) rfl
          have c14_1_1 := B14_1.out.cell 1 (v := .int .i64 q.h) rfl
          have Q14_L := o7.rd
          clear o7
          go_wp2_with fail
          refine (implCp_any A7 n7 c7 _ M q K 0 _ Q14_L (by omega) (by omega) HK.out HPC.out).mono ?_
          rintro e' w15 ⟨rfl, hb15⟩
          have y15 : w14.heap.size ≤ w15.heap.size := hb15.size
          have HL15 := Lib.hid (HL14.out.below hb15)
          have Q15_m1 := Q14_m1.below hb15 (by omega)
          have Q15_m2 := Q14_m2.below hb15 (by omega)
          have Q15_x := Q14_x.below hb15 (by omega)
          have Q15_y := Q14_y.below hb15 (by omega)
          have Q15_z := Q14_z.below hb15 (by omega)
          have Q15_u := Q14_u.below hb15 (by omega)
          clear Q14_m1 Q14_m2 Q14_x Q14_y Q14_z Q14_u
          have z15 : w.heap.size + 0 ≤ w15.heap.size := Nat.le_trans z14 hb15.size
          have HB15 := Lib.hid (HB14.out.trans (hb15.mono (by omega)))
          have B15_0 := Lib.hid (B14_0.out.below hb15 B14_0.out.lt)
          have B15_1 := Lib.hid (B14_1.out.below hb15 B14_1.out.lt)
          clear hb15
          clear c14_1_0 c14_1_1
          have hge := HG.out
          go_wp2_with fail
          go_ret
          exact ⟨ret_b (by simp <;> omega), HB15.out⟩
        · have hC' : (Cd == 0) = false := by simpa using hC
          go_wp2_with fail
          go_ret
          exact ⟨rfl, HB13.out⟩
    · have hps := Px.RP.of_true H4.out
      have HPS := Lib.hid hps
      clear hps
      go_wp2_with fail
      refine (implPt_any A4 n4 c4 _ y s _ Q11_y (by omega) (by omega) HL11.out.tab HPS.out).mono ?_
      rintro e' w12 ⟨rfl, hb12⟩
      have y12 : w11.heap.size ≤ w12.heap.size := hb12.size
      have HL12 := Lib.hid (HL11.out.below hb12)
      have Q12_m1 := Q11_m1.below hb12 (by omega)
      have Q12_m2 := Q11_m2.below hb12 (by omega)
      have Q12_x := Q11_x.below hb12 (by omega)
      have Q12_y := Q11_y.below hb12 (by omega)
      have Q12_z := Q11_z.below hb12 (by omega)
      clear Q11_m1 Q11_m2 Q11_x Q11_y Q11_z
      have z12 : w.heap.size + 0 ≤ w12.heap.size := Nat.le_trans z11 hb12.size
      have HB12 := Lib.hid (HB11.out.trans (hb12.mono (by omega)))
      have B12_0 := Lib.hid (B11_0.out.below hb12 B11_0.out.lt)
      have B12_1 := Lib.hid (B11_1.out.below hb12 B11_1.out.lt)
      clear hb12
      by_cases hT0 : T = ⟨#[]⟩
      · subst hT0
        by_cases hC : Cd = 0
        · subst hC
          obtain ⟨hr, hp, hge⟩ := Gu.grid_facts HCd.out HR.out
          obtain ⟨M, hM⟩ : ∃ M, Gu.rcR p R = M := ⟨_, rfl⟩
          rw [hM] at hp hge
          obtain ⟨K, hK⟩ : ∃ K, Gu.cpR M q = K := ⟨_, rfl⟩
          rw [hK] at hge
          have HM := Lib.hid hM
          have HK := Lib.hid hK
          have HRC := Lib.hid hr
          have HPC := Lib.hid hp
          have m0 : 0 ≤ a * c := Int.mul_nonneg ha.1 hc.1
          have m1 : a * c ≤ 1000 * 1000 := Int.mul_le_mul ha.2 hc.2 hc.1 (by omega)
          have ym : IntKind.i64.wrap (a * c) = a * c := IntWalk.i64_in _ (by omega)
          have yd : decide (a * c ≤ K) = true := decide_eq_true hge
          have HG := Lib.hid hge
          clear hr hp hM hK m0 m1 hge
          have c12_0_0 := B12_0.out.cell 0 (v := .int .i64 p.w) rfl
          have c12_0_1 := B12_0.out.cell 1 (v := .int .i64 p.h) rfl
          go_wp2_with fail
          refine (implRc_any p A1 n1 c1 _ R M 0 _ Q12_m1 (by omega) (by omega) HM.out HRC.out).mono ?_
          rintro e' w13 ⟨A7, n7, c7, rfl, o7, hn7, hb13⟩
          have y13 : w12.heap.size ≤ w13.heap.size := hb13.size
          have HL13 := Lib.hid (HL12.out.below hb13)
          have Q13_m1 := Q12_m1.below hb13 (by omega)
          have Q13_m2 := Q12_m2.below hb13 (by omega)
          have Q13_x := Q12_x.below hb13 (by omega)
          have Q13_y := Q12_y.below hb13 (by omega)
          have Q13_z := Q12_z.below hb13 (by omega)
          clear Q12_m1 Q12_m2 Q12_x Q12_y Q12_z
          have z13 : w.heap.size + 0 ≤ w13.heap.size := Nat.le_trans z12 hb13.size
          have HB13 := Lib.hid (HB12.out.trans (hb13.mono (by omega)))
          have B13_0 := Lib.hid (B12_0.out.below hb13 B12_0.out.lt)
          have B13_1 := Lib.hid (B12_1.out.below hb13 B12_1.out.lt)
          clear hb13
          clear c12_0_0 c12_0_1
          have c13_1_0 := B13_1.out.cell 0 (v := .int .i64 q.w) rfl
          have c13_1_1 := B13_1.out.cell 1 (v := .int .i64 q.h) rfl
          have Q13_L := o7.rd
          clear o7
          go_wp2_with fail
          refine (implCp_any A7 n7 c7 _ M q K 0 _ Q13_L (by omega) (by omega) HK.out HPC.out).mono ?_
          rintro e' w14 ⟨rfl, hb14⟩
          have y14 : w13.heap.size ≤ w14.heap.size := hb14.size
          have HL14 := Lib.hid (HL13.out.below hb14)
          have Q14_m1 := Q13_m1.below hb14 (by omega)
          have Q14_m2 := Q13_m2.below hb14 (by omega)
          have Q14_x := Q13_x.below hb14 (by omega)
          have Q14_y := Q13_y.below hb14 (by omega)
          have Q14_z := Q13_z.below hb14 (by omega)
          clear Q13_m1 Q13_m2 Q13_x Q13_y Q13_z
          have z14 : w.heap.size + 0 ≤ w14.heap.size := Nat.le_trans z13 hb14.size
          have HB14 := Lib.hid (HB13.out.trans (hb14.mono (by omega)))
          have B14_0 := Lib.hid (B13_0.out.below hb14 B13_0.out.lt)
          have B14_1 := Lib.hid (B13_1.out.below hb14 B13_1.out.lt)
          clear hb14
          clear c13_1_0 c13_1_1
          have hge := HG.out
          go_wp2_with fail
          go_ret
          exact ⟨ret_b (by simp <;> omega), HB14.out⟩
        · have hC' : (Cd == 0) = false := by simpa using hC
          go_wp2_with fail
          go_ret
          exact ⟨rfl, HB12.out⟩
      · have hne : (T.toList == []) = false := by
          rw [beq_eq_false_iff_ne, ByteArray.toList_eq]
          intro he
          exact hT0 (Px.bytes_ext he)
        have HT0 := Lib.hid hT0
        clear hT0
        go_wp2_with fail
        refine (implRp_any T _ HL12.out (by have := HZ.out; omega)).mono ?_
        rintro e' w13 ⟨A6, n6, c6, u, b3, rfl, o6, h6, hb13⟩
        have y13 : w12.heap.size ≤ w13.heap.size := hb13.size
        have HL13 := Lib.hid (HL12.out.below hb13)
        have Q13_m1 := Q12_m1.below hb13 (by omega)
        have Q13_m2 := Q12_m2.below hb13 (by omega)
        have Q13_x := Q12_x.below hb13 (by omega)
        have Q13_y := Q12_y.below hb13 (by omega)
        have Q13_z := Q12_z.below hb13 (by omega)
        clear Q12_m1 Q12_m2 Q12_x Q12_y Q12_z
        have z13 : w.heap.size + 0 ≤ w13.heap.size := Nat.le_trans z12 hb13.size
        have HB13 := Lib.hid (HB12.out.trans (hb13.mono (by omega)))
        have B13_0 := Lib.hid (B12_0.out.below hb13 B12_0.out.lt)
        have B13_1 := Lib.hid (B12_1.out.below hb13 B12_1.out.lt)
        clear hb13
        obtain ⟨hu, hb3⟩ := h6.same (Px.RP.reads HT0.out HT.out)
        obtain rfl := hu.symm
        subst hb3
        have Q13_u := o6.rd
        clear o6
        clear h6
        have hn6 : n6 ≤ 1048576 := by have h1 := Q13_u.1; have h2 := Q13_x.1; omega
        go_wp2_with fail
        refine (likeCuts_b A6 A3 n6 n3 c6 c3 _ _ x _ Q13_u Q13_x hn6).mono ?_
        rintro e' w14 ⟨rfl, hb14⟩
        have y14 : w13.heap.size ≤ w14.heap.size := hb14.size
        have HL14 := Lib.hid (HL13.out.below hb14)
        have Q14_m1 := Q13_m1.below hb14 (by omega)
        have Q14_m2 := Q13_m2.below hb14 (by omega)
        have Q14_x := Q13_x.below hb14 (by omega)
        have Q14_y := Q13_y.below hb14 (by omega)
        have Q14_z := Q13_z.below hb14 (by omega)
        have Q14_u := Q13_u.below hb14 (by omega)
        clear Q13_m1 Q13_m2 Q13_x Q13_y Q13_z Q13_u
        have z14 : w.heap.size + 0 ≤ w14.heap.size := Nat.le_trans z13 hb14.size
        have HB14 := Lib.hid (HB13.out.trans (hb14.mono (by omega)))
        have B14_0 := Lib.hid (B13_0.out.below hb14 B13_0.out.lt)
        have B14_1 := Lib.hid (B13_1.out.below hb14 B13_1.out.lt)
        clear hb14
        by_cases hC : Cd = 0
        · subst hC
          obtain ⟨hr, hp, hge⟩ := Gu.grid_facts HCd.out HR.out
          obtain ⟨M, hM⟩ : ∃ M, Gu.rcR p R = M := ⟨_, rfl⟩
          rw [hM] at hp hge
          obtain ⟨K, hK⟩ : ∃ K, Gu.cpR M q = K := ⟨_, rfl⟩
          rw [hK] at hge
          have HM := Lib.hid hM
          have HK := Lib.hid hK
          have HRC := Lib.hid hr
          have HPC := Lib.hid hp
          have m0 : 0 ≤ a * c := Int.mul_nonneg ha.1 hc.1
          have m1 : a * c ≤ 1000 * 1000 := Int.mul_le_mul ha.2 hc.2 hc.1 (by omega)
          have ym : IntKind.i64.wrap (a * c) = a * c := IntWalk.i64_in _ (by omega)
          have yd : decide (a * c ≤ K) = true := decide_eq_true hge
          have HG := Lib.hid hge
          clear hr hp hM hK m0 m1 hge
          have c14_0_0 := B14_0.out.cell 0 (v := .int .i64 p.w) rfl
          have c14_0_1 := B14_0.out.cell 1 (v := .int .i64 p.h) rfl
          go_wp2_with fail
          refine (implRc_any p A1 n1 c1 _ R M 0 _ Q14_m1 (by omega) (by omega) HM.out HRC.out).mono ?_
          rintro e' w15 ⟨A7, n7, c7, rfl, o7, hn7, hb15⟩
          have y15 : w14.heap.size ≤ w15.heap.size := hb15.size
          have HL15 := Lib.hid (HL14.out.below hb15)
          have Q15_m1 := Q14_m1.below hb15 (by omega)
          have Q15_m2 := Q14_m2.below hb15 (by omega)
          have Q15_x := Q14_x.below hb15 (by omega)
          have Q15_y := Q14_y.below hb15 (by omega)
          have Q15_z := Q14_z.below hb15 (by omega)
          have Q15_u := Q14_u.below hb15 (by omega)
          clear Q14_m1 Q14_m2 Q14_x Q14_y Q14_z Q14_u
          have z15 : w.heap.size + 0 ≤ w15.heap.size := Nat.le_trans z14 hb15.size
          have HB15 := Lib.hid (HB14.out.trans (hb15.mono (by omega)))
          have B15_0 := Lib.hid (B14_0.out.below hb15 B14_0.out.lt)
          have B15_1 := Lib.hid (B14_1.out.below hb15 B14_1.out.lt)
          clear hb15
          clear c14_0_0 c14_0_1
          have c15_1_0 := B15_1.out.cell 0 (v := .int .i64 q.w) rfl
          have c15_1_1 := B15_1.out.cell 1 (v := .int .i64 q.h) rfl
          have Q15_L := o7.rd
          clear o7
          go_wp2_with fail
          refine (implCp_any A7 n7 c7 _ M q K 0 _ Q15_L (by omega) (by omega) HK.out HPC.out).mono ?_
          rintro e' w16 ⟨rfl, hb16⟩
          have y16 : w15.heap.size ≤ w16.heap.size := hb16.size
          have HL16 := Lib.hid (HL15.out.below hb16)
          have Q16_m1 := Q15_m1.below hb16 (by omega)
          have Q16_m2 := Q15_m2.below hb16 (by omega)
          have Q16_x := Q15_x.below hb16 (by omega)
          have Q16_y := Q15_y.below hb16 (by omega)
          have Q16_z := Q15_z.below hb16 (by omega)
          have Q16_u := Q15_u.below hb16 (by omega)
          clear Q15_m1 Q15_m2 Q15_x Q15_y Q15_z Q15_u
          have z16 : w.heap.size + 0 ≤ w16.heap.size := Nat.le_trans z15 hb16.size
          have HB16 := Lib.hid (HB15.out.trans (hb16.mono (by omega)))
          have B16_0 := Lib.hid (B15_0.out.below hb16 B15_0.out.lt)
          have B16_1 := Lib.hid (B15_1.out.below hb16 B15_1.out.lt)
          clear hb16
          clear c15_1_0 c15_1_1
          have hge := HG.out
          go_wp2_with fail
          go_ret
          exact ⟨ret_b (by simp <;> omega), HB16.out⟩
        · have hC' : (Cd == 0) = false := by simpa using hC
          go_wp2_with fail
          go_ret
          exact ⟨rfl, HB14.out⟩
  · have HF : Hid (decide (4096 < N) = true) := decide_eq_true (by omega)
    go_enter Tryz.func3, Tryz.ntmps3
    go_wp2_with fail
    refine (sgBig_any A N C _).mono ?_
    rintro e _ ⟨rfl, rfl⟩
    rw [HF.out]
    go_wp2_with fail
    go_ret
    exact ⟨rfl, Below.refl _ _⟩
end Go.Proofs.YtbhofhobnbhhhaaGreatDoor
