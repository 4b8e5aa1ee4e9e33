/- The walk of the law FnPackings, out of the contracts. -/
import Derived.Test.YtbhkpjjedeinpaaRlIm
import Derived.Test.YtbhkpjjedeinpaaRlDx
import Derived.Test.YtbhkpjjedeinpaaSum
namespace Go.Proofs.Ytbhkpjjedeinpaa
open Go.RowKit
set_option linter.unusedVariables false

theorem likeI_b (A A' : Option Addr) (n n' c c' B B' : Nat) (l : List Int) (w : World) (h : Rd I w B A n l) (h' : Rd I w B' A' n' l) (hn : n ≤ 1048576) :
    Calls Try.prog 24 #[.slice A n c, .slice A' n' c'] w fun e w' => e = .returned (.bool true) ∧ Below w.heap.size w w' := by
  obtain rfl : n = n' := h.1.symm.trans h'.1
  refine (likeInts_true A A' n c c' B B' l w h h' hn).mono ?_
  rintro e w' ⟨he, m, hm⟩
  exact ⟨he, by rw [hm]; exact below_drewN' (Below.refl _ _) m⟩
namespace Rl
theorem sumOf_tot (l : List Int) : sumOf l = tot l := by
  induction l with
  | nil => rfl
  | cons x l ih => simp only [sumOf, tot, ih]
theorem tot_sub (r : Int) (l : List Int) : tot (l.map fun x => r - x) = (l.length : Int) * r - tot l := by
  induction l with
  | nil => simp [tot]
  | cons x l ih =>
    simp only [List.map_cons, tot, ih, List.length_cons]
    rw [show ((l.length + 1 : Nat) : Int) = (l.length : Int) + 1 from by omega, Int.add_mul]
    omega
/-- What the code of SparesOf says. -/
theorem sp_cases (r : Int) (s p : List Int) : (isP r s p = true ∧ spC r s p = 0) ∨ (isP r s p = false ∧ (spC r s p = 1 ∨ spC r s p = 2)) := by
  cases hq : isP r s p
  · right
    refine ⟨rfl, ?_⟩
    unfold spC
    rw [hq]
    cases okT r s
    · exact .inl rfl
    · exact .inr rfl
  · left
    refine ⟨rfl, ?_⟩
    unfold spC
    rw [sp_task hq, hq]
    rfl
theorem ff_cases (r : Int) (s : List Int) : (okT r s = true ∧ ffC r s = 0) ∨ (okT r s = false ∧ ffC r s = 1) := by
  cases hd : okT r s
  · exact .inr ⟨rfl, (ff_no hd).1⟩
  · exact .inl ⟨rfl, (ff_yes hd).1⟩
/-- The spares of a packing and what was cut are the rolls. -/
theorem sp_sum {r : Int} {s p R : List Int} (h : isP r s p = true) (hR : spR r s p = R) : tot R + tot s = (R.length : Int) * r ∧ R.length = rolls p ∧ (∀ x ∈ R, 0 ≤ x ∧ x ≤ 1000000) ∧ R.length ≤ 12 := by
  obtain ⟨hok, hlen, hnum, hle⟩ := isP_iff.1 h
  have e : R = (loads s p).map fun x => r - x := by rw [← hR]; unfold spR; rw [if_pos h]
  have h1 := tot_loads s p hlen
  have h2 := loads_len s p (by omega)
  have h3 := okT_iff.1 hok
  refine ⟨?_, by rw [e, List.length_map, h2], ?_, ?_⟩
  · rw [e, tot_sub, h1, List.length_map]
    omega
  · rw [e]
    intro x hx
    rw [List.mem_map] at hx
    obtain ⟨y, hy, rfl⟩ := hx
    have hy1 := hle y hy
    have hy0 : 0 ≤ y := by
      obtain ⟨k, hk⟩ := List.getElem?_of_mem hy
      have h4 := loads_bd (s := s) (p := p) (fun x hx => by have := h3.2.2 x hx; omega) p.length (Nat.le_refl _) (by omega) k
      rw [List.take_length, loads_cut] at h4
      have e2 : (loads s p).getD k 0 = y := by rw [List.getD_eq_getElem?_getD, hk]; rfl
      omega
    omega
  · have h4 := rolls_le hnum (by omega)
    rw [e, List.length_map, h2]
    omega
theorem strips_bd {r : Int} {s : List Int} (h : okT r s = true) : (∀ x ∈ s, 0 ≤ x ∧ x ≤ 1000000) ∧ s.length ≤ 12 := by
  have h3 := okT_iff.1 h
  exact ⟨fun x hx => by have := h3.2.2 x hx; omega, h3.2.1⟩
end Rl

set_option maxRecDepth 100000 in
set_option maxHeartbeats 40000000 in
theorem w_FnPackings (A : Option Addr) (N C : Nat) (l : List Int) (w : World) (h : Rd U w w.heap.size A N l) (hl : inByte l) :
    Calls Try.prog 3 #[.slice A N C] w fun e' w' => e' = .returned (.bool true) ∧ Below w.heap.size w w' := by
  by_cases hN : N ≤ 4096
  · have HF : Hid (decide (4096 < N) = false) := decide_eq_false (by omega)
    go_enter Try.func3, Try.ntmps3
    go_wp2_with fail
    refine (big_any A N C _).mono ?_
    rintro e _ ⟨rfl, rfl⟩
    rw [HF.out]
    go_wp2_with fail
    refine (DrawFf_any1 N C w.heap.size A l _ h hl (Nat.le_refl _) (by omega)).mono ?_
    rintro e' w1 ⟨r, A1, n1, c1, s, rfl, hr, q1, hn1, hb1⟩
    have z1 : w.heap.size ≤ w1.heap.size := hb1.size
    have HB1 := Lib.hid ((Below.refl w.heap.size w).trans (hb1.mono (Below.refl w.heap.size w).size))
    have Q1_s := q1
    clear hb1
    clear q1
    obtain ⟨F, hF⟩ : ∃ v, Rl.ffR r s = v := ⟨_, rfl⟩
    have HF_ := Lib.hid hF
    clear hF
    obtain ⟨L, hL⟩ : ∃ v, Rl.lfR r s = v := ⟨_, rfl⟩
    have HL := Lib.hid hL
    clear hL
    obtain ⟨D, hD⟩ : ∃ v, Rl.ffC r s = v := ⟨_, rfl⟩
    have HD := Lib.hid hD
    clear hD
    obtain ⟨b, hb⟩ : ∃ v, Rl.bdR r s = v := ⟨_, rfl⟩
    have Hb := Lib.hid hb
    clear hb
    obtain ⟨E, hE⟩ : ∃ v, Rl.bdC r s = v := ⟨_, rfl⟩
    have HE := Lib.hid hE
    clear hE
    go_wp2_with fail
    refine (implFf_any1 r A1 n1 c1 _ s F D _ Q1_s (by omega) (by omega) (by omega) ⟨by omega, by omega⟩ HF_.out HD.out).mono ?_
    rintro e' w2 ⟨A2, n2, c2, rfl, o2, hn2, hb2⟩
    have z2 : w1.heap.size ≤ w2.heap.size := hb2.size
    have HB2 := Lib.hid (HB1.out.trans (hb2.mono HB1.out.size))
    have Q2_s := Q1_s.below hb2 (by omega)
    clear Q1_s
    have Q2_f := o2.rd
    clear hb2
    have hc2 := o2.cap
    clear o2
    go_wp2_with fail
    refine (specFf_any' r A1 n1 c1 _ s F D _ Q2_s (by omega) (by omega) HF_.out HD.out).mono ?_
    rintro e' w3 ⟨A3, n3, c3, rfl, o3, hn3, hb3⟩
    have z3 : w2.heap.size ≤ w3.heap.size := hb3.size
    have HB3 := Lib.hid (HB2.out.trans (hb3.mono HB2.out.size))
    have Q3_s := Q2_s.below hb3 (by omega)
    have Q3_f := Q2_f.below hb3 (by omega)
    clear Q2_s Q2_f
    have Q3_m := o3.rd
    clear hb3
    clear o3
    go_wp2_with fail
    refine (implLf_any1 r A1 n1 c1 _ s L D _ Q3_s (by omega) (by omega) (by omega) ⟨by omega, by omega⟩ HL.out HD.out).mono ?_
    rintro e' w4 ⟨A4, n4, c4, rfl, o4, hn4, hb4⟩
    have z4 : w3.heap.size ≤ w4.heap.size := hb4.size
    have HB4 := Lib.hid (HB3.out.trans (hb4.mono HB3.out.size))
    have Q4_s := Q3_s.below hb4 (by omega)
    have Q4_f := Q3_f.below hb4 (by omega)
    have Q4_m := Q3_m.below hb4 (by omega)
    clear Q3_s Q3_f Q3_m
    have Q4_l := o4.rd
    clear hb4
    have hc4 := o4.cap
    clear o4
    go_wp2_with fail
    refine (specLf_any' r A1 n1 c1 _ s L D _ Q4_s (by omega) (by omega) HL.out HD.out).mono ?_
    rintro e' w5 ⟨A5, n5, c5, rfl, o5, hn5, hb5⟩
    have z5 : w4.heap.size ≤ w5.heap.size := hb5.size
    have HB5 := Lib.hid (HB4.out.trans (hb5.mono HB4.out.size))
    have Q5_s := Q4_s.below hb5 (by omega)
    have Q5_f := Q4_f.below hb5 (by omega)
    have Q5_m := Q4_m.below hb5 (by omega)
    have Q5_l := Q4_l.below hb5 (by omega)
    clear Q4_s Q4_f Q4_m Q4_l
    have Q5_g := o5.rd
    clear hb5
    clear o5
    go_wp2_with fail
    refine (implRlB_any r A1 n1 c1 _ s b E _ Q5_s (by omega) (by omega) (by omega) ⟨by omega, by omega⟩ Hb.out HE.out).mono ?_
    rintro e' w6 ⟨rfl, hb6⟩
    have z6 : w5.heap.size ≤ w6.heap.size := hb6.size
    have HB6 := Lib.hid (HB5.out.trans (hb6.mono HB5.out.size))
    have Q6_s := Q5_s.below hb6 (by omega)
    have Q6_f := Q5_f.below hb6 (by omega)
    have Q6_m := Q5_m.below hb6 (by omega)
    have Q6_l := Q5_l.below hb6 (by omega)
    have Q6_g := Q5_g.below hb6 (by omega)
    clear Q5_s Q5_f Q5_m Q5_l Q5_g
    clear hb6
    go_wp2_with fail
    refine (to_below10 (specRlB_any r A1 n1 c1 _ s b E _ Q6_s (by omega) Hb.out HE.out)).mono ?_
    rintro e' w7 ⟨rfl, hb7⟩
    have z7 : w6.heap.size ≤ w7.heap.size := hb7.size
    have HB7 := Lib.hid (HB6.out.trans (hb7.mono HB6.out.size))
    have Q7_s := Q6_s.below hb7 (by omega)
    have Q7_f := Q6_f.below hb7 (by omega)
    have Q7_m := Q6_m.below hb7 (by omega)
    have Q7_l := Q6_l.below hb7 (by omega)
    have Q7_g := Q6_g.below hb7 (by omega)
    clear Q6_s Q6_f Q6_m Q6_l Q6_g
    clear hb7
    go_wp2_with fail
    refine (DrawSp_any' N C w.heap.size A l _ (h.below HB7.out (Nat.le_refl _)) hl (by omega) (by omega)).mono ?_
    rintro e' w8 ⟨x, A6, n6, c6, y, A7, n7, c7, z, rfl, hx, q6, q7, hnn, hb8⟩
    have z8 : w7.heap.size ≤ w8.heap.size := hb8.size
    have HB8 := Lib.hid (HB7.out.trans (hb8.mono HB7.out.size))
    have Q8_s := Q7_s.below hb8 (by omega)
    have Q8_f := Q7_f.below hb8 (by omega)
    have Q8_m := Q7_m.below hb8 (by omega)
    have Q8_l := Q7_l.below hb8 (by omega)
    have Q8_g := Q7_g.below hb8 (by omega)
    clear Q7_s Q7_f Q7_m Q7_l Q7_g
    have Q8_y := q6
    have Q8_z := q7
    clear hb8
    clear q6 q7
    obtain ⟨S, hS⟩ : ∃ v, Rl.spR x y z = v := ⟨_, rfl⟩
    have HS := Lib.hid hS
    obtain ⟨P, hP⟩ : ∃ v, Rl.spC x y z = v := ⟨_, rfl⟩
    have HP := Lib.hid hP
    clear hS hP
    go_wp2_with fail
    refine (implSp_any1 x A6 A7 n6 c6 _ n7 c7 _ y z S P _ Q8_y Q8_z (by omega) (by omega) (by omega) (by omega) (by omega) (by omega) ⟨by omega, by omega⟩ HS.out HP.out).mono ?_
    rintro e' w9 ⟨A8, n8, c8, rfl, o8, hn8, hb9⟩
    have z9 : w8.heap.size ≤ w9.heap.size := hb9.size
    have HB9 := Lib.hid (HB8.out.trans (hb9.mono HB8.out.size))
    have Q9_s := Q8_s.below hb9 (by omega)
    have Q9_f := Q8_f.below hb9 (by omega)
    have Q9_m := Q8_m.below hb9 (by omega)
    have Q9_l := Q8_l.below hb9 (by omega)
    have Q9_g := Q8_g.below hb9 (by omega)
    have Q9_y := Q8_y.below hb9 (by omega)
    have Q9_z := Q8_z.below hb9 (by omega)
    clear Q8_s Q8_f Q8_m Q8_l Q8_g Q8_y Q8_z
    have Q9_p := o8.rd
    clear hb9
    clear o8
    go_wp2_with fail
    refine (specSp_any' x A6 A7 n6 c6 _ n7 c7 _ y z S P _ Q9_y Q9_z (by omega) (by omega) (by omega) (by omega) HS.out HP.out).mono ?_
    rintro e' w10 ⟨A9, n9, c9, rfl, o9, hn9, hb10⟩
    have z10 : w9.heap.size ≤ w10.heap.size := hb10.size
    have HB10 := Lib.hid (HB9.out.trans (hb10.mono HB9.out.size))
    have Q10_s := Q9_s.below hb10 (by omega)
    have Q10_f := Q9_f.below hb10 (by omega)
    have Q10_m := Q9_m.below hb10 (by omega)
    have Q10_l := Q9_l.below hb10 (by omega)
    have Q10_g := Q9_g.below hb10 (by omega)
    have Q10_y := Q9_y.below hb10 (by omega)
    have Q10_z := Q9_z.below hb10 (by omega)
    have Q10_p := Q9_p.below hb10 (by omega)
    clear Q9_s Q9_f Q9_m Q9_l Q9_g Q9_y Q9_z Q9_p
    have Q10_v := o9.rd
    clear hb10
    clear o9
    go_wp2_with fail
    refine (likeI_b A2 A3 n2 n3 c2 c3 _ _ F _ Q10_f Q10_m (by omega)).mono ?_
    rintro e' w11 ⟨rfl, hb11⟩
    have z11 : w10.heap.size ≤ w11.heap.size := hb11.size
    have HB11 := Lib.hid (HB10.out.trans (hb11.mono HB10.out.size))
    have Q11_s := Q10_s.below hb11 (by omega)
    have Q11_f := Q10_f.below hb11 (by omega)
    have Q11_m := Q10_m.below hb11 (by omega)
    have Q11_l := Q10_l.below hb11 (by omega)
    have Q11_g := Q10_g.below hb11 (by omega)
    have Q11_y := Q10_y.below hb11 (by omega)
    have Q11_z := Q10_z.below hb11 (by omega)
    have Q11_p := Q10_p.below hb11 (by omega)
    have Q11_v := Q10_v.below hb11 (by omega)
    clear Q10_s Q10_f Q10_m Q10_l Q10_g Q10_y Q10_z Q10_p Q10_v
    clear hb11
    go_wp2_with fail
    refine (likeI_b A4 A5 n4 n5 c4 c5 _ _ L _ Q11_l Q11_g (by omega)).mono ?_
    rintro e' w12 ⟨rfl, hb12⟩
    have z12 : w11.heap.size ≤ w12.heap.size := hb12.size
    have HB12 := Lib.hid (HB11.out.trans (hb12.mono HB11.out.size))
    have Q12_s := Q11_s.below hb12 (by omega)
    have Q12_f := Q11_f.below hb12 (by omega)
    have Q12_m := Q11_m.below hb12 (by omega)
    have Q12_l := Q11_l.below hb12 (by omega)
    have Q12_g := Q11_g.below hb12 (by omega)
    have Q12_y := Q11_y.below hb12 (by omega)
    have Q12_z := Q11_z.below hb12 (by omega)
    have Q12_p := Q11_p.below hb12 (by omega)
    have Q12_v := Q11_v.below hb12 (by omega)
    clear Q11_s Q11_f Q11_m Q11_l Q11_g Q11_y Q11_z Q11_p Q11_v
    clear hb12
    go_wp2_with fail
    refine (likeI_b A8 A9 n8 n9 c8 c9 _ _ S _ Q12_p Q12_v (by omega)).mono ?_
    rintro e' w13 ⟨rfl, hb13⟩
    have z13 : w12.heap.size ≤ w13.heap.size := hb13.size
    have HB13 := Lib.hid (HB12.out.trans (hb13.mono HB12.out.size))
    have Q13_s := Q12_s.below hb13 (by omega)
    have Q13_f := Q12_f.below hb13 (by omega)
    have Q13_m := Q12_m.below hb13 (by omega)
    have Q13_l := Q12_l.below hb13 (by omega)
    have Q13_g := Q12_g.below hb13 (by omega)
    have Q13_y := Q12_y.below hb13 (by omega)
    have Q13_z := Q12_z.below hb13 (by omega)
    have Q13_p := Q12_p.below hb13 (by omega)
    have Q13_v := Q12_v.below hb13 (by omega)
    clear Q12_s Q12_f Q12_m Q12_l Q12_g Q12_y Q12_z Q12_p Q12_v
    clear hb13
    obtain ⟨u, hu⟩ : ∃ v, Rl.isP x y z = v := ⟨_, rfl⟩
    have HU := Lib.hid hu
    clear hu
    go_wp2_with fail
    refine (implRlP_any x A6 A7 n6 c6 _ n7 c7 _ y z u _ Q13_y Q13_z (by omega) (by omega) (by omega) (by omega) (by omega) (by omega) ⟨by omega, by omega⟩ HU.out).mono ?_
    rintro e' w14 ⟨rfl, hb14⟩
    have z14 : w13.heap.size ≤ w14.heap.size := hb14.size
    have HB14 := Lib.hid (HB13.out.trans (hb14.mono HB13.out.size))
    have Q14_s := Q13_s.below hb14 (by omega)
    have Q14_f := Q13_f.below hb14 (by omega)
    have Q14_m := Q13_m.below hb14 (by omega)
    have Q14_l := Q13_l.below hb14 (by omega)
    have Q14_g := Q13_g.below hb14 (by omega)
    have Q14_y := Q13_y.below hb14 (by omega)
    have Q14_z := Q13_z.below hb14 (by omega)
    have Q14_p := Q13_p.below hb14 (by omega)
    have Q14_v := Q13_v.below hb14 (by omega)
    clear Q13_s Q13_f Q13_m Q13_l Q13_g Q13_y Q13_z Q13_p Q13_v
    clear hb14
    obtain ⟨d, hd⟩ : ∃ v, Rl.okT r s = v := ⟨_, rfl⟩
    have HDD := Lib.hid hd
    clear hd
    have hsp := Rl.sp_cases x y z
    rw [HU.out, HP.out] at hsp
    have hff := Rl.ff_cases r s
    rw [HDD.out, HD.out] at hff
    rcases hsp with ⟨rfl, rfl⟩ | ⟨rfl, rfl | rfl⟩
    · have HFF := Lib.hid hff
      clear hff
      go_wp2_with fail
      refine (implRlT_any r A1 n1 c1 _ s d _ Q14_s (by omega) (by omega) (by omega) ⟨by omega, by omega⟩ HDD.out).mono ?_
      rintro e' w15 ⟨rfl, hb15⟩
      have z15 : w14.heap.size ≤ w15.heap.size := hb15.size
      have HB15 := Lib.hid (HB14.out.trans (hb15.mono HB14.out.size))
      have Q15_s := Q14_s.below hb15 (by omega)
      have Q15_f := Q14_f.below hb15 (by omega)
      have Q15_m := Q14_m.below hb15 (by omega)
      have Q15_l := Q14_l.below hb15 (by omega)
      have Q15_g := Q14_g.below hb15 (by omega)
      have Q15_y := Q14_y.below hb15 (by omega)
      have Q15_z := Q14_z.below hb15 (by omega)
      have Q15_p := Q14_p.below hb15 (by omega)
      have Q15_v := Q14_v.below hb15 (by omega)
      clear Q14_s Q14_f Q14_m Q14_l Q14_g Q14_y Q14_z Q14_p Q14_v
      clear hb15
      rcases HFF.out with ⟨rfl, rfl⟩ | ⟨rfl, rfl⟩
      · obtain ⟨hs1, hs2, hs3, hs4⟩ := Rl.sp_sum HU.out HS.out
        obtain ⟨hy1, hy2⟩ := Rl.strips_bd (Rl.sp_task HU.out)
        have e8 : S.length = n8 := Q15_p.1
        rw [e8] at hs1 hs2 hs4
        obtain ⟨ts, hts⟩ : ∃ v, Rl.tot S = v := ⟨_, rfl⟩
        obtain ⟨ty, hty⟩ : ∃ v, Rl.tot y = v := ⟨_, rfl⟩
        have bs := Rl.tot_bd hs3
        have by_ := Rl.tot_bd hy1
        rw [hts] at hs1 bs
        rw [hty] at hs1 by_
        rw [e8] at bs
        have q1 : (n8 : Int) * 1000000 ≤ 12 * 1000000 := Int.mul_le_mul_of_nonneg_right (by omega) (by omega)
        have q2 : (y.length : Int) * 1000000 ≤ 12 * 1000000 := Int.mul_le_mul_of_nonneg_right (by omega) (by omega)
        have ea : IntKind.i64.wrap (ts + ty) = ts + ty := IntWalk.i64_in _ (by omega)
        have em : IntKind.i64.wrap ((n8 : Int) * x) = ts + ty := by rw [← hs1]; exact ea
        have hsS := fun (B : Nat) W (hW : Rd I W B A8 n8 S) => sum_is A8 n8 c8 B S W ts hW (by omega) (fun v hv => by have := hs3 v hv; omega) (by rw [Rl.sumOf_tot]; exact hts)
        have hsY := fun (B : Nat) W (hW : Rd I W B A6 n6 y) => sum_is A6 n6 c6 B y W ty hW (by omega) (fun v hv => by have := hy1 v hv; omega) (by rw [Rl.sumOf_tot]; exact hty)
        clear hs1 hs2 hs3 hs4 hy1 hy2 bs by_ q1 q2 hts hty e8
        go_wp2_with fail
        refine (to_below10 (hsS _ _ Q15_p)).mono ?_
        rintro e' w16 ⟨rfl, hb16⟩
        have z16 : w15.heap.size ≤ w16.heap.size := hb16.size
        have HB16 := Lib.hid (HB15.out.trans (hb16.mono HB15.out.size))
        have Q16_s := Q15_s.below hb16 (by omega)
        have Q16_f := Q15_f.below hb16 (by omega)
        have Q16_m := Q15_m.below hb16 (by omega)
        have Q16_l := Q15_l.below hb16 (by omega)
        have Q16_g := Q15_g.below hb16 (by omega)
        have Q16_y := Q15_y.below hb16 (by omega)
        have Q16_z := Q15_z.below hb16 (by omega)
        have Q16_p := Q15_p.below hb16 (by omega)
        have Q16_v := Q15_v.below hb16 (by omega)
        clear Q15_s Q15_f Q15_m Q15_l Q15_g Q15_y Q15_z Q15_p Q15_v
        clear hb16
        go_wp2_with fail
        refine (to_below10 (hsY _ _ Q16_y)).mono ?_
        rintro e' w17 ⟨rfl, hb17⟩
        have z17 : w16.heap.size ≤ w17.heap.size := hb17.size
        have HB17 := Lib.hid (HB16.out.trans (hb17.mono HB16.out.size))
        have Q17_s := Q16_s.below hb17 (by omega)
        have Q17_f := Q16_f.below hb17 (by omega)
        have Q17_m := Q16_m.below hb17 (by omega)
        have Q17_l := Q16_l.below hb17 (by omega)
        have Q17_g := Q16_g.below hb17 (by omega)
        have Q17_y := Q16_y.below hb17 (by omega)
        have Q17_z := Q16_z.below hb17 (by omega)
        have Q17_p := Q16_p.below hb17 (by omega)
        have Q17_v := Q16_v.below hb17 (by omega)
        clear Q16_s Q16_f Q16_m Q16_l Q16_g Q16_y Q16_z Q16_p Q16_v
        clear hb17
        have hpf := Rl.ff_pack HDD.out
        have hpl := Rl.lf_pack HDD.out
        have eF : F = Rl.ff r s := HF_.out.symm.trans (Rl.ff_yes HDD.out).2.1
        have eL : L = Rl.lf r s := HL.out.symm.trans (Rl.ff_yes HDD.out).2.2
        rw [← eF] at hpf
        rw [← eL] at hpl
        have ebd : b = Rl.bd r s := by rw [← Hb.out]; unfold Rl.bdR; rw [if_pos HDD.out]
        have b1 := Rl.bound_le hpf
        have b2 := Rl.bound_le hpl
        rw [← ebd] at b1 b2
        have HB1_ := Lib.hid b1
        have HB2_ := Lib.hid b2
        have HPF := Lib.hid hpf
        have HPL := Lib.hid hpl
        clear hpf hpl eF eL ebd b1 b2
        obtain ⟨T, hT⟩ : ∃ v, Rl.spR r s F = v := ⟨_, rfl⟩
        have HT_ := Lib.hid hT
        clear hT
        have eT : Rl.spC r s F = 0 := by unfold Rl.spC; rw [if_pos HDD.out, if_pos HPF.out]
        have ET := Lib.hid eT
        clear eT
        go_wp2_with fail
        refine (implSp_any1 r A1 A2 n1 c1 _ n2 c2 _ s F T 0 _ Q17_s Q17_f (by omega) (by omega) (by omega) (by omega) (by omega) (by omega) ⟨by omega, by omega⟩ HT_.out ET.out).mono ?_
        rintro e' w18 ⟨A10, n10, c10, rfl, o10, hn10, hb18⟩
        have z18 : w17.heap.size ≤ w18.heap.size := hb18.size
        have HB18 := Lib.hid (HB17.out.trans (hb18.mono HB17.out.size))
        have Q18_s := Q17_s.below hb18 (by omega)
        have Q18_f := Q17_f.below hb18 (by omega)
        have Q18_m := Q17_m.below hb18 (by omega)
        have Q18_l := Q17_l.below hb18 (by omega)
        have Q18_g := Q17_g.below hb18 (by omega)
        have Q18_y := Q17_y.below hb18 (by omega)
        have Q18_z := Q17_z.below hb18 (by omega)
        have Q18_p := Q17_p.below hb18 (by omega)
        have Q18_v := Q17_v.below hb18 (by omega)
        clear Q17_s Q17_f Q17_m Q17_l Q17_g Q17_y Q17_z Q17_p Q17_v
        have Q18_T := o10.rd
        clear hb18
        clear o10
        obtain ⟨V, hV⟩ : ∃ v, Rl.spR r s L = v := ⟨_, rfl⟩
        have HV_ := Lib.hid hV
        clear hV
        have eV : Rl.spC r s L = 0 := by unfold Rl.spC; rw [if_pos HDD.out, if_pos HPL.out]
        have EV := Lib.hid eV
        clear eV
        go_wp2_with fail
        refine (implSp_any1 r A1 A4 n1 c1 _ n4 c4 _ s L V 0 _ Q18_s Q18_l (by omega) (by omega) (by omega) (by omega) (by omega) (by omega) ⟨by omega, by omega⟩ HV_.out EV.out).mono ?_
        rintro e' w19 ⟨A11, n11, c11, rfl, o11, hn11, hb19⟩
        have z19 : w18.heap.size ≤ w19.heap.size := hb19.size
        have HB19 := Lib.hid (HB18.out.trans (hb19.mono HB18.out.size))
        have Q19_s := Q18_s.below hb19 (by omega)
        have Q19_f := Q18_f.below hb19 (by omega)
        have Q19_m := Q18_m.below hb19 (by omega)
        have Q19_l := Q18_l.below hb19 (by omega)
        have Q19_g := Q18_g.below hb19 (by omega)
        have Q19_y := Q18_y.below hb19 (by omega)
        have Q19_z := Q18_z.below hb19 (by omega)
        have Q19_p := Q18_p.below hb19 (by omega)
        have Q19_v := Q18_v.below hb19 (by omega)
        have Q19_T := Q18_T.below hb19 (by omega)
        clear Q18_s Q18_f Q18_m Q18_l Q18_g Q18_y Q18_z Q18_p Q18_v Q18_T
        have Q19_V := o11.rd
        clear hb19
        clear o11
        have g1 : b ≤ (n10 : Int) := by have h1 := (Rl.sp_sum HPF.out HT_.out).2.1; have h2 := Q19_T.1; have h3 := HB1_.out; omega
        have g2 : b ≤ (n11 : Int) := by have h1 := (Rl.sp_sum HPL.out HV_.out).2.1; have h2 := Q19_V.1; have h3 := HB2_.out; omega
        go_wp2_with fail
        go_ret
        exact ⟨ret_b (by simp <;> omega), HB19.out⟩
      · obtain ⟨hs1, hs2, hs3, hs4⟩ := Rl.sp_sum HU.out HS.out
        obtain ⟨hy1, hy2⟩ := Rl.strips_bd (Rl.sp_task HU.out)
        have e8 : S.length = n8 := Q15_p.1
        rw [e8] at hs1 hs2 hs4
        obtain ⟨ts, hts⟩ : ∃ v, Rl.tot S = v := ⟨_, rfl⟩
        obtain ⟨ty, hty⟩ : ∃ v, Rl.tot y = v := ⟨_, rfl⟩
        have bs := Rl.tot_bd hs3
        have by_ := Rl.tot_bd hy1
        rw [hts] at hs1 bs
        rw [hty] at hs1 by_
        rw [e8] at bs
        have q1 : (n8 : Int) * 1000000 ≤ 12 * 1000000 := Int.mul_le_mul_of_nonneg_right (by omega) (by omega)
        have q2 : (y.length : Int) * 1000000 ≤ 12 * 1000000 := Int.mul_le_mul_of_nonneg_right (by omega) (by omega)
        have ea : IntKind.i64.wrap (ts + ty) = ts + ty := IntWalk.i64_in _ (by omega)
        have em : IntKind.i64.wrap ((n8 : Int) * x) = ts + ty := by rw [← hs1]; exact ea
        have hsS := fun (B : Nat) W (hW : Rd I W B A8 n8 S) => sum_is A8 n8 c8 B S W ts hW (by omega) (fun v hv => by have := hs3 v hv; omega) (by rw [Rl.sumOf_tot]; exact hts)
        have hsY := fun (B : Nat) W (hW : Rd I W B A6 n6 y) => sum_is A6 n6 c6 B y W ty hW (by omega) (fun v hv => by have := hy1 v hv; omega) (by rw [Rl.sumOf_tot]; exact hty)
        clear hs1 hs2 hs3 hs4 hy1 hy2 bs by_ q1 q2 hts hty e8
        go_wp2_with fail
        refine (to_below10 (hsS _ _ Q15_p)).mono ?_
        rintro e' w16 ⟨rfl, hb16⟩
        have z16 : w15.heap.size ≤ w16.heap.size := hb16.size
        have HB16 := Lib.hid (HB15.out.trans (hb16.mono HB15.out.size))
        have Q16_s := Q15_s.below hb16 (by omega)
        have Q16_f := Q15_f.below hb16 (by omega)
        have Q16_m := Q15_m.below hb16 (by omega)
        have Q16_l := Q15_l.below hb16 (by omega)
        have Q16_g := Q15_g.below hb16 (by omega)
        have Q16_y := Q15_y.below hb16 (by omega)
        have Q16_z := Q15_z.below hb16 (by omega)
        have Q16_p := Q15_p.below hb16 (by omega)
        have Q16_v := Q15_v.below hb16 (by omega)
        clear Q15_s Q15_f Q15_m Q15_l Q15_g Q15_y Q15_z Q15_p Q15_v
        clear hb16
        go_wp2_with fail
        refine (to_below10 (hsY _ _ Q16_y)).mono ?_
        rintro e' w17 ⟨rfl, hb17⟩
        have z17 : w16.heap.size ≤ w17.heap.size := hb17.size
        have HB17 := Lib.hid (HB16.out.trans (hb17.mono HB16.out.size))
        have Q17_s := Q16_s.below hb17 (by omega)
        have Q17_f := Q16_f.below hb17 (by omega)
        have Q17_m := Q16_m.below hb17 (by omega)
        have Q17_l := Q16_l.below hb17 (by omega)
        have Q17_g := Q16_g.below hb17 (by omega)
        have Q17_y := Q16_y.below hb17 (by omega)
        have Q17_z := Q16_z.below hb17 (by omega)
        have Q17_p := Q16_p.below hb17 (by omega)
        have Q17_v := Q16_v.below hb17 (by omega)
        clear Q16_s Q16_f Q16_m Q16_l Q16_g Q16_y Q16_z Q16_p Q16_v
        clear hb17
        go_wp2_with fail
        go_ret
        exact ⟨rfl, HB17.out⟩
    · have HFF := Lib.hid hff
      clear hff
      go_wp2_with fail
      refine (implRlT_any r A1 n1 c1 _ s d _ Q14_s (by omega) (by omega) (by omega) ⟨by omega, by omega⟩ HDD.out).mono ?_
      rintro e' w15 ⟨rfl, hb15⟩
      have z15 : w14.heap.size ≤ w15.heap.size := hb15.size
      have HB15 := Lib.hid (HB14.out.trans (hb15.mono HB14.out.size))
      have Q15_s := Q14_s.below hb15 (by omega)
      have Q15_f := Q14_f.below hb15 (by omega)
      have Q15_m := Q14_m.below hb15 (by omega)
      have Q15_l := Q14_l.below hb15 (by omega)
      have Q15_g := Q14_g.below hb15 (by omega)
      have Q15_y := Q14_y.below hb15 (by omega)
      have Q15_z := Q14_z.below hb15 (by omega)
      have Q15_p := Q14_p.below hb15 (by omega)
      have Q15_v := Q14_v.below hb15 (by omega)
      clear Q14_s Q14_f Q14_m Q14_l Q14_g Q14_y Q14_z Q14_p Q14_v
      clear hb15
      rcases HFF.out with ⟨rfl, rfl⟩ | ⟨rfl, rfl⟩
      · have hpf := Rl.ff_pack HDD.out
        have hpl := Rl.lf_pack HDD.out
        have eF : F = Rl.ff r s := HF_.out.symm.trans (Rl.ff_yes HDD.out).2.1
        have eL : L = Rl.lf r s := HL.out.symm.trans (Rl.ff_yes HDD.out).2.2
        rw [← eF] at hpf
        rw [← eL] at hpl
        have ebd : b = Rl.bd r s := by rw [← Hb.out]; unfold Rl.bdR; rw [if_pos HDD.out]
        have b1 := Rl.bound_le hpf
        have b2 := Rl.bound_le hpl
        rw [← ebd] at b1 b2
        have HB1_ := Lib.hid b1
        have HB2_ := Lib.hid b2
        have HPF := Lib.hid hpf
        have HPL := Lib.hid hpl
        clear hpf hpl eF eL ebd b1 b2
        obtain ⟨T, hT⟩ : ∃ v, Rl.spR r s F = v := ⟨_, rfl⟩
        have HT_ := Lib.hid hT
        clear hT
        have eT : Rl.spC r s F = 0 := by unfold Rl.spC; rw [if_pos HDD.out, if_pos HPF.out]
        have ET := Lib.hid eT
        clear eT
        go_wp2_with fail
        refine (implSp_any1 r A1 A2 n1 c1 _ n2 c2 _ s F T 0 _ Q15_s Q15_f (by omega) (by omega) (by omega) (by omega) (by omega) (by omega) ⟨by omega, by omega⟩ HT_.out ET.out).mono ?_
        rintro e' w16 ⟨A10, n10, c10, rfl, o10, hn10, hb16⟩
        have z16 : w15.heap.size ≤ w16.heap.size := hb16.size
        have HB16 := Lib.hid (HB15.out.trans (hb16.mono HB15.out.size))
        have Q16_s := Q15_s.below hb16 (by omega)
        have Q16_f := Q15_f.below hb16 (by omega)
        have Q16_m := Q15_m.below hb16 (by omega)
        have Q16_l := Q15_l.below hb16 (by omega)
        have Q16_g := Q15_g.below hb16 (by omega)
        have Q16_y := Q15_y.below hb16 (by omega)
        have Q16_z := Q15_z.below hb16 (by omega)
        have Q16_p := Q15_p.below hb16 (by omega)
        have Q16_v := Q15_v.below hb16 (by omega)
        clear Q15_s Q15_f Q15_m Q15_l Q15_g Q15_y Q15_z Q15_p Q15_v
        have Q16_T := o10.rd
        clear hb16
        clear o10
        obtain ⟨V, hV⟩ : ∃ v, Rl.spR r s L = v := ⟨_, rfl⟩
        have HV_ := Lib.hid hV
        clear hV
        have eV : Rl.spC r s L = 0 := by unfold Rl.spC; rw [if_pos HDD.out, if_pos HPL.out]
        have EV := Lib.hid eV
        clear eV
        go_wp2_with fail
        refine (implSp_any1 r A1 A4 n1 c1 _ n4 c4 _ s L V 0 _ Q16_s Q16_l (by omega) (by omega) (by omega) (by omega) (by omega) (by omega) ⟨by omega, by omega⟩ HV_.out EV.out).mono ?_
        rintro e' w17 ⟨A11, n11, c11, rfl, o11, hn11, hb17⟩
        have z17 : w16.heap.size ≤ w17.heap.size := hb17.size
        have HB17 := Lib.hid (HB16.out.trans (hb17.mono HB16.out.size))
        have Q17_s := Q16_s.below hb17 (by omega)
        have Q17_f := Q16_f.below hb17 (by omega)
        have Q17_m := Q16_m.below hb17 (by omega)
        have Q17_l := Q16_l.below hb17 (by omega)
        have Q17_g := Q16_g.below hb17 (by omega)
        have Q17_y := Q16_y.below hb17 (by omega)
        have Q17_z := Q16_z.below hb17 (by omega)
        have Q17_p := Q16_p.below hb17 (by omega)
        have Q17_v := Q16_v.below hb17 (by omega)
        have Q17_T := Q16_T.below hb17 (by omega)
        clear Q16_s Q16_f Q16_m Q16_l Q16_g Q16_y Q16_z Q16_p Q16_v Q16_T
        have Q17_V := o11.rd
        clear hb17
        clear o11
        have g1 : b ≤ (n10 : Int) := by have h1 := (Rl.sp_sum HPF.out HT_.out).2.1; have h2 := Q17_T.1; have h3 := HB1_.out; omega
        have g2 : b ≤ (n11 : Int) := by have h1 := (Rl.sp_sum HPL.out HV_.out).2.1; have h2 := Q17_V.1; have h3 := HB2_.out; omega
        go_wp2_with fail
        go_ret
        exact ⟨ret_b (by simp <;> omega), HB17.out⟩
      · go_wp2_with fail
        go_ret
        exact ⟨rfl, HB15.out⟩
    · have HFF := Lib.hid hff
      clear hff
      go_wp2_with fail
      refine (implRlT_any r A1 n1 c1 _ s d _ Q14_s (by omega) (by omega) (by omega) ⟨by omega, by omega⟩ HDD.out).mono ?_
      rintro e' w15 ⟨rfl, hb15⟩
      have z15 : w14.heap.size ≤ w15.heap.size := hb15.size
      have HB15 := Lib.hid (HB14.out.trans (hb15.mono HB14.out.size))
      have Q15_s := Q14_s.below hb15 (by omega)
      have Q15_f := Q14_f.below hb15 (by omega)
      have Q15_m := Q14_m.below hb15 (by omega)
      have Q15_l := Q14_l.below hb15 (by omega)
      have Q15_g := Q14_g.below hb15 (by omega)
      have Q15_y := Q14_y.below hb15 (by omega)
      have Q15_z := Q14_z.below hb15 (by omega)
      have Q15_p := Q14_p.below hb15 (by omega)
      have Q15_v := Q14_v.below hb15 (by omega)
      clear Q14_s Q14_f Q14_m Q14_l Q14_g Q14_y Q14_z Q14_p Q14_v
      clear hb15
      rcases HFF.out with ⟨rfl, rfl⟩ | ⟨rfl, rfl⟩
      · have hpf := Rl.ff_pack HDD.out
        have hpl := Rl.lf_pack HDD.out
        have eF : F = Rl.ff r s := HF_.out.symm.trans (Rl.ff_yes HDD.out).2.1
        have eL : L = Rl.lf r s := HL.out.symm.trans (Rl.ff_yes HDD.out).2.2
        rw [← eF] at hpf
        rw [← eL] at hpl
        have ebd : b = Rl.bd r s := by rw [← Hb.out]; unfold Rl.bdR; rw [if_pos HDD.out]
        have b1 := Rl.bound_le hpf
        have b2 := Rl.bound_le hpl
        rw [← ebd] at b1 b2
        have HB1_ := Lib.hid b1
        have HB2_ := Lib.hid b2
        have HPF := Lib.hid hpf
        have HPL := Lib.hid hpl
        clear hpf hpl eF eL ebd b1 b2
        obtain ⟨T, hT⟩ : ∃ v, Rl.spR r s F = v := ⟨_, rfl⟩
        have HT_ := Lib.hid hT
        clear hT
        have eT : Rl.spC r s F = 0 := by unfold Rl.spC; rw [if_pos HDD.out, if_pos HPF.out]
        have ET := Lib.hid eT
        clear eT
        go_wp2_with fail
        refine (implSp_any1 r A1 A2 n1 c1 _ n2 c2 _ s F T 0 _ Q15_s Q15_f (by omega) (by omega) (by omega) (by omega) (by omega) (by omega) ⟨by omega, by omega⟩ HT_.out ET.out).mono ?_
        rintro e' w16 ⟨A10, n10, c10, rfl, o10, hn10, hb16⟩
        have z16 : w15.heap.size ≤ w16.heap.size := hb16.size
        have HB16 := Lib.hid (HB15.out.trans (hb16.mono HB15.out.size))
        have Q16_s := Q15_s.below hb16 (by omega)
        have Q16_f := Q15_f.below hb16 (by omega)
        have Q16_m := Q15_m.below hb16 (by omega)
        have Q16_l := Q15_l.below hb16 (by omega)
        have Q16_g := Q15_g.below hb16 (by omega)
        have Q16_y := Q15_y.below hb16 (by omega)
        have Q16_z := Q15_z.below hb16 (by omega)
        have Q16_p := Q15_p.below hb16 (by omega)
        have Q16_v := Q15_v.below hb16 (by omega)
        clear Q15_s Q15_f Q15_m Q15_l Q15_g Q15_y Q15_z Q15_p Q15_v
        have Q16_T := o10.rd
        clear hb16
        clear o10
        obtain ⟨V, hV⟩ : ∃ v, Rl.spR r s L = v := ⟨_, rfl⟩
        have HV_ := Lib.hid hV
        clear hV
        have eV : Rl.spC r s L = 0 := by unfold Rl.spC; rw [if_pos HDD.out, if_pos HPL.out]
        have EV := Lib.hid eV
        clear eV
        go_wp2_with fail
        refine (implSp_any1 r A1 A4 n1 c1 _ n4 c4 _ s L V 0 _ Q16_s Q16_l (by omega) (by omega) (by omega) (by omega) (by omega) (by omega) ⟨by omega, by omega⟩ HV_.out EV.out).mono ?_
        rintro e' w17 ⟨A11, n11, c11, rfl, o11, hn11, hb17⟩
        have z17 : w16.heap.size ≤ w17.heap.size := hb17.size
        have HB17 := Lib.hid (HB16.out.trans (hb17.mono HB16.out.size))
        have Q17_s := Q16_s.below hb17 (by omega)
        have Q17_f := Q16_f.below hb17 (by omega)
        have Q17_m := Q16_m.below hb17 (by omega)
        have Q17_l := Q16_l.below hb17 (by omega)
        have Q17_g := Q16_g.below hb17 (by omega)
        have Q17_y := Q16_y.below hb17 (by omega)
        have Q17_z := Q16_z.below hb17 (by omega)
        have Q17_p := Q16_p.below hb17 (by omega)
        have Q17_v := Q16_v.below hb17 (by omega)
        have Q17_T := Q16_T.below hb17 (by omega)
        clear Q16_s Q16_f Q16_m Q16_l Q16_g Q16_y Q16_z Q16_p Q16_v Q16_T
        have Q17_V := o11.rd
        clear hb17
        clear o11
        have g1 : b ≤ (n10 : Int) := by have h1 := (Rl.sp_sum HPF.out HT_.out).2.1; have h2 := Q17_T.1; have h3 := HB1_.out; omega
        have g2 : b ≤ (n11 : Int) := by have h1 := (Rl.sp_sum HPL.out HV_.out).2.1; have h2 := Q17_V.1; have h3 := HB2_.out; omega
        go_wp2_with fail
        go_ret
        exact ⟨ret_b (by simp <;> omega), HB17.out⟩
      · go_wp2_with fail
        go_ret
        exact ⟨rfl, HB15.out⟩
  · have HF : Hid (decide (4096 < N) = true) := decide_eq_true (by omega)
    go_enter Try.func3, Try.ntmps3
    go_wp2_with fail
    refine (big_any A N C _).mono ?_
    rintro e _ ⟨rfl, rfl⟩
    rw [HF.out]
    go_wp2_with fail
    go_ret
    exact ⟨rfl, Below.refl _ _⟩
end Go.Proofs.Ytbhkpjjedeinpaa
