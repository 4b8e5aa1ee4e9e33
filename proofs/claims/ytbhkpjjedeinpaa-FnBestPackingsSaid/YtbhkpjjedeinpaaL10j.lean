/- The walk of the law FnBestPackings, out of the contracts. -/
import Derived.Test.YtbhkpjjedeinpaaRlIm
import Derived.Test.YtbhkpjjedeinpaaRlDx
import Derived.Test.YtbhkpjjedeinpaaL10i
namespace Go.Proofs.Ytbhkpjjedeinpaa
open Go.RowKit
set_option linter.unusedVariables false

set_option maxRecDepth 100000 in
set_option maxHeartbeats 40000000 in
theorem w_FnBestPackings (A : Option Addr) (N C : Nat) (l : List Int) (w : World) (h : Rd U w w.heap.size A N l) (hl : inByte l) :
    Calls Try.prog 4 #[.slice A N C] w fun e' w' => e' = .returned (.bool true) ∧ Below w.heap.size w w' := by
  by_cases hN : N ≤ 4096
  · have HF : Hid (decide (4096 < N) = false) := decide_eq_false (by omega)
    go_enter Try.func4, Try.ntmps4
    go_wp2_with fail
    refine (big_any A N C _).mono ?_
    rintro e _ ⟨rfl, rfl⟩
    rw [HF.out]
    go_wp2_with fail
    refine (DrawBp_any N C w.heap.size A l _ h hl (Nat.le_refl _) (by omega)).mono ?_
    rintro e' w1 ⟨r, A1, n1, c1, s, rfl, hr, q1, hn1, hb1⟩
    have z1 : w.heap.size ≤ w1.heap.size := hb1.size
    have HB1 := Lib.hid ((Below.refl w.heap.size w).trans (hb1.mono (Below.refl w.heap.size w).size))
    have Q1_s := q1
    clear hb1
    clear q1
    obtain ⟨G, hG⟩ : ∃ v, Rl.bpR r s = v := ⟨_, rfl⟩
    have HG := Lib.hid hG
    clear hG
    obtain ⟨D, hD⟩ : ∃ v, Rl.ffC r s = v := ⟨_, rfl⟩
    have HD := Lib.hid hD
    clear hD
    obtain ⟨m, hm⟩ : ∃ v, Rl.lrR r s = v := ⟨_, rfl⟩
    have Hm := Lib.hid hm
    clear hm
    go_wp2_with fail
    refine (implBp_any r A1 n1 c1 _ s G D _ Q1_s (by omega) (by omega) (by omega) ⟨by omega, by omega⟩ HG.out HD.out).mono ?_
    rintro e' w2 ⟨A2, n2, c2, rfl, o2, hn2, hb2⟩
    have z2 : w1.heap.size ≤ w2.heap.size := hb2.size
    have HB2 := Lib.hid (HB1.out.trans (hb2.mono HB1.out.size))
    have Q2_s := Q1_s.below hb2 (by omega)
    clear Q1_s
    have Q2_p := o2.rd
    clear hb2
    have hc2 := o2.cap
    clear o2
    go_wp2_with fail
    refine (specBp_any r A1 n1 c1 _ s G D _ Q2_s (by omega) (by omega) HG.out HD.out).mono ?_
    rintro e' w3 ⟨A3, n3, c3, rfl, o3, hn3, hb3⟩
    have z3 : w2.heap.size ≤ w3.heap.size := hb3.size
    have HB3 := Lib.hid (HB2.out.trans (hb3.mono HB2.out.size))
    have Q3_s := Q2_s.below hb3 (by omega)
    have Q3_p := Q2_p.below hb3 (by omega)
    clear Q2_s Q2_p
    have Q3_q := o3.rd
    clear hb3
    clear o3
    go_wp2_with fail
    refine (implLr_any r A1 n1 c1 _ s m D _ Q3_s (by omega) (by omega) (by omega) ⟨by omega, by omega⟩ Hm.out HD.out).mono ?_
    rintro e' w4 ⟨rfl, hb4⟩
    have z4 : w3.heap.size ≤ w4.heap.size := hb4.size
    have HB4 := Lib.hid (HB3.out.trans (hb4.mono HB3.out.size))
    have Q4_s := Q3_s.below hb4 (by omega)
    have Q4_p := Q3_p.below hb4 (by omega)
    have Q4_q := Q3_q.below hb4 (by omega)
    clear Q3_s Q3_p Q3_q
    clear hb4
    go_wp2_with fail
    refine (specLr_any r A1 n1 c1 _ s m D _ Q4_s (by omega) (by omega) Hm.out HD.out).mono ?_
    rintro e' w5 ⟨rfl, hb5⟩
    have z5 : w4.heap.size ≤ w5.heap.size := hb5.size
    have HB5 := Lib.hid (HB4.out.trans (hb5.mono HB4.out.size))
    have Q5_s := Q4_s.below hb5 (by omega)
    have Q5_p := Q4_p.below hb5 (by omega)
    have Q5_q := Q4_q.below hb5 (by omega)
    clear Q4_s Q4_p Q4_q
    clear hb5
    go_wp2_with fail
    refine (likeI_b A2 A3 n2 n3 c2 c3 _ _ G _ Q5_p Q5_q (by omega)).mono ?_
    rintro e' w6 ⟨rfl, hb6⟩
    have z6 : w5.heap.size ≤ w6.heap.size := hb6.size
    have HB6 := Lib.hid (HB5.out.trans (hb6.mono HB5.out.size))
    have Q6_s := Q5_s.below hb6 (by omega)
    have Q6_p := Q5_p.below hb6 (by omega)
    have Q6_q := Q5_q.below hb6 (by omega)
    clear Q5_s Q5_p Q5_q
    clear hb6
    obtain ⟨d, hd⟩ : ∃ v, Rl.okT r s = v := ⟨_, rfl⟩
    have HDD := Lib.hid hd
    clear hd
    have hff := Rl.ff_cases r s
    rw [HDD.out, HD.out] at hff
    rcases hff with ⟨rfl, rfl⟩ | ⟨rfl, rfl⟩
    · have hbr := Rl.best_R HDD.out
      have eG : G = Rl.best r s := by rw [← HG.out]; unfold Rl.bpR; rw [if_pos HDD.out]
      have em : m = (Rl.rolls (Rl.best r s) : Int) := by rw [← Hm.out]; unfold Rl.lrR; rw [if_pos HDD.out]
      rw [← eG] at hbr em
      have hpf := Rl.ff_pack HDD.out
      have hle := (hbr.2 _ hpf).1
      have hbd := Rl.bound_le hbr.1
      have HPG := Lib.hid hbr.1
      have HEM := Lib.hid em
      have HLE := Lib.hid hle
      have HBD := Lib.hid hbd
      have HPF := Lib.hid hpf
      clear hbr eG em hpf hle hbd
      obtain ⟨T, hT⟩ : ∃ v, Rl.spR r s G = v := ⟨_, rfl⟩
      have HT_ := Lib.hid hT
      clear hT
      obtain ⟨F, hF⟩ : ∃ v, Rl.ffR r s = v := ⟨_, rfl⟩
      have HF_ := Lib.hid hF
      clear hF
      obtain ⟨b, hb⟩ : ∃ v, Rl.bdR r s = v := ⟨_, rfl⟩
      have Hb_ := Lib.hid hb
      clear hb
      have ET := Lib.hid (show Rl.spC r s G = 0 by unfold Rl.spC; rw [if_pos HDD.out, if_pos HPG.out])
      have HFE : Hid (F = Rl.ff r s) := Lib.hid (HF_.out.symm.trans (Rl.ff_yes HDD.out).2.1)
      have HBE : Hid (b = Rl.bd r s) := Lib.hid (by rw [← Hb_.out]; unfold Rl.bdR; rw [if_pos HDD.out])
      have HBC : Hid (Rl.bdC r s = 0) := Lib.hid (by unfold Rl.bdC; rw [if_pos HDD.out])
      go_wp2_with fail
      refine (implSp_any1 r A1 A2 n1 c1 _ n2 c2 _ s G T 0 _ Q6_s Q6_p (by omega) (by omega) (by omega) (by omega) (by omega) (by omega) ⟨by omega, by omega⟩ HT_.out ET.out).mono ?_
      rintro e' w7 ⟨A4, n4, c4, rfl, o4, hn4, hb7⟩
      have z7 : w6.heap.size ≤ w7.heap.size := hb7.size
      have HB7 := Lib.hid (HB6.out.trans (hb7.mono HB6.out.size))
      have Q7_s := Q6_s.below hb7 (by omega)
      have Q7_p := Q6_p.below hb7 (by omega)
      have Q7_q := Q6_q.below hb7 (by omega)
      clear Q6_s Q6_p Q6_q
      have Q7_own := o4.rd
      clear hb7
      clear o4
      go_wp2_with fail
      refine (implFf_any1 r A1 n1 c1 _ s F 0 _ Q7_s (by omega) (by omega) (by omega) ⟨by omega, by omega⟩ HF_.out HD.out).mono ?_
      rintro e' w8 ⟨A5, n5, c5, rfl, o5, hn5, hb8⟩
      have z8 : w7.heap.size ≤ w8.heap.size := hb8.size
      have HB8 := Lib.hid (HB7.out.trans (hb8.mono HB7.out.size))
      have Q8_s := Q7_s.below hb8 (by omega)
      have Q8_p := Q7_p.below hb8 (by omega)
      have Q8_q := Q7_q.below hb8 (by omega)
      have Q8_own := Q7_own.below hb8 (by omega)
      clear Q7_s Q7_p Q7_q Q7_own
      have Q8_f := o5.rd
      clear hb8
      have hc5 := o5.cap
      clear o5
      have hpf2 := HPF.out
      rw [← HFE.out] at hpf2
      have HPF2 := Lib.hid hpf2
      clear hpf2
      obtain ⟨V, hV⟩ : ∃ v, Rl.spR r s F = v := ⟨_, rfl⟩
      have HV_ := Lib.hid hV
      clear hV
      have EV := Lib.hid (show Rl.spC r s F = 0 by unfold Rl.spC; rw [if_pos HDD.out, if_pos HPF2.out])
      go_wp2_with fail
      refine (implSp_any1 r A1 A5 n1 c1 _ n5 c5 _ s F V 0 _ Q8_s Q8_f (by omega) (by omega) (by omega) (by omega) (by omega) (by omega) ⟨by omega, by omega⟩ HV_.out EV.out).mono ?_
      rintro e' w9 ⟨A6, n6, c6, rfl, o6, hn6, hb9⟩
      have z9 : w8.heap.size ≤ w9.heap.size := hb9.size
      have HB9 := Lib.hid (HB8.out.trans (hb9.mono HB8.out.size))
      have Q9_s := Q8_s.below hb9 (by omega)
      have Q9_p := Q8_p.below hb9 (by omega)
      have Q9_q := Q8_q.below hb9 (by omega)
      have Q9_own := Q8_own.below hb9 (by omega)
      have Q9_f := Q8_f.below hb9 (by omega)
      clear Q8_s Q8_p Q8_q Q8_own Q8_f
      have Q9_oth := o6.rd
      clear hb9
      clear o6
      go_wp2_with fail
      refine (implRlB_any r A1 n1 c1 _ s b 0 _ Q9_s (by omega) (by omega) (by omega) ⟨by omega, by omega⟩ Hb_.out HBC.out).mono ?_
      rintro e' w10 ⟨rfl, hb10⟩
      have z10 : w9.heap.size ≤ w10.heap.size := hb10.size
      have HB10 := Lib.hid (HB9.out.trans (hb10.mono HB9.out.size))
      have Q10_s := Q9_s.below hb10 (by omega)
      have Q10_p := Q9_p.below hb10 (by omega)
      have Q10_q := Q9_q.below hb10 (by omega)
      have Q10_own := Q9_own.below hb10 (by omega)
      have Q10_f := Q9_f.below hb10 (by omega)
      have Q10_oth := Q9_oth.below hb10 (by omega)
      clear Q9_s Q9_p Q9_q Q9_own Q9_f Q9_oth
      clear hb10
      have g1 : (n4 : Int) = m := by have h1 := (Rl.sp_sum HPG.out HT_.out).2.1; have h2 := Q10_own.1; have h3 := HEM.out; omega
      have g2 : n4 ≤ n6 := by have h1 := (Rl.sp_sum HPG.out HT_.out).2.1; have h2 := Q10_own.1; have h3 := (Rl.sp_sum HPF2.out HV_.out).2.1; have h4 := Q10_oth.1; have h5 := HLE.out; rw [← HFE.out] at h5; omega
      have g3 : b ≤ m := by have h1 := HBD.out; have h2 := HEM.out; have h3 := HBE.out; omega
      have G2 : (n4 : Int) ≤ (n6 : Int) := by omega
      subst g1
      go_wp2_with fail
      go_ret
      exact ⟨ret_b (by simp <;> omega), HB10.out⟩
    · go_wp2_with fail
      go_ret
      exact ⟨rfl, HB6.out⟩
  · have HF : Hid (decide (4096 < N) = true) := decide_eq_true (by omega)
    go_enter Try.func4, Try.ntmps4
    go_wp2_with fail
    refine (big_any A N C _).mono ?_
    rintro e _ ⟨rfl, rfl⟩
    rw [HF.out]
    go_wp2_with fail
    go_ret
    exact ⟨rfl, Below.refl _ _⟩
end Go.Proofs.Ytbhkpjjedeinpaa
