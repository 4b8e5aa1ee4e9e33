/- The walk of the law FnBestPlans, out of the contracts. -/
import Derived.Test.YtbhofhobnbhhhaaDoorBzC
namespace Go.Proofs.YtbhofhobnbhhhaaDoor
open Go.RowKit
set_option linter.unusedVariables false

theorem Bc.best_counts {w h : Int} {l : List Kd} {s : ByteArray} {cs : List Int} {C : Int} (hc : Bc.code w h l = 0) (hb : Bc.BpR w h l s) (hp : Bc.PcR w h l s.data.toList cs C) : C = 0 ∧ Bc.sumV l cs = Bc.V l w.toNat h.toNat := by
  obtain ⟨hok, hos⟩ := Bc.code0 hc
  have hs := Bc.okS_iff.1 hos
  have hll := Bc.okL_iff.1 hok
  rcases hb with ⟨_, hb⟩ | ⟨h1, _⟩
  · obtain ⟨q, hq, hv⟩ := hb.plan hll.1 (by omega) (by omega)
    rcases hp with ⟨h1, _⟩ | ⟨_, h1, p, h2, h3⟩ | ⟨_, _, _, h1⟩
    · exact absurd hc h1
    · obtain rfl : p = q := h2.same hll.2.2 hq
      obtain ⟨_, _, _, h4⟩ := h2.facts hll.1 (by omega) (by omega)
      have h5 := Bc.sum_addP p (List.replicate l.length 0) (by simp) h4
      have h6 := Bc.sum_zero l l.length
      subst h3
      exact ⟨h1, by omega⟩
    · exact absurd hq (h1 q)
  · exact absurd hc h1
theorem Bc.bp_size {w h : Int} {l : List Kd} {s : ByteArray} (hc : Bc.code w h l = 0) (hb : Bc.BpR w h l s) : s.size ≤ 1048576 := by
  have hs := Bc.okS_iff.1 (Bc.code0 hc).2
  rcases hb with ⟨_, hb⟩ | ⟨h1, _⟩
  · have h2 := hb.small (by omega) (by omega) (by omega) (by omega)
    have h3 : s.size = s.data.toList.length := (Array.length_toList).symm
    omega
  · exact absurd hc h1
theorem implPv_best (w0 h0 : Int) (A : Option Addr) (n c B : Nat) (l : List Kd) (s : ByteArray) (G : Int) (w : World) (hLb : Lb w) (h : RdS Kd.S w B A n l) (hB : B ≤ w.heap.size) (hn : n ≤ 1048577) (hc : n ≤ c) (b1 : Bc.i64 w0) (b2 : Bc.i64 h0) (hC : Bc.code w0 h0 l = 0) (hP : Bc.BpR w0 h0 l s) (hG : Bc.bvR w0 h0 l = G) :
    Calls Tryd.prog 23 #[.int .i64 w0, .int .i64 h0, .slice A n c, .string s] w fun e w' => e = .returned (.tuple #[.int .i64 G, .int .i64 0]) ∧ Below w.heap.size w w' := by
  refine (implPv_any w0 h0 A n c B l s w hLb h hB hn hc b1 b2 (Bc.bp_size hC hP)).mono ?_
  rintro e w' ⟨cs, C, hp, rfl, hb⟩
  obtain ⟨rfl, hV⟩ := Bc.best_counts hC hP hp
  refine ⟨?_, hb⟩
  have e1 : Bc.pvR l cs 0 = G := by
    rw [← hG]
    unfold Bc.bvR
    rw [if_pos hC]
    exact hV
  rw [e1]

set_option maxRecDepth 100000 in
set_option maxHeartbeats 40000000 in
theorem w_FnBestPlans (A : Option Addr) (N C : Nat) (l : List Int) (w : World) (h : Rd U w w.heap.size A N l) (hl : inByte l) (hLb : Lb w) :
    Calls Tryd.prog 3 #[.slice A N C] w fun e' w' => e' = .returned (.bool true) ∧ Below w.heap.size w w' := by
  by_cases hN : N ≤ 4096
  · have HLb := Lib.hid hLb
    clear hLb
    have HF : Hid (decide (4096 < N) = false) := decide_eq_false (by omega)
    go_enter Tryd.func3, Tryd.ntmps3
    go_wp2_with fail
    refine (big_any A N C _).mono ?_
    rintro e _ ⟨rfl, rfl⟩
    rw [HF.out]
    go_wp2_with fail
    refine (DrawBestPlan_any N C w.heap.size A l _ h hl (Nat.le_refl _) (by omega)).mono ?_
    rintro e' w1 ⟨a, b, A1, n, c, li, rfl, ha, hb, q1, hn, hc, hb1⟩
    have z1 : w.heap.size ≤ w1.heap.size := hb1.size
    have HB1 := Lib.hid ((Below.refl w.heap.size w).trans (hb1.mono (Below.refl w.heap.size w).size))
    have Q1_k := q1
    clear hb1
    clear q1
    obtain ⟨D, hD⟩ : ∃ v, Bc.code a b li = v := ⟨_, rfl⟩
    have HD := Lib.hid hD
    clear hD
    obtain ⟨G, hG⟩ : ∃ v, Bc.bvR a b li = v := ⟨_, rfl⟩
    have HG := Lib.hid hG
    clear hG
    obtain ⟨R, hR⟩ : ∃ v, Bc.bkI a b li = v := ⟨_, rfl⟩
    have HR := Lib.hid hR
    clear hR
    obtain ⟨V, hV⟩ : ∃ v, Bc.bkV a b li = v := ⟨_, rfl⟩
    have HV := Lib.hid hV
    clear hV
    obtain ⟨E, hE⟩ : ∃ v, Bc.dnR a b li = v := ⟨_, rfl⟩
    have HE := Lib.hid hE
    clear hE
    obtain ⟨g, hg⟩ : ∃ v, Bc.okL li = v := ⟨_, rfl⟩
    have Hg := Lib.hid hg
    clear hg
    go_wp2_with fail
    refine (implBp_any a b A1 n c _ li D _ (HLb.out.below HB1.out).tab Q1_k (by omega) (by omega) hc ⟨by omega, by omega⟩ ⟨by omega, by omega⟩ HD.out).mono ?_
    rintro e' w2 ⟨t, rfl, hp1, hb2⟩
    have z2 : w1.heap.size ≤ w2.heap.size := hb2.size
    have HB2 := Lib.hid (HB1.out.trans (hb2.mono HB1.out.size))
    have Q2_k := Q1_k.below hb2 (by omega)
    clear Q1_k
    clear hb2
    have HP := Lib.hid hp1
    clear hp1
    go_wp2_with fail
    refine (specBp_any a b A1 n c _ li D _ Q2_k (by omega) (by omega) HD.out).mono ?_
    rintro e' w3 ⟨t2, rfl, hp2, hb3⟩
    have z3 : w2.heap.size ≤ w3.heap.size := hb3.size
    have HB3 := Lib.hid (HB2.out.trans (hb3.mono HB2.out.size))
    have Q3_k := Q2_k.below hb3 (by omega)
    clear Q2_k
    clear hb3
    obtain rfl : t = t2 := HP.out.same hp2
    clear hp2
    go_wp2_with fail
    refine (implBv_any a b A1 n c _ li G D _ Q3_k (by omega) (by omega) hc ⟨by omega, by omega⟩ ⟨by omega, by omega⟩ HG.out HD.out).mono ?_
    rintro e' w4 ⟨rfl, hb4⟩
    have z4 : w3.heap.size ≤ w4.heap.size := hb4.size
    have HB4 := Lib.hid (HB3.out.trans (hb4.mono HB3.out.size))
    have Q4_k := Q3_k.below hb4 (by omega)
    clear Q3_k
    clear hb4
    go_wp2_with fail
    refine (specBv_any a b A1 n c _ li G D _ Q4_k (by omega) (by omega) HG.out HD.out).mono ?_
    rintro e' w5 ⟨rfl, hb5⟩
    have z5 : w4.heap.size ≤ w5.heap.size := hb5.size
    have HB5 := Lib.hid (HB4.out.trans (hb5.mono HB4.out.size))
    have Q5_k := Q4_k.below hb5 (by omega)
    clear Q4_k
    clear hb5
    go_wp2_with fail
    refine (implKb_any a b A1 n c _ li R V D _ Q5_k (by omega) (by omega) hc ⟨by omega, by omega⟩ ⟨by omega, by omega⟩ HR.out HV.out HD.out).mono ?_
    rintro e' w6 ⟨rfl, hb6⟩
    have z6 : w5.heap.size ≤ w6.heap.size := hb6.size
    have HB6 := Lib.hid (HB5.out.trans (hb6.mono HB5.out.size))
    have Q6_k := Q5_k.below hb6 (by omega)
    clear Q5_k
    clear hb6
    go_wp2_with fail
    refine (specKb_any a b A1 n c _ li R V D _ Q6_k (by omega) (by omega) HR.out HV.out HD.out).mono ?_
    rintro e' w7 ⟨rfl, hb7⟩
    have z7 : w6.heap.size ≤ w7.heap.size := hb7.size
    have HB7 := Lib.hid (HB6.out.trans (hb7.mono HB6.out.size))
    have Q7_k := Q6_k.below hb7 (by omega)
    clear Q6_k
    clear hb7
    go_wp2_with fail
    refine (implKn_any a b A1 n c _ li E D _ Q7_k (by omega) (by omega) hc ⟨by omega, by omega⟩ ⟨by omega, by omega⟩ HE.out HD.out).mono ?_
    rintro e' w8 ⟨rfl, hb8⟩
    have z8 : w7.heap.size ≤ w8.heap.size := hb8.size
    have HB8 := Lib.hid (HB7.out.trans (hb8.mono HB7.out.size))
    have Q8_k := Q7_k.below hb8 (by omega)
    clear Q7_k
    clear hb8
    go_wp2_with fail
    refine (specKn_any a b A1 n c _ li E D _ Q8_k (by omega) (by omega) HE.out HD.out).mono ?_
    rintro e' w9 ⟨rfl, hb9⟩
    have z9 : w8.heap.size ≤ w9.heap.size := hb9.size
    have HB9 := Lib.hid (HB8.out.trans (hb9.mono HB8.out.size))
    have Q9_k := Q8_k.below hb9 (by omega)
    clear Q8_k
    clear hb9
    go_wp2_with fail
    refine (implKl_any A1 n c _ li g _ Q9_k (by omega) (by omega) hc Hg.out).mono ?_
    rintro e' w10 ⟨rfl, hb10⟩
    have z10 : w9.heap.size ≤ w10.heap.size := hb10.size
    have HB10 := Lib.hid (HB9.out.trans (hb10.mono HB9.out.size))
    have Q10_k := Q9_k.below hb10 (by omega)
    clear Q9_k
    clear hb10
    go_wp2_with fail
    refine (specKl_any A1 n c _ li g _ Q10_k (by omega) (by omega) Hg.out).mono ?_
    rintro e' w11 ⟨rfl, hb11⟩
    have z11 : w10.heap.size ≤ w11.heap.size := hb11.size
    have HB11 := Lib.hid (HB10.out.trans (hb11.mono HB10.out.size))
    have Q11_k := Q10_k.below hb11 (by omega)
    clear Q10_k
    clear hb11
    by_cases hD : D = 0
    · subst hD
      have g1 : V ≤ G := by rw [← HV.out, ← HG.out]; unfold Bc.bvR; rw [if_pos HD.out]; exact Bc.bk_le HD.out
      have g2 : G ≤ E := by rw [← HE.out, ← HG.out]; unfold Bc.bvR; rw [if_pos HD.out]; exact Bc.V_dn HD.out
      go_wp2_with fail
      refine (implPv_best a b A1 n c _ li t G _ (HLb.out.below HB11.out) Q11_k (by omega) (by omega) hc ⟨by omega, by omega⟩ ⟨by omega, by omega⟩ HD.out HP.out HG.out).mono ?_
      rintro e' w12 ⟨rfl, hb12⟩
      have z12 : w11.heap.size ≤ w12.heap.size := hb12.size
      have HB12 := Lib.hid (HB11.out.trans (hb12.mono HB11.out.size))
      have Q12_k := Q11_k.below hb12 (by omega)
      clear Q11_k
      clear hb12
      go_wp2_with fail
      go_ret
      exact ⟨ret_b (by simp <;> omega), HB12.out⟩
    · go_wp2_with fail
      go_ret
      exact ⟨rfl, HB11.out⟩
  · have HF : Hid (decide (4096 < N) = true) := decide_eq_true (by omega)
    go_enter Tryd.func3, Tryd.ntmps3
    go_wp2_with fail
    refine (big_any A N C _).mono ?_
    rintro e _ ⟨rfl, rfl⟩
    rw [HF.out]
    go_wp2_with fail
    go_ret
    exact ⟨rfl, Below.refl _ _⟩
end Go.Proofs.YtbhofhobnbhhhaaDoor
