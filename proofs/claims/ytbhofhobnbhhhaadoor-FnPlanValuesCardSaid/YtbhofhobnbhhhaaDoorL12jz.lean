/- The walk of the law FnPlanValues, out of the contracts. -/
import Derived.Test.YtbhofhobnbhhhaaDoorBzC
namespace Go.Proofs.YtbhofhobnbhhhaaDoor
open Go.RowKit
set_option linter.unusedVariables false

theorem likeBc_b (A A' : Option Addr) (n n' c c' B B' : Nat) (l : List Int) (w : World) (h : Rd I w B A n l) (h' : Rd I w B' A' n' l) (hn : n ≤ 1048576) :
    Calls Tryd.prog 30 #[.slice A n c, .slice A' n' c'] w fun e w' => e = .returned (.bool true) ∧ Below w.heap.size w w' := by
  obtain rfl : n = n' := h.1.symm.trans h'.1
  refine (likeInts_true A A' n c c' B B' l w h h' hn).mono ?_
  rintro e w' ⟨he, m, hm⟩
  exact ⟨he, by rw [hm]; exact below_drewN' (Below.refl _ _) m⟩
theorem implPv_ex (w0 h0 : Int) (A : Option Addr) (n c B : Nat) (l : List Kd) (s : ByteArray) (w : World) (hLb : Lb w) (h : RdS Kd.S w B A n l) (hB : B ≤ w.heap.size) (hn : n ≤ 1048577) (hc : n ≤ c) (b1 : Bc.i64 w0) (b2 : Bc.i64 h0) (hs : s.size ≤ 1048576) :
    Calls Tryd.prog 23 #[.int .i64 w0, .int .i64 h0, .slice A n c, .string s] w fun e w' => ∃ cs C v, Bc.PcR w0 h0 l s.data.toList cs C ∧ Bc.pvR l cs C = v ∧ e = .returned (.tuple #[.int .i64 v, .int .i64 C]) ∧ Below w.heap.size w w' := by
  refine (implPv_any w0 h0 A n c B l s w hLb h hB hn hc b1 b2 hs).mono ?_
  rintro e w' ⟨cs, C, hp, rfl, hb⟩
  exact ⟨cs, C, _, hp, rfl, rfl, hb⟩
theorem specPv_is (w0 h0 : Int) (A : Option Addr) (n c B : Nat) (l : List Kd) (s : ByteArray) (cs : List Int) (C : Int) (w : World) (h : RdS Kd.S w B A n l) (hB : B ≤ w.heap.size) (hn : n ≤ 1048577) (hc : n ≤ c) (b1 : Bc.i64 w0) (b2 : Bc.i64 h0) (hs : s.size ≤ 1048576) (hp : Bc.PcR w0 h0 l s.data.toList cs C) {v : Int} (hv : Bc.pvR l cs C = v) :
    Calls Tryd.prog 25 #[.int .i64 w0, .int .i64 h0, .slice A n c, .string s] w fun e w' => e = .returned (.tuple #[.int .i64 v, .int .i64 C]) ∧ Below w.heap.size w w' := by
  refine (specPv_any w0 h0 A n c B l s w h hB hn hs).mono ?_
  rintro e w' ⟨ds, D, hq, rfl, hb⟩
  obtain ⟨rfl, rfl⟩ := hp.same hq
  exact ⟨by rw [hv], hb⟩
theorem implPw_is (w0 h0 : Int) (A : Option Addr) (n c B : Nat) (l : List Kd) (s : ByteArray) (cs : List Int) (C : Int) (w : World) (hLb : Lb w) (h : RdS Kd.S w B A n l) (hB : B ≤ w.heap.size) (hn : n ≤ 1048577) (hc : n ≤ c) (b1 : Bc.i64 w0) (b2 : Bc.i64 h0) (hs : s.size ≤ 1048576) (hp : Bc.PcR w0 h0 l s.data.toList cs C) {v : Int} (hv : Bc.pwR w0 h0 l cs C = v) :
    Calls Tryd.prog 28 #[.int .i64 w0, .int .i64 h0, .slice A n c, .string s] w fun e w' => e = .returned (.tuple #[.int .i64 v, .int .i64 C]) ∧ Below w.heap.size w w' := by
  refine (implPw_any w0 h0 A n c B l s w hLb h hB hn hc b1 b2 hs).mono ?_
  rintro e w' ⟨ds, D, hq, rfl, hb⟩
  obtain ⟨rfl, rfl⟩ := hp.same hq
  exact ⟨by rw [hv], hb⟩
theorem specPw_is (w0 h0 : Int) (A : Option Addr) (n c B : Nat) (l : List Kd) (s : ByteArray) (cs : List Int) (C : Int) (w : World) (h : RdS Kd.S w B A n l) (hB : B ≤ w.heap.size) (hn : n ≤ 1048577) (hc : n ≤ c) (b1 : Bc.i64 w0) (b2 : Bc.i64 h0) (hs : s.size ≤ 1048576) (hp : Bc.PcR w0 h0 l s.data.toList cs C) {v : Int} (hv : Bc.pwR w0 h0 l cs C = v) :
    Calls Tryd.prog 29 #[.int .i64 w0, .int .i64 h0, .slice A n c, .string s] w fun e w' => e = .returned (.tuple #[.int .i64 v, .int .i64 C]) ∧ Below w.heap.size w w' := by
  refine (specPw_any w0 h0 A n c B l s w h hB hn hs).mono ?_
  rintro e w' ⟨ds, D, hq, rfl, hb⟩
  obtain ⟨rfl, rfl⟩ := hp.same hq
  exact ⟨by rw [hv], hb⟩
theorem implPc_is (w0 h0 : Int) (A : Option Addr) (n c B : Nat) (l : List Kd) (s : ByteArray) (cs : List Int) (C : Int) (w : World) (hLb : Lb w) (h : RdS Kd.S w B A n l) (hB : B ≤ w.heap.size) (hn : n ≤ 1048577) (hc : n ≤ c) (b1 : Bc.i64 w0) (b2 : Bc.i64 h0) (hs : s.size ≤ 1048576) (hp : Bc.PcR w0 h0 l s.data.toList cs C) :
    Calls Tryd.prog 26 #[.int .i64 w0, .int .i64 h0, .slice A n c, .string s] w fun e w' => LC w cs C e w' := by
  refine (implPnc_any w0 h0 A n c B l s w hLb h hB hn hc b1 b2 hs).mono ?_
  rintro e w' ⟨ds, D, hq, hb⟩
  obtain ⟨rfl, rfl⟩ := hp.same hq
  exact hb
theorem specPc_is (w0 h0 : Int) (A : Option Addr) (n c B : Nat) (l : List Kd) (s : ByteArray) (cs : List Int) (C : Int) (w : World) (h : RdS Kd.S w B A n l) (hB : B ≤ w.heap.size) (hn : n ≤ 1048577) (hc : n ≤ c) (b1 : Bc.i64 w0) (b2 : Bc.i64 h0) (hs : s.size ≤ 1048576) (hp : Bc.PcR w0 h0 l s.data.toList cs C) :
    Calls Tryd.prog 27 #[.int .i64 w0, .int .i64 h0, .slice A n c, .string s] w fun e w' => (∀ x ∈ cs, 0 ≤ x ∧ x ≤ 1600) ∧ LC w cs C e w' := by
  refine (specPnc_any w0 h0 A n c B l s w h hB hn hs).mono ?_
  rintro e w' ⟨ds, D, hq, hbd, hb⟩
  obtain ⟨rfl, rfl⟩ := hp.same hq
  exact ⟨hbd, hb⟩
set_option maxRecDepth 100000 in
set_option maxHeartbeats 40000000 in
theorem w_FnPlanValues (A : Option Addr) (N C : Nat) (l : List Int) (w : World) (h : Rd U w w.heap.size A N l) (hl : inByte l) (hLb : Lb w) :
    Calls Tryd.prog 4 #[.slice A N C] w fun e' w' => e' = .returned (.bool true) ∧ Below w.heap.size w w' := by
  by_cases hN : N ≤ 4096
  · have HLb := Lib.hid hLb
    clear hLb
    have HF : Hid (decide (4096 < N) = false) := decide_eq_false (by omega)
    go_enter Tryd.func4, Tryd.ntmps4
    go_wp2_with fail
    refine (big_any A N C _).mono ?_
    rintro e _ ⟨rfl, rfl⟩
    rw [HF.out]
    go_wp2_with fail
    refine (DrawPlanValue_any N C w.heap.size A l _ h hl (Nat.le_refl _) (by omega)).mono ?_
    rintro e' w1 ⟨a, b, A1, n, c, li, t, rfl, ha, hb, q1, hn, hc, ht, hb1⟩
    have z1 : w.heap.size ≤ w1.heap.size := hb1.size
    have HB1 := Lib.hid ((Below.refl w.heap.size w).trans (hb1.mono (Below.refl w.heap.size w).size))
    have Q1_k := q1
    clear hb1
    clear q1
    go_wp2_with fail
    refine (implPv_ex a b A1 n c _ li t _ (HLb.out.below HB1.out) Q1_k (by omega) (by omega) hc ⟨by omega, by omega⟩ ⟨by omega, by omega⟩ (by omega)).mono ?_
    rintro e' w2 ⟨cs, D, v, hp, hv, rfl, hb2⟩
    have z2 : w1.heap.size ≤ w2.heap.size := hb2.size
    have HB2 := Lib.hid (HB1.out.trans (hb2.mono HB1.out.size))
    have Q2_k := Q1_k.below hb2 (by omega)
    clear Q1_k
    clear hb2
    have HP := Lib.hid hp
    have Hv := Lib.hid hv
    clear hp hv
    obtain ⟨G, hG⟩ : ∃ v, Bc.bvR a b li = v := ⟨_, rfl⟩
    have HG := Lib.hid hG
    clear hG
    obtain ⟨X, hX⟩ : ∃ v, Bc.pwR a b li cs D = v := ⟨_, rfl⟩
    have HX := Lib.hid hX
    clear hX
    go_wp2_with fail
    refine (specPv_is a b A1 n c _ li t cs D _ Q2_k (by omega) (by omega) hc ⟨by omega, by omega⟩ ⟨by omega, by omega⟩ (by omega) HP.out Hv.out).mono ?_
    rintro e' w3 ⟨rfl, hb3⟩
    have z3 : w2.heap.size ≤ w3.heap.size := hb3.size
    have HB3 := Lib.hid (HB2.out.trans (hb3.mono HB2.out.size))
    have Q3_k := Q2_k.below hb3 (by omega)
    clear Q2_k
    clear hb3
    go_wp2_with fail
    refine (implPc_is a b A1 n c _ li t cs D _ (HLb.out.below HB3.out) Q3_k (by omega) (by omega) hc ⟨by omega, by omega⟩ ⟨by omega, by omega⟩ (by omega) HP.out).mono ?_
    rintro e' w4 ⟨A2, n2, c2, rfl, o2, hn2, hb4⟩
    have z4 : w3.heap.size ≤ w4.heap.size := hb4.size
    have HB4 := Lib.hid (HB3.out.trans (hb4.mono HB3.out.size))
    have Q4_k := Q3_k.below hb4 (by omega)
    clear Q3_k
    have Q4_c := o2.rd
    clear hb4
    clear o2
    go_wp2_with fail
    refine (specPc_is a b A1 n c _ li t cs D _ Q4_k (by omega) (by omega) hc ⟨by omega, by omega⟩ ⟨by omega, by omega⟩ (by omega) HP.out).mono ?_
    rintro e' w5 ⟨hcb, A3, n3, c3, rfl, o3, hn3, hb5⟩
    have z5 : w4.heap.size ≤ w5.heap.size := hb5.size
    have HB5 := Lib.hid (HB4.out.trans (hb5.mono HB4.out.size))
    have Q5_k := Q4_k.below hb5 (by omega)
    have Q5_c := Q4_c.below hb5 (by omega)
    clear Q4_k Q4_c
    have Q5_m := o3.rd
    clear hb5
    clear o3
    have HCB := Lib.hid hcb
    clear hcb
    go_wp2_with fail
    refine (implPw_is a b A1 n c _ li t cs D _ (HLb.out.below HB5.out) Q5_k (by omega) (by omega) hc ⟨by omega, by omega⟩ ⟨by omega, by omega⟩ (by omega) HP.out HX.out).mono ?_
    rintro e' w6 ⟨rfl, hb6⟩
    have z6 : w5.heap.size ≤ w6.heap.size := hb6.size
    have HB6 := Lib.hid (HB5.out.trans (hb6.mono HB5.out.size))
    have Q6_k := Q5_k.below hb6 (by omega)
    have Q6_c := Q5_c.below hb6 (by omega)
    have Q6_m := Q5_m.below hb6 (by omega)
    clear Q5_k Q5_c Q5_m
    clear hb6
    go_wp2_with fail
    refine (specPw_is a b A1 n c _ li t cs D _ Q6_k (by omega) (by omega) hc ⟨by omega, by omega⟩ ⟨by omega, by omega⟩ (by omega) HP.out HX.out).mono ?_
    rintro e' w7 ⟨rfl, hb7⟩
    have z7 : w6.heap.size ≤ w7.heap.size := hb7.size
    have HB7 := Lib.hid (HB6.out.trans (hb7.mono HB6.out.size))
    have Q7_k := Q6_k.below hb7 (by omega)
    have Q7_c := Q6_c.below hb7 (by omega)
    have Q7_m := Q6_m.below hb7 (by omega)
    clear Q6_k Q6_c Q6_m
    clear hb7
    go_wp2_with fail
    refine (likeBc_b A2 A3 n2 n3 c2 c3 _ _ cs _ Q7_c Q7_m (by omega)).mono ?_
    rintro e' w8 ⟨rfl, hb8⟩
    have z8 : w7.heap.size ≤ w8.heap.size := hb8.size
    have HB8 := Lib.hid (HB7.out.trans (hb8.mono HB7.out.size))
    have Q8_k := Q7_k.below hb8 (by omega)
    have Q8_c := Q7_c.below hb8 (by omega)
    have Q8_m := Q7_m.below hb8 (by omega)
    clear Q7_k Q7_c Q7_m
    clear hb8
    by_cases hD : D = 0
    · subst hD
      obtain ⟨hcl, hsv, hsa⟩ := HP.out.facts
      obtain ⟨hok, hos⟩ : Bc.okL li = true ∧ Bc.okS a b = true := by
        rcases PcR_len HP.out with ⟨_, h1⟩ | ⟨_, _, h1, h2⟩
        · exact absurd rfl h1
        · exact ⟨h1, h2⟩
      have hs := Bc.okS_iff.1 hos
      have HC : Hid (Bc.code a b li = 0) := Lib.hid (by rcases HP.out with ⟨_, _, h1⟩ | ⟨h1, _⟩ | ⟨h1, _⟩ <;> first | exact h1.symm | exact h1)
      have hpab := Int.mul_le_mul (a := a) (b := b) (c := 40) (d := 40) (by omega) (by omega) (by omega) (by omega)
      have hpab0 := Int.mul_nonneg (a := a) (b := b) (by omega) (by omega)
      obtain ⟨p, hpp⟩ : ∃ p, a * b = p := ⟨_, rfl⟩
      have hX : X = p - Bc.sumA li cs := by rw [← HX.out]; unfold Bc.pwR; rw [if_pos rfl, hpp]
      rw [hpp] at hsa hpab hpab0
      have ep : IntKind.i64.wrap (a * b) = p := by rw [hpp]; exact IntWalk.i64_in _ (by omega)
      have hX0 : 0 ≤ X := by omega
      have hX1 : X ≤ 1600 := by omega
      have HVG : Hid (Bc.sumV li cs ≤ G) := Lib.hid (by rw [← HG.out]; unfold Bc.bvR; rw [if_pos HC.out]; exact hsv.2)
      have HVV : Hid (Bc.sumV li cs = v) := Lib.hid Hv.out
      have HXX : Hid (X + Bc.sumA li cs = p) := Lib.hid (by omega)
      have HOK := Lib.hid hok
      have HCL := Lib.hid hcl
      obtain rfl : n2 = n := by have h1 := Q8_c.1; have h2 := Q8_k.1; omega
      clear hcl hsv hsa hok hos hX hpp hpab hpab0
      go_wp2_with fail
      go_loopw [19, 20, 21] (fun s r i wr => ∃ (k : Nat) (u y : Int), k ≤ n2 ∧ i = .int .i64 k ∧ s = .int .i64 u ∧ r = .int .i64 y ∧ (0 ≤ u ∧ u ≤ 13000000 * k) ∧ (0 ≤ y ∧ y ≤ 1600 + 20800000 * k) ∧ Hid (Bc.sumV (li.take k) (cs.take k) = u) ∧ Hid (X + Bc.sumA (li.take k) (cs.take k) = y) ∧ Q w8 wr) (fun _ _ i _ => n2 - (intOf i).toNat)
      case atStart => exact ⟨0, 0, X, Nat.zero_le _, rfl, rfl, rfl, by omega, by omega, Lib.hid (by simp [Bc.sumV]), Lib.hid (by simp [Bc.sumA]), Q.refl _⟩
      case round =>
        obtain ⟨k, u, y, hk, rfl, rfl, rfl, hu, hy, HU, HY, hqq⟩ := hrel
        by_cases hlt : k < n2
        · have hltI : (k : Int) < (n2 : Int) := by omega
          obtain ⟨b1, o1, x, rfl, _, hx, cx⟩ := (Q8_c.q hqq).at_ hlt
          obtain ⟨b2, o2, z, rfl, hbB, hz, z0, z1_, z2_⟩ := (Q8_k.q hqq).at_Kd hlt
          have hxb := HCB.out x (List.mem_of_getElem? hx)
          have hzb := Bc.okK_iff.1 ((Bc.okL_iff.1 HOK.out).1 z (List.mem_of_getElem? hz))
          have m1 := Int.mul_le_mul (a := x) (b := z.v) (c := 13000) (d := 1000) (by omega) (by omega) (by omega) (by omega)
          have m1_ := Int.mul_nonneg (a := x) (b := z.v) (by omega) (by omega)
          have m2 := Int.mul_le_mul (a := x) (b := z.w) (c := 13000) (d := 40) (by omega) (by omega) (by omega) (by omega)
          have m2_ := Int.mul_nonneg (a := x) (b := z.w) (by omega) (by omega)
          obtain ⟨p1, hp1⟩ : ∃ p1, x * z.v = p1 := ⟨_, rfl⟩
          obtain ⟨p2, hp2⟩ : ∃ p2, x * z.w = p2 := ⟨_, rfl⟩
          rw [hp1] at m1 m1_
          rw [hp2] at m2 m2_
          have m3 := Int.mul_le_mul (a := p2) (b := z.h) (c := 520000) (d := 40) (by omega) (by omega) (by omega) (by omega)
          have m3_ := Int.mul_nonneg (a := p2) (b := z.h) (by omega) (by omega)
          obtain ⟨p3, hp3⟩ : ∃ p3, p2 * z.h = p3 := ⟨_, rfl⟩
          rw [hp3] at m3 m3_
          have e1 : IntKind.i64.wrap (x * z.v) = p1 := by rw [hp1]; exact IntWalk.i64_in _ (by omega)
          have e2 : IntKind.i64.wrap (u + p1) = u + p1 := IntWalk.i64_in _ (by omega)
          have e3 : IntKind.i64.wrap (x * z.w) = p2 := by rw [hp2]; exact IntWalk.i64_in _ (by omega)
          have e4 : IntKind.i64.wrap (p2 * z.h) = p3 := by rw [hp3]; exact IntWalk.i64_in _ (by omega)
          have e5 : IntKind.i64.wrap (y + p3) = y + p3 := IntWalk.i64_in _ (by omega)
          have HU2 : Hid (Bc.sumV (li.take (k + 1)) (cs.take (k + 1)) = u + p1) := Lib.hid (by
            rw [Bc.take_kd li k z hz, List.take_add_one, hx]
            show Bc.sumV (li.take k ++ [z]) (cs.take k ++ [x]) = u + p1
            rw [Bc.sumV_snoc z x (by rw [List.length_take, List.length_take, HCL.out]), HU.out, hp1])
          have HY2 : Hid (X + Bc.sumA (li.take (k + 1)) (cs.take (k + 1)) = y + p3) := Lib.hid (by
            rw [Bc.take_kd li k z hz, List.take_add_one, hx]
            show X + Bc.sumA (li.take k ++ [z]) (cs.take k ++ [x]) = y + p3
            rw [Bc.sumA_snoc z x (by rw [List.length_take, List.length_take, HCL.out]), ← HY.out, hp2, hp3, Int.add_assoc])
          clear hx hz hxb hzb hp1 hp2 hp3
          go_wp2_with fail
          go_quiet (fail)
          go_wp2_with fail
          go_quiet (fail)
          go_wp2_with fail
          go_roundw
          case rel => exact ⟨k + 1, u + p1, y + p3, by omega, by go_num, rfl, rfl, by omega, by omega, HU2, HY2, hqq.more _⟩
          case measure => simp [intOf]; omega
        · obtain rfl : k = n2 := by omega
          obtain ⟨w9, rfl⟩ : ∃ v, v = wr := ⟨_, rfl⟩
          have z9 : w8.heap.size ≤ w9.heap.size := hqq.le
          have HB9 := Lib.hid (HB8.out.trans (hqq.below _))
          have Q9_k := Q8_k.q hqq
          have Q9_c := Q8_c.q hqq
          have Q9_m := Q8_m.q hqq
          clear Q8_k Q8_c Q8_m
          clear hqq
          have l1 : li.take k = li := List.take_of_length_le (by have := Q9_k.1; omega)
          have l2 : cs.take k = cs := List.take_of_length_le (by have := Q9_c.1; omega)
          have g1 : u = v := by rw [← HU.out, ← HVV.out, l1, l2]
          have g2 : y = p := by rw [← HY.out, ← HXX.out, l1, l2]
          have g3 : v ≤ G := by rw [← HVV.out]; exact HVG.out
          clear l1 l2
          go_wp2_with fail
          refine (implBv_any a b A1 k c _ li G 0 _ Q9_k (by omega) (by omega) hc ⟨by omega, by omega⟩ ⟨by omega, by omega⟩ HG.out HC.out).mono ?_
          rintro e' w10 ⟨rfl, hb10⟩
          have z10 : w9.heap.size ≤ w10.heap.size := hb10.size
          have HB10 := Lib.hid (HB9.out.trans (hb10.mono HB9.out.size))
          have Q10_k := Q9_k.below hb10 (by omega)
          have Q10_c := Q9_c.below hb10 (by omega)
          have Q10_m := Q9_m.below hb10 (by omega)
          clear Q9_k Q9_c Q9_m
          clear hb10
          subst g1 g2
          go_wp2_with fail
          go_ret
          exact ⟨ret_b (by simp <;> omega), HB10.out⟩
    · go_wp2_with fail
      go_ret
      exact ⟨rfl, HB8.out⟩
  · have HF : Hid (decide (4096 < N) = true) := decide_eq_true (by omega)
    go_enter Tryd.func4, Tryd.ntmps4
    go_wp2_with fail
    refine (big_any A N C _).mono ?_
    rintro e _ ⟨rfl, rfl⟩
    rw [HF.out]
    go_wp2_with fail
    go_ret
    exact ⟨rfl, Below.refl _ _⟩
end Go.Proofs.YtbhofhobnbhhhaaDoor
