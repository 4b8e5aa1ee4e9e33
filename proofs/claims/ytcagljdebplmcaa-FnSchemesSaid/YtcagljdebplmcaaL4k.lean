/- The walk of the law FnSchemes. -/
import Derived.Test.YtcagljdebplmcaaFoOrd
namespace Go.Proofs.Ytcagljdebplmcaa
open Go.RowKit

set_option maxRecDepth 100000 in
set_option maxHeartbeats 4000000 in
theorem w_FnSchemes (A : Option Addr) (N C : Nat) (l : List Int) (w : World) (h : Rd U w w.heap.size A N l) (hl : inByte l) :
    Calls Try.prog 4 #[.slice A N C] w fun e w' => e = .returned (.bool true) ∧ Below w.heap.size w w' := by
  by_cases hN : N ≤ 4096
  · have HF : Hid (decide (4096 < N) = false) := decide_eq_false (by omega)
    go_enter Try.func4, Try.ntmps4
    go_wp2_with fail
    refine (big_any A N C _).mono ?_
    rintro e _ ⟨rfl, rfl⟩
    rw [HF.out]
    go_wp2_with fail
    refine (DrawSo_any N C w.heap.size A l w h hl (Nat.le_refl _) (by omega)).mono ?_
    rintro e w1 ⟨a, b, rfl, a1, a2, b1, b2, hb1⟩
    have hz1 := hb1.size
    have HB1 := Lib.hid hb1
    obtain ⟨R, hR⟩ : ∃ v, soR a b = v := ⟨_, rfl⟩
    obtain ⟨cs, hc⟩ : ∃ v, soC a b = v := ⟨_, rfl⟩
    have HR := Lib.hid hR
    have HC := Lib.hid hc
    clear hR hc hb1
    go_wp2_with fail
    refine (implSo_any a b _).mono ?_
    rintro e w2 ⟨A2, n2, c2, rfl, ho2, hn2, hb2⟩
    rw [HC.out]
    rw [HR.out] at ho2
    have HB2 := Lib.hid (HB1.out.trans (hb2.mono hz1))
    have hz2 := hb2.size
    have HO2 := Lib.hid ho2.rd
    clear hb2 ho2
    go_wp2_with fail
    refine (specSo_any a b _).mono ?_
    rintro e w3 ⟨A3, n3, c3, rfl, ho3, hn3, hb3⟩
    rw [HC.out]
    rw [HR.out] at ho3
    have HB3 := Lib.hid (HB2.out.trans (hb3.mono (by omega)))
    have hz3 := hb3.size
    have HO23 := Lib.hid (HO2.out.below hb3 (Nat.le_refl _))
    have HO3 := Lib.hid ho3.rd
    obtain rfl : n3 = n2 := HO3.out.1.symm.trans HO2.out.1
    clear hb3 ho3 HO2
    have h3 := h.below HB3.out (Nat.le_refl _)
    go_wp2_with fail
    refine (DrawCs_any N C w.heap.size A l w3 h3 hl (by omega) (by omega)).mono ?_
    rintro e w4 ⟨a', b', rfl, x1, x2, y1, y2, hb4⟩
    have HB4 := Lib.hid (HB3.out.trans (hb4.mono (by omega)))
    have hz4 := hb4.size
    have HO24 := Lib.hid (HO23.out.below hb4 (by omega))
    have HO34 := Lib.hid (HO3.out.below hb4 (by omega))
    clear hb4 h3 HO23 HO3 x1 x2 y1 y2
    obtain ⟨p, hp⟩ : ∃ v : Int, ((soR a' b').length : Int) = v := ⟨_, rfl⟩
    obtain ⟨cp, hcp⟩ : ∃ v, soC a' b' = v := ⟨_, rfl⟩
    have HP := Lib.hid hp
    have HCP := Lib.hid hcp
    clear hp hcp
    go_wp2_with fail
    refine (implCs_any a' b' _).mono ?_
    rintro e w5 ⟨rfl, hb5⟩
    rw [HP.out, HCP.out]
    have HB5 := Lib.hid (HB4.out.trans (hb5.mono (by omega)))
    have hz5 := hb5.size
    have HO25 := Lib.hid (HO24.out.below hb5 (by omega))
    have HO35 := Lib.hid (HO34.out.below hb5 (by omega))
    clear hb5 HO24 HO34
    go_wp2_with fail
    refine (specCs_any a' b' _).mono ?_
    rintro e w6 ⟨rfl, hb6⟩
    rw [HP.out, HCP.out]
    have HB6 := Lib.hid (HB5.out.trans (hb6.mono (by omega)))
    have hz6 := hb6.size
    have HO26 := Lib.hid (HO25.out.below hb6 (by omega))
    have HO36 := Lib.hid (HO35.out.below hb6 (by omega))
    clear hb6 HO25 HO35
    have h6 := h.below HB6.out (Nat.le_refl _)
    go_wp2_with fail
    refine (DrawFn_any N C w.heap.size A l w6 h6 hl (by omega) (by omega)).mono ?_
    rintro e w7 ⟨a7, b7, A7, n7, c7, lv, rfl, ho7, hn7, hb7⟩
    have HB7 := Lib.hid (HB6.out.trans (hb7.mono (by omega)))
    have hz7 := hb7.size
    have HO27 := Lib.hid (HO26.out.below hb7 (by omega))
    have HO37 := Lib.hid (HO36.out.below hb7 (by omega))
    have HV7 := Lib.hid ho7.rd
    clear hb7 h6 h HO26 HO36 ho7 hN hl
    obtain ⟨f, hf⟩ : ∃ v, fnR a7 b7 lv = v := ⟨_, rfl⟩
    obtain ⟨cf, hcf⟩ : ∃ v, fnC a7 b7 lv = v := ⟨_, rfl⟩
    have HFR := Lib.hid hf
    have HFC := Lib.hid hcf
    clear hf hcf
    go_wp2_with fail
    refine (implFn_any a7 b7 A7 n7 c7 _ lv _ HV7.out (Nat.le_refl _) (by omega)).mono ?_
    rintro e w8 ⟨rfl, hb8⟩
    rw [HFR.out, HFC.out]
    have HB8 := Lib.hid (HB7.out.trans (hb8.mono (by omega)))
    have hz8 := hb8.size
    have HO28 := Lib.hid (HO27.out.below hb8 (by omega))
    have HO38 := Lib.hid (HO37.out.below hb8 (by omega))
    have HV8 := Lib.hid (HV7.out.below hb8 (by omega))
    clear hb8 HO27 HO37 HV7
    go_wp2_with fail
    refine (specFn_any a7 b7 A7 n7 c7 _ lv _ HV8.out (by omega)).mono ?_
    rintro e w9 ⟨rfl, hb9⟩
    rw [HFR.out, HFC.out]
    have HB9 := Lib.hid (HB8.out.trans (hb9.mono (by omega)))
    have hz9 := hb9.size
    have HO29 := Lib.hid (HO28.out.below hb9 (by omega))
    have HO39 := Lib.hid (HO38.out.below hb9 (by omega))
    have HV9 := Lib.hid (HV8.out.below hb9 (by omega))
    clear hb9 HO28 HO38 HV8
    go_wp2_with fail
    refine (likeTexts_true A2 A3 n3 c2 c3 _ _ R _ HO29.out HO39.out (by omega)).mono ?_
    rintro e w10 ⟨rfl, hq10⟩
    have HB10 := Lib.hid (HB9.out.trans (hq10.below _))
    have hz10 := hq10.size
    have HO10 := Lib.hid (HO29.out.q hq10)
    have HV10 := Lib.hid (HV9.out.q hq10)
    clear hq10 HO29 HO39 HV9
    by_cases hcf : cf = 0
    case' pos =>
      subst hcf
      obtain ⟨g1, g2, g3⟩ := fn_found HFC.out
      rw [HFR.out] at g1 g2 g3
      have HG1 := Lib.hid g1
      have HG2 := Lib.hid g2
      clear g1 g2
      go_wp2_with fail
      refine (implFo_any a7 b7 f _ (by omega)).mono ?_
      rintro e w11 ⟨A11, n11, c11, rfl, ho11, hn11, hb11⟩
      have HFO : Hid (foR a7 b7 f.data.toList = lv) := by unfold foR; rw [if_pos HG1.out]; exact HG2
      rw [HG1.out]
      rw [HFO.out] at ho11
      have HB11 := Lib.hid (HB10.out.trans (hb11.mono (by omega)))
      have hz11 := hb11.size
      have HO11 := Lib.hid (HO10.out.below hb11 (by omega))
      have HV11 := Lib.hid (HV10.out.below hb11 (by omega))
      have HW11 := Lib.hid ho11.rd
      obtain rfl : n11 = n7 := HW11.out.1.symm.trans HV11.out.1
      clear hb11 ho11 HO10 HV10
      go_wp2_with fail
      refine (likeLeaves_true A11 A7 n11 c11 c7 _ _ lv _ HW11.out HV11.out (by omega)).mono ?_
      rintro e w20 ⟨rfl, hq20⟩
      have HB20 := Lib.hid (HB11.out.trans (hq20.below _))
      have hz20 := hq20.size
      have HO20 := Lib.hid (HO11.out.q hq20)
      clear hq20 HO11
      replace hz20 : w.heap.size ≤ w20.heap.size := by omega
    case' neg =>
      obtain ⟨w20, rfl⟩ : ∃ w20, w20 = w10 := ⟨_, rfl⟩
      have hcf2 : (cf == 0) = false := by simpa using hcf
      have HB20 := HB10
      have HO20 := HO10
      have hz20 : w.heap.size ≤ w20.heap.size := by omega
    all_goals
      by_cases hcs : cs = 0
      · subst hcs
        go_wp2_with fail
        try clear hcf
        go_loopw [24] (fun i wr => ∃ k : Nat, k ≤ n3 ∧ i = .int .i64 k ∧ Q w20 wr) (fun i _ => n3 - (intOf i).toNat)
        case atStart => exact ⟨0, Nat.zero_le _, rfl, Q.refl _⟩
        case round =>
          obtain ⟨k, hk, rfl, hq⟩ := hrel
          by_cases hlt : k < n3
          · obtain ⟨b4, o4, x, he, hbB, hx, hcx⟩ := (HO20.out.q hq).at_ hlt
            rw [← HR.out] at hx
            obtain ⟨g1, g2⟩ := so_scheme HC.out hx
            obtain ⟨s, hs⟩ : ∃ s : ByteArray, s = ⟨x.toArray⟩ := ⟨_, rfl⟩
            have hsl : s.data.toList = x := by rw [hs]
            have hs6 : s.size ≤ 6 := by rw [← toList_len, hsl]; exact g2
            have hsch : ∀ W, Calls Try.prog 24 #[.int .i64 a, .int .i64 b, .string s] W fun e w' => e = .returned (.bool true) ∧ W = w' := fun W => by
              have := implIsScheme_any a b s W (by omega)
              rw [hsl, g1] at this
              exact this
            replace hcx : wr.cell? ⟨b4, o4 + k, none⟩ = some (.string s) := by rw [hs]; exact hcx
            by_cases h0 : k = 0
            · subst h0
              subst he
              rw [Nat.add_zero] at hcx
              clear hx hs hsl g1 g2
              go_wp2_with fail
              go_quiet ((go_at_call 24; exact quiet_same (hsch _)))
              all_goals
                go_wp2
                go_roundw
                case rel => exact ⟨1, by omega, by go_num, hq.more _⟩
                case measure => simp [intOf]; omega
            · obtain ⟨j, hj⟩ : ∃ j, k = j + 1 := ⟨k - 1, by omega⟩
              obtain ⟨b5, o5, y, he5, hbB5, hy, hcy⟩ := (HO20.out.q hq).at_ (k := j) (by omega)
              rw [he] at he5
              injection he5 with he5
              injection he5 with he5 he6
              subst he5 he6 he
              rw [← HR.out] at hy
              obtain ⟨s5, hs5⟩ : ∃ s : ByteArray, s = ⟨y.toArray⟩ := ⟨_, rfl⟩
              replace hcy : wr.cell? ⟨b4, o4 + j, none⟩ = some (.string s5) := by rw [hs5]; exact hcy
              have hleq := leqS (so_next HC.out hy (by rw [← hj]; exact hx)) s5 s hs5 hs
              have ej : IntKind.i64.wrap ((k : Int) - 1) = (j : Int) := by
                have : (k : Int) - 1 = (j : Int) := by omega
                rw [this]; exact IntWalk.i64_in _ (by omega)
              have hjn : j < n3 := by omega
              have hp0 : 0 < k := by omega
              have hp2 : 0 < (k : Int) := by omega
              have hp3 : decide (0 < (k : Int)) = true := decide_eq_true hp2
              clear hx hy hs hs5 hsl g1 g2 hj h0
              go_wp2_with fail
              go_quiet ((go_at_call 24; exact quiet_same (hsch _)))
              all_goals
                go_wp2
                go_roundw
                case rel => exact ⟨k + 1, by omega, by go_num, hq.more _⟩
                case measure => simp [intOf]; omega
          · obtain rfl : k = n3 := by omega
            have hlen : ((soR a b).length : Int) = (k : Int) := by rw [HR.out, HO20.out.1]
            have HB21 := Lib.hid (HB20.out.trans (hq.below _))
            have hq2 := hq.size
            go_wp2_with fail
            refine (implCs_any a b _).mono ?_
            rintro e w22 ⟨rfl, hb22⟩
            rw [hlen, HC.out]
            have HB22 := Lib.hid (HB21.out.trans (hb22.mono (by omega)))
            go_wp2_with fail
            go_ret
            exact ⟨rfl, HB22.out⟩
      · go_wp2_with fail
        go_ret
        exact ⟨rfl, HB20.out⟩
  · have HF : Hid (decide (4096 < N) = true) := decide_eq_true (by omega)
    go_enter Try.func4, Try.ntmps4
    go_wp2_with fail
    refine (big_any A N C _).mono ?_
    rintro e _ ⟨rfl, rfl⟩
    rw [HF.out]
    go_wp2_with fail
    go_ret
    exact ⟨rfl, Below.refl _ _⟩
end Go.Proofs.Ytcagljdebplmcaa
