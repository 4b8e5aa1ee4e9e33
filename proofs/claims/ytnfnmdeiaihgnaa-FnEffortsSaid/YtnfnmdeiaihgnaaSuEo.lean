/- Contracts of the model's EffortOf and BestJobOrder. -/
import Derived.Test.YtnfnmdeiaihgnaaSuEf
namespace Go.Proofs.Ytnfnmdeiaihgnaa
open Go.RowKit
set_option linter.unusedVariables false

theorem ret2J {a b c d : Int} (h : a = c) (h2 : b = d) : Ending.returned (.tuple #[.int .i64 a, .int .i64 b]) = .returned (.tuple #[.int .i64 c, .int .i64 d]) := by rw [h, h2]
namespace Su
theorem jf_no {ls : List (List Un)} {o : List Int} (h : jbC ls = 0) (hn : ¬ (isOrd o ∧ o.length = ls.length)) : jfC ls o = 2 ∧ jfR ls o = 0 := by
  have e : jfC ls o = 2 := by unfold jfC; rw [if_pos h, if_neg hn]
  exact ⟨e, by unfold jfR; rw [e]; rfl⟩
theorem jf_yes {ls : List (List Un)} {o : List Int} (h : jbC ls = 0) (hn : isOrd o ∧ o.length = ls.length) : jfC ls o = 0 ∧ jfR ls o = efR ls o := by
  have e : jfC ls o = 0 := by unfold jfC; rw [if_pos h, if_pos hn]
  exact ⟨e, by unfold jfR; rw [if_pos e]⟩
theorem jf_bad {ls : List (List Un)} {o : List Int} {C : Int} (h : jbC ls = C) (hn : ¬ C = 0) : jfC ls o = C ∧ jfR ls o = 0 := by
  have e : jfC ls o = C := by unfold jfC; rw [h, if_neg hn]
  exact ⟨e, by unfold jfR; rw [e, if_neg hn]⟩
end Su
set_option maxRecDepth 100000 in
set_option maxHeartbeats 8000000 in
theorem specEo_any (A A2 : Option Addr) (n c m c2 B B2 : Nat) (us : List UB) (o : List Int) (w : World) (h : RdU w B A n us) (h2 : Rd I w B2 A2 m o) (hB : B ≤ w.heap.size) (hB2 : B2 ≤ w.heap.size) (hn : n ≤ 1048576) (hm : m ≤ 1048576) (hc2 : m ≤ c2)
    (R C : Int) (hR : Su.jfR (Su.lsU us) o = R) (hC : Su.jfC (Su.lsU us) o = C) :
    Calls Try.prog 28 #[.slice A n c, .slice A2 m c2] w fun e w' => e = .returned (.tuple #[.int .i64 R, .int .i64 C]) ∧ Below w.heap.size w w' := by
  obtain ⟨C1, hC1⟩ : ∃ C1, Su.jbC (Su.lsU us) = C1 := ⟨_, rfl⟩
  have hj := fun W (hW : RdU W B A n us) => specJb_any A n c B us C1 W hW hn hC1
  have HLo := Lib.hid h2.1
  have HLu := Lib.hid h.len
  by_cases hz : C1 = 0
  · subst hz
    obtain ⟨h7, h6⟩ := Su.jbC0 hC1
    rw [Su.lsU_len, HLu.out] at h7
    have H6 := Lib.hid h6
    obtain ⟨b, hb⟩ : ∃ b, isOrdB o = b := ⟨_, rfl⟩
    have ho := fun W (hW : Rd I W B2 A2 m o) => specIsOrder_any A2 m c2 B2 o W hW hm hc2
    rw [hb] at ho
    cases b
    · have hno : ¬ isOrd o := of_decide_eq_false hb
      obtain ⟨e1, e2⟩ := Su.jf_no hC1 (fun h => hno h.1)
      rw [e1] at hC
      rw [e2] at hR
      subst hC
      have HR := Lib.hid hR
      clear hR e1 e2 hC1 hb hno h6
      go_enter Try.func28, Try.ntmps28
      go_wp2_with fail
      refine (hj _ h).mono ?_
      rintro e w1 ⟨rfl, hq1⟩
      have hr1 := h2.q hq1
      go_wp2_with fail
      refine (ho _ hr1).mono ?_
      rintro e w2 ⟨rfl, hq2⟩
      go_wp2_with fail
      go_ret2
      exact ⟨ret2J HR.out rfl, (hq1.trans hq2).below _⟩
    · have hyes : isOrd o := of_decide_eq_true hb
      by_cases hmn : m = n
      · subst hmn
        obtain ⟨e1, e2⟩ := Su.jf_yes hC1 ⟨hyes, by rw [Su.lsU_len, HLo.out, HLu.out]⟩
        rw [e1] at hC
        rw [e2] at hR
        subst hC
        have hrange : inRange o m := by have := hyes.2.1; rwa [HLo.out] at this
        have he := fun W (hW : RdU W B A m us) (hW2 : Rd I W B2 A2 m o) (h3 : B ≤ W.heap.size) (h4 : B2 ≤ W.heap.size) => specEf_any A A2 m c m c2 B B2 us o W hW hW2 h3 h4 (by omega) H6.out hrange R hR
        have hmm : ((m : Int) != (m : Int)) = false := by simp
        clear hR e1 e2 hC1 hb hyes h6 hrange
        go_enter Try.func28, Try.ntmps28
        go_wp2_with fail
        refine (hj _ h).mono ?_
        rintro e w1 ⟨rfl, hq1⟩
        have hr1 := h2.q hq1
        go_wp2_with fail
        refine (ho _ hr1).mono ?_
        rintro e w2 ⟨rfl, hq2⟩
        have hq := hq1.trans hq2
        have hs := hq.size
        have g1 := h.q hq
        have g2 := h2.q hq
        go_wp2_with fail
        refine (he _ g1 g2 (by omega) (by omega)).mono ?_
        rintro e w3 ⟨rfl, hb3⟩
        go_wp2_with fail
        go_ret2
        exact ⟨rfl, (hq.below _).trans (by rw [hs] at hb3; exact hb3)⟩
      · have hne : ¬ (isOrd o ∧ o.length = (Su.lsU us).length) := fun h => hmn (by have := h.2; rw [Su.lsU_len, HLo.out, HLu.out] at this; exact this)
        obtain ⟨e1, e2⟩ := Su.jf_no hC1 hne
        rw [e1] at hC
        rw [e2] at hR
        subst hC
        have HR := Lib.hid hR
        have hmm : ((m : Int) != (n : Int)) = true := by simp; omega
        clear hR e1 e2 hC1 hb hyes h6 hne
        go_enter Try.func28, Try.ntmps28
        go_wp2_with fail
        refine (hj _ h).mono ?_
        rintro e w1 ⟨rfl, hq1⟩
        have hr1 := h2.q hq1
        go_wp2_with fail
        refine (ho _ hr1).mono ?_
        rintro e w2 ⟨rfl, hq2⟩
        go_wp2_with fail
        go_ret2
        exact ⟨ret2J HR.out rfl, (hq1.trans hq2).below _⟩
  · have hzB : (C1 == 0) = false := by simpa using hz
    have hzN : (C1 != 0) = true := by simpa using hz
    obtain ⟨e1, e2⟩ := Su.jf_bad (o := o) hC1 hz
    rw [e1] at hC
    rw [e2] at hR
    subst hC
    have HR := Lib.hid hR
    clear hR e1 e2 hC1
    go_enter Try.func28, Try.ntmps28
    go_wp2_with fail
    refine (hj _ h).mono ?_
    rintro e w1 ⟨rfl, hq1⟩
    go_wp2_with fail
    go_ret2
    exact ⟨ret2J HR.out rfl, hq1.below _⟩
/-- The best order of jobs, its effort and a code are handed back; the order is the call's own. -/
def BjC (w : World) (ls : List (List Un)) (C : Int) (e : Ending) (w' : World) : Prop :=
  ∃ A m c o ef, e = .returned (.tuple #[.slice A m c, .int .i64 ef, .int .i64 C]) ∧ Own I w' w.heap.size w'.heap.size 2 (.slice A m c) o ∧ m ≤ 1048576 ∧ (C = 0 → Su.BjR ls o ef) ∧ (C ≠ 0 → o = [] ∧ ef = 0) ∧ Below w.heap.size w w'
set_option maxRecDepth 100000 in
set_option maxHeartbeats 8000000 in
theorem specBj_any (A : Option Addr) (n c B : Nat) (us : List UB) (w : World) (h : RdU w B A n us) (hB : B ≤ w.heap.size) (hn : n ≤ 1048576) (C : Int) (hC : Su.jbC (Su.lsU us) = C) :
    Calls Try.prog 30 #[.slice A n c] w fun e w' => BjC w (Su.lsU us) C e w' := by
  have hj := fun W (hW : RdU W B A n us) => specJb_any A n c B us C W hW hn hC
  have HLu := Lib.hid h.len
  by_cases hz : C = 0
  · subst hz
    obtain ⟨h7, h6⟩ := Su.jbC0 hC
    rw [Su.lsU_len, HLu.out] at h7
    have H6 := Lib.hid h6
    have hfb := fac_bd n (by omega)
    obtain ⟨F, hF⟩ : ∃ F : Nat, (F : Int) = fac n := ⟨(fac n).toNat, Int.toNat_of_nonneg (by omega)⟩
    have hf := specFac_any n
    rw [← hF] at hf hfb
    have HF := Lib.hid hF
    have HLL : Hid ((Su.lsU us).length = n) := Lib.hid (by rw [Su.lsU_len, HLu.out])
    clear hC h6 hF
    go_enter Try.func30, Try.ntmps30
    go_wp2_with fail
    refine (hj _ h).mono ?_
    rintro e w1 ⟨rfl, hq1⟩
    have hs1 := hq1.size
    have HB1 : Below w.heap.size w (w1.alloc (.cells #[] 2)) := (hq1.below _).trans (by have := (Below.refl w1.heap.size w1).alloc (Nat.le_refl _) (.cells #[] 2); rw [hs1] at this; exact this)
    have HO0 := Own.lit0 I w1 2
    rw [hs1] at HO0
    have HO1 : Own I (w1.alloc (.cells #[] 2)) w.heap.size (w1.alloc (.cells #[] 2)).heap.size 2 (.slice (some ⟨w.heap.size, 0, none⟩) 0 0) [] := HO0.mono (Nat.le_refl _) (by simp; omega)
    clear HO0
    have hz1 : (w1.alloc (.cells #[] 2)).heap.size = w.heap.size + 1 := by simp; omega
    go_wp2_with fail
    go_loopw [7, 8, 9, 10, 11, 12] (fun bs ef r _ _ _ wr => ∃ (k : Nat) (A5 : Option Addr) (m5 c5 : Nat) (o : List Int) (v : Int), k ≤ F ∧ r = .int .i64 k ∧ bs = .slice A5 m5 c5 ∧ ef = .int .i64 v ∧ Own I wr w.heap.size wr.heap.size 2 (.slice A5 m5 c5) o ∧ m5 ≤ 1048576 ∧ Hid (Su.BjK (Su.lsU us) k o v) ∧ (-1 ≤ v ∧ v ≤ 42) ∧ Below w.heap.size w wr ∧ w.heap.size ≤ wr.heap.size) (fun _ _ r _ _ _ _ => F - (intOf r).toNat)
    case atStart => exact ⟨0, _, 0, _, [], -1, Nat.zero_le _, rfl, rfl, rfl, HO1, Nat.zero_le _, Lib.hid (Su.BjK.zero _), by omega, HB1, by omega⟩
    case round =>
      clear HB1 HO1 hz1 hq1 hs1 hj
      obtain ⟨k, A5, m5, c5, o, v, hk, rfl, rfl, rfl, ho, hm5, HK, hv, hb, hsz⟩ := hrel
      by_cases hlt : k < F
      · have hltI : (k : Int) < (F : Int) := by omega
        have hork : orkOk n k := ⟨by omega, by omega, by have := HF.out; simp; omega⟩
        have hR : orkR n k = oO n k n := by unfold orkR; rw [if_pos hork]; exact rfl
        have hC0 : orkC n k = 0 := by unfold orkC; rw [if_pos hork]
        have hok := fun W => specOrk_any n k W (by omega) (by omega)
        rw [hR, hC0] at hok
        have hoo := oO_ord n (by omega) k (by omega) (by have := HF.out; omega)
        have hrange : inRange (oO n k n) n := by have := hoo.1.2.1; rwa [hoo.2] at this
        obtain ⟨v2, hv2⟩ : ∃ v2, Su.bjE (Su.lsU us) k = v2 := ⟨_, rfl⟩
        have hef : Su.efR (Su.lsU us) (oO n k n) = v2 := by rw [← hv2]; unfold Su.bjE; rw [HLL.out]
        have hbd := Su.efT_bd H6.out (oO n k n) (oO n k n).length
        rw [show Su.efT (Su.lsU us) (oO n k n) (oO n k n).length = v2 from hef, hoo.2] at hbd
        have HNN : Hid (∀ q, 0 ≤ Su.bjE (Su.lsU us) q) := Lib.hid fun q => (Su.efT_bd H6.out _ _).1
        have HRG := Lib.hid hrange
        have HEF := Lib.hid hef
        have HV2 := Lib.hid hv2
        clear hork hR hC0 hoo hrange hef hv2
        go_wp2_with fail
        refine (hf _ (by omega)).mono ?_
        rintro e _ ⟨rfl, rfl⟩
        go_wp2_with fail
        refine (hok _).mono ?_
        rintro e w3 ⟨A6, m6, c6, rfl, ho6, hm6, hb6⟩
        have hs6 := hb6.size
        have hL6 : m6 ≤ 64 := by have h1 := ho6.rd.1; have h2 := (oO_ord n (by omega) k (by omega) (by have := HF.out; omega)).2; omega
        have ho5 := ho.below hb6 (Nat.le_refl _)
        have hb5 := hb.trans (hb6.mono hsz)
        have hu5 := h.below hb5 hB
        have heff := specEf_any A A6 n c m6 c6 B w3.heap.size us (oO n k n) w3 hu5 ho6.rd (by omega) (Nat.le_refl _) hL6 H6.out HRG.out v2 HEF.out
        clear ho hb hb6 hok
        go_wp2_with fail
        refine heff.mono ?_
        rintro e w4 ⟨rfl, hb7⟩
        have hs7 := hb7.size
        have ho7 := (ho6.below hb7 (Nat.le_refl _)).mono (lo' := w.heap.size) (hi' := w4.heap.size) (by omega) hs7
        have ho8 := (ho5.below hb7 (by omega)).mono (lo' := w.heap.size) (hi' := w4.heap.size) (Nat.le_refl _) (by omega)
        have hb8 := hb5.trans (hb7.mono (by omega))
        clear ho5 ho6 hb5 hu5 heff hb7
        by_cases hv0 : v < 0
        · have HN : Hid (Su.BjK (Su.lsU us) (k + 1) (oO n k n) v2) := Lib.hid (by have := HK.out.take HNN.out (.inl hv0); rwa [HLL.out, HV2.out] at this)
          go_wp2_with fail
          go_roundw
          case rel => exact ⟨k + 1, A6, m6, c6, oO n k n, v2, by omega, by go_num, rfl, rfl, ho7, by omega, HN, by omega, hb8, by omega⟩
          case measure => simp [intOf]; omega
        · by_cases hv3 : v2 < v
          · have HN : Hid (Su.BjK (Su.lsU us) (k + 1) (oO n k n) v2) := Lib.hid (by have := HK.out.take HNN.out (.inr (by rw [HV2.out]; exact hv3)); rwa [HLL.out, HV2.out] at this)
            go_wp2_with fail
            go_roundw
            case rel => exact ⟨k + 1, A6, m6, c6, oO n k n, v2, by omega, by go_num, rfl, rfl, ho7, by omega, HN, by omega, hb8, by omega⟩
            case measure => simp [intOf]; omega
          · have HN : Hid (Su.BjK (Su.lsU us) (k + 1) o v) := Lib.hid (HK.out.skip hv0 (by rw [HV2.out]; exact hv3))
            go_wp2_with fail
            go_roundw
            case rel => exact ⟨k + 1, A5, m5, c5, o, v, by omega, by go_num, rfl, rfl, ho8, hm5, HN, hv, hb8, by omega⟩
            case measure => simp [intOf]; omega
      · obtain rfl : k = F := by omega
        go_wp2_with fail
        refine (hf _ (by omega)).mono ?_
        rintro e _ ⟨rfl, rfl⟩
        go_wp2_with fail
        go_ret3
        exact ⟨A5, m5, c5, o, v, rfl, ho, hm5, fun _ => HK.out.all (by rw [HLL.out]; exact HF.out) (by omega), fun h => absurd rfl h, hb⟩
  · have hzN : (C != 0) = true := by simpa using hz
    have HZ := Lib.hid hz
    clear hC
    go_enter Try.func30, Try.ntmps30
    go_wp2_with fail
    refine (hj _ h).mono ?_
    rintro e w1 ⟨rfl, hq1⟩
    go_wp2_with fail
    go_ret3
    exact ⟨none, 0, 0, [], 0, rfl, Own.nil_, by omega, fun h => absurd h HZ.out, fun _ => ⟨rfl, rfl⟩, hq1.below _⟩
end Go.Proofs.Ytnfnmdeiaihgnaa
