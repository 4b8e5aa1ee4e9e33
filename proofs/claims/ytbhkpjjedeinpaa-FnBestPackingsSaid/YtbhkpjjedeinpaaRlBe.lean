/- Contracts of the model's LeastRolls, BestPacking and SparesOf. -/
import Derived.Test.YtbhkpjjedeinpaaRlSe
namespace Go.Proofs.Ytbhkpjjedeinpaa
open Go.RowKit
set_option linter.unusedVariables false

namespace Rl
def bpR (r : Int) (s : List Int) : List Int := if okT r s then best r s else []
def lrR (r : Int) (s : List Int) : Int := if okT r s then (rolls (best r s) : Int) else 0
def spC (r : Int) (s p : List Int) : Int := if okT r s then (if isP r s p then 0 else 2) else 1
def spR (r : Int) (s p : List Int) : List Int := if isP r s p then (loads s p).map (fun x => r - x) else []
theorem best_len {r : Int} {s : List Int} (h : okT r s = true) : (best r s).length = s.length := (isP_iff.1 (best_R h).1).2.1
theorem best_nums {r : Int} {s : List Int} (h : okT r s = true) : ∀ k ∈ best r s, 0 ≤ k ∧ k ≤ 100 := by
  have h1 := isP_iff.1 (best_R h).1
  exact num_all h1.2.2.1 (by rw [h1.2.1]; exact (okT_iff.1 h).2.1)
theorem sp_task {r : Int} {s p : List Int} (h : isP r s p = true) : okT r s = true := (isP_iff.1 h).1
end Rl
set_option maxRecDepth 100000 in
set_option maxHeartbeats 8000000 in
theorem specBe_any (r : Int) (A : Option Addr) (n c B : Nat) (s : List Int) (w : World) (h : Rd I w B A n s) (hB : B ≤ w.heap.size) (hT : Rl.okT r s = true) :
    Calls Try.prog 54 #[.int .i64 r, .slice A n c] w fun e w' => ∃ A' c', e = .returned (.slice A' n c') ∧ Own I w' w.heap.size w'.heap.size 2 (.slice A' n c') (Rl.best r s) ∧ Below w.heap.size w w' := by
  have HL := Lib.hid h.1
  have HT := Lib.hid hT
  have hn12 : n ≤ 12 := by have := (Rl.okT_iff.1 hT).2.1; rw [HL.out] at this; exact this
  clear hT
  go_enter Try.func54, Try.ntmps54
  go_wp2_with fail
  go_loopw [5] (fun v wr => ∃ m : Nat, m ≤ n ∧ v = .int .i64 m ∧ Hid (∀ j, j < m → Rl.sea r s j s.length [] = none) ∧ Below w.heap.size w wr) (fun v _ => n - (intOf v).toNat)
  case atStart => exact ⟨0, Nat.zero_le _, rfl, Lib.hid fun j hj => by omega, Below.refl _ _⟩
  case round =>
    obtain ⟨m, hm, rfl, HN, hb⟩ := hrel
    have hzb := hb.size
    have hr := h.below hb hB
    have ho0 : Own I (wr.alloc (.cells #[] 2)) wr.heap.size (wr.heap.size + 1) 2 (.slice (some ⟨wr.heap.size, 0, none⟩) 0 0) ([] : List Int) := Own.lit0 I wr 2
    have hb0 : Below w.heap.size w (wr.alloc (.cells #[] 2)) := hb.alloc hzb _
    have hz0 : (wr.alloc (.cells #[] 2)).heap.size = wr.heap.size + 1 := by simp
    have hr0 := hr.alloc (by omega) (.cells #[] 2)
    have em : IntKind.i64.wrap ((m : Int) + 1) = (m : Int) + 1 := IntWalk.i64_in _ (by omega)
    clear hr hb
    go_wp2_with fail
    refine (specSea_any r A n c B m s HT.out (by omega) s.length [] _ 0 0 wr.heap.size _ _ hr0 (by omega) ho0 (by omega) (by omega) (Rl.PreP.nil HT.out) (by simp)).mono ?_
    rintro e w5 ⟨A5, k5, c5, b5, R5, rfl, hyes, hno, hb5⟩
    have hz5 := hb5.size
    have HB5 := Lib.hid (hb0.trans (hb5.mono (by omega)))
    clear hb5 hb0 ho0 hr0
    cases b5
    · have hno5 := hno rfl
      have hmn : m < n := by
        rcases Nat.lt_or_ge m n with h_ | h_
        · exact h_
        · obtain ⟨R, hR⟩ := Rl.sea_end (m := m) HT.out (by rw [HL.out]; exact h_)
          rw [hno5] at hR
          cases hR
      have HNO := Lib.hid hno5
      clear hyes hno hno5
      go_wp2_with fail
      go_roundw
      case rel => exact ⟨m + 1, by omega, by first | rfl | go_num | (simp; omega), Lib.hid fun j hj => by
        rcases Nat.lt_or_ge j m with h_ | h_
        · exact HN.out j h_
        · obtain rfl : j = m := by omega
          exact HNO.out, HB5.out⟩
      case measure => simp [intOf]; omega
    · obtain ⟨hs5, ho5⟩ := hyes rfl
      have hbest := Rl.best_is HT.out hs5 HN.out
      have hlen : k5 = n := by
        have h1 := ho5.rd.1
        rw [← hbest, Rl.best_len HT.out, HL.out] at h1
        exact h1.symm
      subst hlen
      have HO5 : Hid (Own I w5 w.heap.size w5.heap.size 2 (.slice A5 k5 c5) (Rl.best r s)) := Lib.hid (by rw [hbest]; exact ho5.mono hzb (Nat.le_refl _))
      clear hyes hno hs5 ho5 hbest
      go_wp2_with fail
      go_ret
      exact ⟨A5, c5, rfl, HO5.out, HB5.out⟩
set_option maxRecDepth 100000 in
set_option maxHeartbeats 4000000 in
theorem specBp_any (r : Int) (A : Option Addr) (n c B : Nat) (s R : List Int) (C : Int) (w : World) (h : Rd I w B A n s) (hB : B ≤ w.heap.size) (hn : n ≤ 1048576) (hR : Rl.bpR r s = R) (hC : Rl.ffC r s = C) :
    Calls Try.prog 30 #[.int .i64 r, .slice A n c] w fun e w' => LC w R C e w' := by
  have HL := Lib.hid h.1
  obtain ⟨d, hd⟩ : ∃ d, Rl.okT r s = d := ⟨_, rfl⟩
  have HD := Lib.hid hd
  have hT := fun W (hW : Rd I W B A n s) => specRlT_any r A n c B s d W hW hn HD.out
  clear hd
  cases d
  · have R0 : Hid (R = []) := Lib.hid (by rw [← hR]; unfold Rl.bpR; rw [HD.out]; rfl)
    have C0 := Lib.hid (hC.symm.trans (Rl.ff_no HD.out).1)
    clear hR hC
    go_enter Try.func30, Try.ntmps30
    go_wp2_with fail
    refine (hT _ h).mono ?_
    rintro e _ ⟨rfl, rfl⟩
    go_wp2_with fail
    go_ret2
    exact LC.nil_ R0.out C0.out (Below.refl _ _)
  · have R0 : Hid (R = Rl.best r s) := Lib.hid (by rw [← hR]; unfold Rl.bpR; rw [if_pos HD.out])
    have C0 := Lib.hid (hC.symm.trans (Rl.ff_yes HD.out).1)
    clear hR hC
    have hn12 : n ≤ 12 := by have := (Rl.okT_iff.1 HD.out).2.1; rw [HL.out] at this; exact this
    go_enter Try.func30, Try.ntmps30
    go_wp2_with fail
    refine (hT _ h).mono ?_
    rintro e _ ⟨rfl, rfl⟩
    clear hT
    go_wp2_with fail
    refine (specBe_any r A n c B s w h hB HD.out).mono ?_
    rintro e w1 ⟨A1, c1, rfl, ho1, hb1⟩
    have HO1 := Lib.hid ho1
    have HB1 := Lib.hid hb1
    clear ho1 hb1
    go_wp2_with fail
    go_ret2
    exact LC.mk_ R0.out C0.out HO1.out (Nat.le_refl _) (Nat.le_refl _) (by omega) HB1.out
set_option maxRecDepth 100000 in
set_option maxHeartbeats 4000000 in
theorem specLr_any (r : Int) (A : Option Addr) (n c B : Nat) (s : List Int) (R C : Int) (w : World) (h : Rd I w B A n s) (hB : B ≤ w.heap.size) (hn : n ≤ 1048576) (hR : Rl.lrR r s = R) (hC : Rl.ffC r s = C) :
    Calls Try.prog 32 #[.int .i64 r, .slice A n c] w fun e w' => e = .returned (.tuple #[.int .i64 R, .int .i64 C]) ∧ Below w.heap.size w w' := by
  have HL := Lib.hid h.1
  obtain ⟨d, hd⟩ : ∃ d, Rl.okT r s = d := ⟨_, rfl⟩
  have HD := Lib.hid hd
  have hT := fun W (hW : Rd I W B A n s) => specRlT_any r A n c B s d W hW hn HD.out
  clear hd
  cases d
  · have e1 : R = 0 := by rw [← hR]; unfold Rl.lrR; rw [HD.out]; rfl
    have e2 : C = 1 := hC.symm.trans (Rl.ff_no HD.out).1
    subst e1 e2
    clear hR hC
    go_enter Try.func32, Try.ntmps32
    go_wp2_with fail
    refine (hT _ h).mono ?_
    rintro e _ ⟨rfl, rfl⟩
    go_wp2_with fail
    go_ret2
    exact ⟨rfl, Below.refl _ _⟩
  · have e1 : R = (Rl.rolls (Rl.best r s) : Int) := by rw [← hR]; unfold Rl.lrR; rw [if_pos HD.out]
    have e2 : C = 0 := hC.symm.trans (Rl.ff_yes HD.out).1
    subst e2
    have R0 := Lib.hid e1
    clear hR hC e1
    have hok := Rl.okT_iff.1 HD.out
    have HOK := Lib.hid hok
    have hn12 : n ≤ 12 := by have := hok.2.1; rw [HL.out] at this; exact this
    clear hok
    go_enter Try.func32, Try.ntmps32
    go_wp2_with fail
    refine (hT _ h).mono ?_
    rintro e _ ⟨rfl, rfl⟩
    clear hT
    go_wp2_with fail
    refine (specBe_any r A n c B s w h hB HD.out).mono ?_
    rintro e w1 ⟨A1, c1, rfl, ho1, hb1⟩
    have hz1 := hb1.size
    have hr1 := h.below hb1 hB
    have hrd1 := ho1.rd
    clear ho1
    go_wp2_with fail
    refine (specLo_any A A1 n c B n c1 _ s (Rl.best r s) w1 hr1 hrd1 (by omega) (Nat.le_refl _) (Nat.le_refl _) hn12 (fun x hx => by have := HOK.out.2.2 x hx; have := HOK.out.1; omega) (Rl.best_nums HD.out)).mono ?_
    rintro e w2 ⟨A2, m2, c2, rfl, ho2, hb2⟩
    have HM : Hid ((m2 : Int) = R) := Lib.hid (by
      have h1 := ho2.rd.1
      rw [Rl.loads_len _ _ (by rw [Rl.best_len HD.out]; exact Nat.le_refl _)] at h1
      rw [R0.out, h1])
    have HB2 := Lib.hid (hb1.trans (hb2.mono hz1))
    clear ho2 hb1 hb2 hrd1 hr1
    go_wp2_with fail
    go_ret2
    exact ⟨by rw [← HM.out]; rfl, HB2.out⟩
set_option maxRecDepth 100000 in
set_option maxHeartbeats 8000000 in
theorem specSp_any' (r : Int) (A1 A2 : Option Addr) (n1 c1 B1 n2 c2 B2 : Nat) (s p R : List Int) (C : Int) (w : World) (h1 : Rd I w B1 A1 n1 s) (h2 : Rd I w B2 A2 n2 p) (hB1 : B1 ≤ w.heap.size) (hB2 : B2 ≤ w.heap.size) (hn1 : n1 ≤ 1048576) (hn2 : n2 ≤ 1048576) (hR : Rl.spR r s p = R) (hC : Rl.spC r s p = C) :
    Calls Try.prog 23 #[.int .i64 r, .slice A1 n1 c1, .slice A2 n2 c2] w fun e w' => LC w R C e w' := by
  have HL1 := Lib.hid h1.1
  have HL2 := Lib.hid h2.1
  obtain ⟨d, hd⟩ : ∃ d, Rl.okT r s = d := ⟨_, rfl⟩
  have HD := Lib.hid hd
  have hT := fun W (hW : Rd I W B1 A1 n1 s) => specRlT_any r A1 n1 c1 B1 s d W hW hn1 HD.out
  clear hd
  cases d
  · have hp : Rl.isP r s p = false := by unfold Rl.isP; rw [HD.out, Bool.false_and]
    have R0 : Hid (R = []) := Lib.hid (by rw [← hR]; unfold Rl.spR; rw [hp]; rfl)
    have C0 : Hid (C = 1) := Lib.hid (by rw [← hC]; unfold Rl.spC; rw [HD.out]; rfl)
    clear hR hC hp
    go_enter Try.func23, Try.ntmps23
    go_wp2_with fail
    refine (hT _ h1).mono ?_
    rintro e _ ⟨rfl, rfl⟩
    go_wp2_with fail
    go_ret2
    exact LC.nil_ R0.out C0.out (Below.refl _ _)
  obtain ⟨q, hq⟩ : ∃ q, Rl.isP r s p = q := ⟨_, rfl⟩
  have HQ := Lib.hid hq
  clear hq
  cases q
  · have R0 : Hid (R = []) := Lib.hid (by rw [← hR]; unfold Rl.spR; rw [HQ.out]; rfl)
    have C0 : Hid (C = 2) := Lib.hid (by rw [← hC]; unfold Rl.spC; rw [HD.out, HQ.out]; rfl)
    clear hR hC
    go_enter Try.func23, Try.ntmps23
    go_wp2_with fail
    refine (hT _ h1).mono ?_
    rintro e _ ⟨rfl, rfl⟩
    go_wp2_with fail
    refine (specRlP_any r A1 A2 n1 c1 B1 n2 c2 B2 s p false w h1 h2 hB1 hB2 hn1 hn2 HQ.out).mono ?_
    rintro e w1 ⟨rfl, hb1⟩
    go_wp2_with fail
    go_ret2
    exact LC.nil_ R0.out C0.out hb1
  · have R0 : Hid (R = (Rl.loads s p).map (fun x => r - x)) := Lib.hid (by rw [← hR]; unfold Rl.spR; rw [if_pos HQ.out])
    have C0 : Hid (C = 0) := Lib.hid (by rw [← hC]; unfold Rl.spC; rw [if_pos HD.out, if_pos HQ.out])
    have HOK := Lib.hid (Rl.okT_iff.1 HD.out)
    have HP := Lib.hid (Rl.isP_iff.1 HQ.out)
    have hn12 : n1 ≤ 12 := by have := HOK.out.2.1; rw [HL1.out] at this; exact this
    have hnn : n2 = n1 := by have := HP.out.2.1; rw [HL1.out, HL2.out] at this; exact this
    subst hnn
    have hr := HOK.out.1
    clear hR hC
    go_enter Try.func23, Try.ntmps23
    go_wp2_with fail
    refine (hT _ h1).mono ?_
    rintro e _ ⟨rfl, rfl⟩
    clear hT
    go_wp2_with fail
    refine (specRlP_any r A1 A2 n2 c1 B1 n2 c2 B2 s p true w h1 h2 hB1 hB2 hn1 hn2 HQ.out).mono ?_
    rintro e w1 ⟨rfl, hb1⟩
    have hz1 := hb1.size
    have h11 := h1.below hb1 hB1
    have h21 := h2.below hb1 hB2
    go_wp2_with fail
    refine (specLo_any A1 A2 n2 c1 B1 n2 c2 B2 s p w1 h11 h21 (by omega) (by omega) (Nat.le_refl _) hn12 (fun x hx => by have := HOK.out.2.2 x hx; omega) (Rl.num_all HP.out.2.2.1 (by rw [HL2.out]; exact hn12))).mono ?_
    rintro e w2 ⟨A3, m3, c3, rfl, ho, hb2⟩
    have hz2 := hb2.size
    have HM := Lib.hid ho.rd.1
    have hm1000 : m3 ≤ 1000 := by
      have h_ := HM.out
      rw [Rl.loads_len _ _ (by rw [HL1.out, HL2.out]; exact Nat.le_refl _)] at h_
      have := Rl.rolls_le HP.out.2.2.1 (by omega)
      rw [HL2.out] at this
      omega
    have hbb := hb1.trans (hb2.mono hz1)
    have HBD : Hid (∀ (k : Nat) (x : Int), (Rl.loads s p)[k]? = some x → 0 ≤ x ∧ x ≤ r) := Lib.hid fun k x hx => by
      refine ⟨?_, HP.out.2.2.2 x (List.mem_of_getElem? hx)⟩
      have h3 := Rl.loads_bd (s := s) (p := p) (fun x hx => by have := HOK.out.2.2 x hx; omega) p.length (Nat.le_refl _) (by rw [HL1.out, HL2.out]; exact Nat.le_refl _) k
      rw [List.take_length, Rl.loads_cut] at h3
      have e : (Rl.loads s p).getD k 0 = x := by rw [List.getD_eq_getElem?_getD, hx]; rfl
      rw [e] at h3
      exact h3.1
    obtain ⟨o, hoe⟩ : ∃ o, Rl.loads s p = o := ⟨_, rfl⟩
    rw [hoe] at ho HM R0 HBD
    clear hb1 hb2 h1 h2 h11 h21 hoe
    go_wp2_with fail
    go_loopw [9] (fun v wr => ∃ k : Nat, k ≤ m3 ∧ v = .int .i64 k ∧ Own I wr w1.heap.size wr.heap.size 2 (.slice A3 m3 c3) ((o.take k).map (fun x => r - x) ++ o.drop k) ∧ Below w.heap.size w wr ∧ w1.heap.size ≤ wr.heap.size) (fun v _ => m3 - (intOf v).toNat)
    case atStart => exact ⟨0, Nat.zero_le _, rfl, by simpa using ho, hbb, hz2⟩
    case round =>
      clear ho hbb
      obtain ⟨k, hk, rfl, ho, hb, hzr⟩ := hrel
      have hzb := hb.size
      by_cases hlt : k < m3
      · obtain ⟨g, z, rfl, hg1, hg2, hg3, hz, cz, fz⟩ := ho.at_ (k := k) hlt
        have hko : k < o.length := by rw [HM.out]; exact hlt
        have hzo : o[k]? = some z := by
          rw [List.getElem?_append_right (by simp; omega)] at hz
          simp at hz
          rw [show k - min k o.length = 0 from by omega, Nat.add_zero] at hz
          exact hz
        have hzb2 := HBD.out k z hzo
        have es : IntKind.i64.wrap (r - z) = r - z := IntWalk.i64_in _ (by omega)
        have hst := ho.set_ (k := k) (r - z)
        have HS := Lib.hid hst
        have HLI : Hid (((o.take k).map (fun x => r - x) ++ o.drop k).set k (r - z) = (o.take (k + 1)).map (fun x => r - x) ++ o.drop (k + 1)) := Lib.hid (by
          rw [List.set_append_right _ _ (by simp; omega), take_nextRl o k z hzo, List.map_append]
          have e : k - ((o.take k).map fun x => r - x).length = 0 := by simp; omega
          rw [e, List.drop_eq_getElem_cons hko, List.set_cons_zero]
          simp)
        clear hz hzo hzb2 hst
        go_wp2_with fail
        go_roundw
        case rel =>
          refine ⟨k + 1, by omega, by go_num, ?_, hb.trans (HS.out.2.below (by omega) (by omega)), by simpa using hzr⟩
          rw [← HLI.out]
          exact HS.out.1.mono (Nat.le_refl _) (by simp)
        case measure => simp [intOf]; omega
      · obtain rfl : k = m3 := by omega
        have HO : Hid (Own I wr w1.heap.size wr.heap.size 2 (.slice A3 k c3) (o.map (fun x => r - x))) := Lib.hid (by
          have e1 : o.take k = o := List.take_of_length_le (by rw [HM.out]; exact Nat.le_refl _)
          have e2 : o.drop k = [] := List.drop_of_length_le (by rw [HM.out]; exact Nat.le_refl _)
          rw [e1, e2, List.append_nil] at ho
          exact ho)
        clear ho
        go_wp2_with fail
        go_ret2
        exact LC.mk_ R0.out C0.out HO.out hz1 (Nat.le_refl _) (by omega) hb
end Go.Proofs.Ytbhkpjjedeinpaa
