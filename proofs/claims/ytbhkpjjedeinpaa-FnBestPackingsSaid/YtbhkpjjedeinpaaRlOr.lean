/- Contracts of the model's LongestFirst and FirstFit. -/
import Derived.Test.YtbhkpjjedeinpaaRlNu
import Derived.Test.YtbhkpjjedeinpaaSgDo
import Derived.Deep.RegionLaw
namespace Go.Proofs.Ytbhkpjjedeinpaa
open Go.RowKit
set_option linter.unusedVariables false

namespace Rl
theorem insA_is {s q : List Int} {x : Int} {j : Nat} (h : ∀ i, i < j → x ≤ s.getD (q.getD i 0).toNat 0) (hj : j = q.length ∨ (j < q.length ∧ s.getD (q.getD j 0).toNat 0 < x)) : insA s x q = j := by
  induction q generalizing j with
  | nil =>
    rcases hj with rfl | ⟨h1, _⟩
    · rfl
    · simp at h1
  | cons y q ih =>
    cases j with
    | zero =>
      rcases hj with h1 | ⟨_, h1⟩
      · simp at h1
      · simp only [List.getD_cons_zero] at h1
        unfold insA
        rw [if_neg (by omega)]
    | succ j =>
      have h0 := h 0 (by omega)
      simp only [List.getD_cons_zero] at h0
      unfold insA
      rw [if_pos h0, ih (j := j) (fun i hi => by have := h (i + 1) (by omega); simpa using this) (by simpa using hj)]
theorem ord_len (s : List Int) (n : Nat) : (ord s n).length = n := by
  have := (ord_perm s n).length_eq
  rw [this]
  simp [idx]
theorem ord_mem {s : List Int} {n : Nat} {i : Int} (h : i ∈ ord s n) : 0 ≤ i ∧ i.toNat < n := idx_mem ((ord_perm s n).mem_iff.1 h)
theorem idx_next (n : Nat) : idx (n + 1) = idx n ++ [(n : Int)] := by
  unfold idx
  rw [List.range_succ, List.map_append]
  rfl
theorem idx_len (n : Nat) : (idx n).length = n := by simp [idx]
/-- First fit in the plain order is first fit. -/
theorem foT_idx (r : Int) (s : List Int) : ∀ k, k ≤ s.length → ∃ o, foT r s (idx s.length) k = (ff r (s.take k) ++ List.replicate (s.length - k) 0, o) ∧ ∀ t, ffG r [] (s.take k ++ t) = ff r (s.take k) ++ ffG r o t
  | 0, _ => ⟨[], by simp [foT, ff, ffG], fun t => by simp [ff, ffG]⟩
  | k + 1, hk => by
    obtain ⟨o, h1, h2⟩ := foT_idx r s k (by omega)
    have hx : s[k]? = some s[k] := List.getElem?_eq_getElem (by omega)
    have hi : (idx s.length)[k]? = some (k : Int) := by
      unfold idx
      rw [List.getElem?_map, List.getElem?_range (by omega)]
      rfl
    have hsx : s.getD ((k : Int)).toNat 0 = s[k] := by
      rw [Int.toNat_natCast, List.getD_eq_getElem?_getD, hx]
      rfl
    have e1 : ff r (s.take (k + 1)) = ff r (s.take k) ++ [(fit r s[k] o : Int)] := by
      rw [take_nextRl s k _ hx]
      unfold ff
      rw [h2 [s[k]]]
      rfl
    have hl : (ff r (s.take k)).length = k := by
      unfold ff
      rw [ffG_len]
      simp
      omega
    refine ⟨addAt o (fit r s[k] o) s[k], ?_, fun t => ?_⟩
    · rw [foT_next hi, h1]
      unfold foS
      rw [hsx, Int.toNat_natCast, e1]
      congr 1
      rw [show s.length - k = (s.length - (k + 1)) + 1 from by omega, List.replicate_succ, List.set_append_right _ _ (by omega), hl]
      simp
    · rw [e1, take_nextRl s k _ hx, List.append_assoc, h2, List.append_assoc]
      rfl
theorem fo_idx (r : Int) (s : List Int) : (fo r s (idx s.length)).1 = ff r s := by
  obtain ⟨o, h1, _⟩ := foT_idx r s s.length (Nat.le_refl _)
  have e : fo r s (idx s.length) = foT r s (idx s.length) s.length := by
    unfold fo foT
    rw [List.take_of_length_le (by rw [idx_len]; exact Nat.le_refl _)]
  rw [e, h1]
  simp
def ffC (r : Int) (s : List Int) : Int := if okT r s then 0 else 1
def ffR (r : Int) (s : List Int) : List Int := if okT r s then ff r s else []
def lfR (r : Int) (s : List Int) : List Int := if okT r s then lf r s else []
theorem ff_no {r : Int} {s : List Int} (h : okT r s = false) : ffC r s = 1 ∧ ffR r s = [] ∧ lfR r s = [] := by
  unfold ffC ffR lfR
  rw [h]
  exact ⟨rfl, rfl, rfl⟩
theorem ff_yes {r : Int} {s : List Int} (h : okT r s = true) : ffC r s = 0 ∧ ffR r s = ff r s ∧ lfR r s = lf r s := by
  unfold ffC ffR lfR
  rw [h]
  exact ⟨rfl, rfl, rfl⟩
end Rl
set_option maxRecDepth 100000 in
set_option maxHeartbeats 4000000 in
theorem specFf_any' (r : Int) (A : Option Addr) (n c B : Nat) (s R : List Int) (C : Int) (w : World) (h : Rd I w B A n s) (hB : B ≤ w.heap.size) (hn : n ≤ 1048576) (hR : Rl.ffR r s = R) (hC : Rl.ffC r s = C) :
    Calls Try.prog 16 #[.int .i64 r, .slice A n c] w fun e w' => LC w R C e w' := by
  obtain ⟨i0, hi0, hz0, hz1, hz2⟩ := info_parts infoI
  have HL := Lib.hid h.1
  obtain ⟨d, hd⟩ : ∃ d, Rl.okT r s = d := ⟨_, rfl⟩
  have HD := Lib.hid hd
  have hT := fun W (hW : Rd I W B A n s) => specRlT_any r A n c B s d W hW hn HD.out
  clear hd
  cases d
  · obtain ⟨e1, e2, _⟩ := Rl.ff_no HD.out
    have R0 := Lib.hid (hR.symm.trans e2)
    have C0 := Lib.hid (hC.symm.trans e1)
    clear hR hC e1 e2
    go_enter Try.func16, Try.ntmps16
    go_wp2_with fail
    refine (hT _ h).mono ?_
    rintro e _ ⟨rfl, rfl⟩
    go_wp2_with fail
    go_ret2
    exact LC.nil_ R0.out C0.out (Below.refl _ _)
  · obtain ⟨e1, e2, _⟩ := Rl.ff_yes HD.out
    have R0 := Lib.hid (hR.symm.trans e2)
    have C0 := Lib.hid (hC.symm.trans e1)
    clear hR hC e1 e2
    have hn12 : n ≤ 12 := by have := (Rl.okT_iff.1 HD.out).2.1; rw [HL.out] at this; exact this
    have ho0 : Own I (w.alloc (.cells #[] 2)) w.heap.size (w.heap.size + 1) 2 (.slice (some ⟨w.heap.size, 0, none⟩) 0 0) ([] : List Int) := Own.lit0 I w 2
    have hb0 : Below w.heap.size w (w.alloc (.cells #[] 2)) := (Below.refl _ _).alloc (Nat.le_refl _) _
    have hz : (w.alloc (.cells #[] 2)).heap.size = w.heap.size + 1 := by simp
    go_enter Try.func16, Try.ntmps16
    go_wp2_with fail
    refine (hT _ h).mono ?_
    rintro e _ ⟨rfl, rfl⟩
    clear hT
    go_wp2_with fail
    go_loopw [6, 7] (fun v i wr => ∃ (k : Nat) (A3 : Option Addr) (c3 : Nat), k ≤ n ∧ i = .int .i64 k ∧ v = .slice A3 k c3 ∧ Own I wr w.heap.size wr.heap.size 2 (.slice A3 k c3) (Rl.idx k) ∧ Below w.heap.size w wr) (fun _ i _ => n - (intOf i).toNat)
    case atStart => exact ⟨0, _, _, Nat.zero_le _, rfl, rfl, by simpa [Rl.idx] using ho0.mono (Nat.le_refl _) (show w.heap.size + 1 ≤ (w.alloc (.cells #[] 2)).heap.size by omega), hb0⟩
    case round =>
      clear ho0 hb0 hz
      obtain ⟨k, A3, c3, hk, rfl, rfl, ho, hb⟩ := hrel
      have hzb := hb.size
      by_cases hlt : k < n
      · have hkI : (k : Int) < (n : Int) := by omega
        have ex : IntKind.i64.wrap ((k : Int) + 1) = (k : Int) + 1 := IntWalk.i64_in _ (by omega)
        go_wp2_with (at_builtin; refine wp_push (enc := I) wr rfl _ _ 24 rfl 2 i0 _ 8 Try.underlying24 hi0 hz0 hz1 hz2 rfl A3 k c3 _ _ _ rfl ho (k : Int) rfl rfl (by omega) (by omega) hzb ?_; intro A5 c5 w5 ho5 hm5; have HO5 := Lib.hid ho5; have HB5 := Lib.hid (hb.trans (hm5.below (Nat.le_refl _) hzb)); clear ho5 hm5)
        go_roundw
        case rel => exact ⟨k + 1, A5, c5, by omega, by first | rfl | go_num | (simp; omega), rfl, by rw [Rl.idx_next]; exact HO5.out, HB5.out⟩
        case measure => simp [intOf]; omega
      · obtain rfl : k = n := by omega
        have hfo := fun W (hW1 : Rd I W B A k s) (hW2 : Rd I W wr.heap.size A3 k (Rl.idx k)) (hz1 : B ≤ W.heap.size) (hz2 : wr.heap.size ≤ W.heap.size) => specFo_any r A A3 k c B k c3 wr.heap.size s (Rl.idx k) W hW1 hW2 hz1 hz2 HD.out hn12 fun i hi => Rl.idx_mem hi
        have HE : Hid ((Rl.fo r s (Rl.idx k)).1 = R) := Lib.hid (by
          have := Rl.fo_idx r s
          rw [HL.out] at this
          rw [this, R0.out])
        have hrd := ho.rd
        have hrs := h.below hb hB
        clear ho
        go_wp2_with fail
        refine (hfo _ hrs hrd (by omega) (Nat.le_refl _)).mono ?_
        rintro e w5 ⟨A5, c5, rfl, ho5, hb5⟩
        rw [HE.out] at ho5
        have HO5 := Lib.hid (ho5.mono hzb (Nat.le_refl _))
        have HB5 := Lib.hid (hb.trans (hb5.mono hzb))
        clear ho5 hb5 hfo hrd hrs
        go_wp2_with fail
        go_ret2
        exact LC.mk_ rfl C0.out HO5.out (Nat.le_refl _) (Nat.le_refl _) (by omega) HB5.out
-- MORE
set_option maxRecDepth 100000 in
set_option maxHeartbeats 8000000 in
theorem specLf_any' (r : Int) (A : Option Addr) (n c B : Nat) (s R : List Int) (C : Int) (w : World) (h : Rd I w B A n s) (hB : B ≤ w.heap.size) (hn : n ≤ 1048576) (hR : Rl.lfR r s = R) (hC : Rl.ffC r s = C) :
    Calls Try.prog 18 #[.int .i64 r, .slice A n c] w fun e w' => LC w R C e w' := by
  obtain ⟨i0, hi0, hz0, hz1, hz2⟩ := info_parts infoI
  have HL := Lib.hid h.1
  obtain ⟨d, hd⟩ : ∃ d, Rl.okT r s = d := ⟨_, rfl⟩
  have HD := Lib.hid hd
  have hT := fun W (hW : Rd I W B A n s) => specRlT_any r A n c B s d W hW hn HD.out
  clear hd
  cases d
  · obtain ⟨e1, _, e2⟩ := Rl.ff_no HD.out
    have R0 := Lib.hid (hR.symm.trans e2)
    have C0 := Lib.hid (hC.symm.trans e1)
    clear hR hC e1 e2
    go_enter Try.func18, Try.ntmps18
    go_wp2_with fail
    refine (hT _ h).mono ?_
    rintro e _ ⟨rfl, rfl⟩
    go_wp2_with fail
    go_ret2
    exact LC.nil_ R0.out C0.out (Below.refl _ _)
  · obtain ⟨e1, _, e2⟩ := Rl.ff_yes HD.out
    have R0 := Lib.hid (hR.symm.trans e2)
    have C0 := Lib.hid (hC.symm.trans e1)
    have HOK := Lib.hid (Rl.okT_iff.1 HD.out)
    clear hR hC e1 e2
    have hn12 : n ≤ 12 := by have := HOK.out.2.1; rw [HL.out] at this; exact this
    have ho0 : Own I (w.alloc (.cells #[] 2)) w.heap.size (w.heap.size + 1) 2 (.slice (some ⟨w.heap.size, 0, none⟩) 0 0) ([] : List Int) := Own.lit0 I w 2
    have hb0 : Below w.heap.size w (w.alloc (.cells #[] 2)) := (Below.refl _ _).alloc (Nat.le_refl _) _
    have hz : (w.alloc (.cells #[] 2)).heap.size = w.heap.size + 1 := by simp
    go_enter Try.func18, Try.ntmps18
    go_wp2_with fail
    refine (hT _ h).mono ?_
    rintro e _ ⟨rfl, rfl⟩
    clear hT
    go_wp2_with fail
    go_loopw [6, 7] (fun v i wr => ∃ (k : Nat) (g3 : Nat) (c3 : Nat), k ≤ n ∧ i = .int .i64 k ∧ v = .slice (some ⟨g3, 0, none⟩) k c3 ∧ Own I wr w.heap.size wr.heap.size 2 (.slice (some ⟨g3, 0, none⟩) k c3) (Rl.ord s k) ∧ Below w.heap.size w wr) (fun _ i _ => n - (intOf i).toNat)
    case atStart => exact ⟨0, _, _, Nat.zero_le _, rfl, rfl, by simpa [Rl.ord] using ho0.mono (Nat.le_refl _) (show w.heap.size + 1 ≤ (w.alloc (.cells #[] 2)).heap.size by omega), hb0⟩
    case round =>
      clear ho0 hb0 hz
      obtain ⟨k, g3, c3, hk, rfl, rfl, ho, hb⟩ := hrel
      have hzb := hb.size
      by_cases hlt : k < n
      · have hkI : (k : Int) < (n : Int) := by omega
        have ex : IntKind.i64.wrap ((k : Int) + 1) = (k : Int) + 1 := IntWalk.i64_in _ (by omega)
        obtain ⟨bs, os, x, rfl, hbs, hx, cx⟩ := (h.below hb hB).at_ hlt
        have HX := Lib.hid hx
        have HORD : Hid (Rl.ord s (k + 1) = (Rl.ord s k).take (Rl.insA s x (Rl.ord s k)) ++ (k : Int) :: (Rl.ord s k).drop (Rl.insA s x (Rl.ord s k))) := Lib.hid (by
          have e : s.getD k 0 = x := by rw [List.getD_eq_getElem?_getD, hx]; rfl
          rw [← e]
          rfl)
        have HMEM : Hid (∀ i ∈ Rl.ord s k, 0 ≤ i ∧ i.toNat < n) := Lib.hid fun i hi => by have := Rl.ord_mem hi; omega
        clear hx
        obtain ⟨l, hl⟩ : ∃ l, Rl.ord s k = l := ⟨_, rfl⟩
        rw [hl] at ho HORD HMEM
        clear hl
        obtain ⟨wr0, hwr0⟩ : ∃ w_, w_ = wr := ⟨_, rfl⟩
        subst hwr0
        go_wp2_with fail
        go_loopw [8] (fun v wr' => ∃ j : Nat, j ≤ k ∧ v = .int .i64 j ∧ Hid (∀ i, i < j → x ≤ s.getD (l.getD i 0).toNat 0) ∧ Q wr0 wr') (fun v _ => k - (intOf v).toNat)
        case atStart => exact ⟨0, Nat.zero_le _, rfl, Lib.hid fun i hi => by omega, Q.refl _⟩
        case round =>
          obtain ⟨j, hj, rfl, HJ, hqq⟩ := hrel
          obtain ⟨m0, rfl⟩ := hqq
          replace ho := ho.drewN m0
          replace hb := below_drewN' hb m0
          replace hzb : w.heap.size ≤ (wr0.drewN m0).heap.size := hzb
          replace cx : (wr0.drewN m0).cell? ⟨bs, os + k, none⟩ = some (I x) := cx
          have HM : Hid (∀ nq, Q wr0 ((wr0.drewN m0).drewN nq)) := Lib.hid fun nq => (Q.drewN wr0 m0).more nq
          replace ho : Own I (wr0.drewN m0) w.heap.size (wr0.drewN m0).heap.size 2 (.slice (some ⟨g3, 0, none⟩) k c3) l := ho
          generalize wr0.drewN m0 = wr at *
          by_cases hjk : j < k
          · obtain ⟨g, y, hg, hg1, hg2, hg3, hy, cy, fy⟩ := ho.at_ (k := j) hjk
            injection hg with hg
            injection hg with hg _ _
            subst hg
            have HY := Lib.hid hy
            have hy0 := HMEM.out y (List.mem_of_getElem? hy)
            obtain ⟨q, rfl⟩ := Int.eq_ofNat_of_zero_le hy0.1
            have hqn : q < n := by omega
            obtain ⟨bs', os', z, es, _, hz', cz⟩ := (h.below hb hB).at_ hqn
            injection es with es
            injection es with esa esb _
            subst esa esb
            have HZ := Lib.hid hz'
            have EZ : Hid (s.getD (l.getD j 0).toNat 0 = z) := Lib.hid (by
              rw [List.getD_eq_getElem?_getD (l := l), hy]
              show s.getD ((q : Int)).toNat 0 = z
              rw [Int.toNat_natCast, List.getD_eq_getElem?_getD, hz']
              rfl)
            have hjI : (j : Int) < (k : Int) := by omega
            clear hy hy0 hz'
            by_cases hxz : x ≤ z
            · go_wp2_with fail
              go_quiet (fail)
              go_wp2_with fail
              go_roundw
              case rel => exact ⟨j + 1, by omega, by go_num, Lib.hid fun i hi => by
                rcases Nat.lt_or_ge i j with h_ | h_
                · exact HJ.out i h_
                · obtain rfl : i = j := by omega
                  rw [EZ.out]
                  exact hxz, HM.out _⟩
              case measure => simp [intOf]; omega
            · have HINS : Hid (Rl.insA s x l = j) := Lib.hid (Rl.insA_is HJ.out (.inr ⟨by rw [ho.rd.1]; exact hjk, by rw [EZ.out]; omega⟩))
              go_wp2_with fail
              go_quiet (fail)
              replace ho : Own I (wr.drewN nq) w.heap.size (wr.drewN nq).heap.size 2 (.slice (some ⟨g3, 0, none⟩) k c3) l := ho.drewN nq
              replace hb := below_drewN' hb nq
              replace hzb : w.heap.size ≤ (wr.drewN nq).heap.size := hzb
              clear HM cx
              (try clear cy fy cz)
              generalize wr.drewN nq = w1 at *
              have hcap := ho.cap
              have hT := ho.rd.take (k := j) (by omega)
              obtain ⟨A2, hA2, hD⟩ := Rd.tail (c := c3) (q := j) ho.rd (by omega) hcap
              have q1 : (0 : Int) ≤ (j : Int) := by omega
              have q2 : (j : Int) ≤ (k : Int) := by omega
              have q3 : j ≤ c3 := by omega
              have hDd : Rd I w1.drew w1.heap.size A2 (k - j) (l.drop j) := hD
              have hTd : Rd I w1.drew w1.heap.size (some ⟨g3, 0, none⟩) j (l.take j) := hT
              go_wp2_with fail
              go_region_law (first
                | ((refine step_spread _ rfl (.tmp 43) (.tmp 45) 24 rfl 2 i0 (.int .i64 0) 8 Try.underlying24 hi0 hz0 hz1 hz2 rfl A5 j c5 (l.take j) _ _ (by rfl) (by first | exact ho5.alloc _ | exact ho5) _ 1 1 _ [(k : Int)] (by rfl) (by first | exact Rd.lit I _ _ [(k : Int)] | exact (Rd.lit I w1.drew _ [(k : Int)]).below hb5 (by simp)) oneI (by omega) (by omega) (by have hz5 := hb5.size; simp at hz5 ⊢; omega) ?_); intro A6 c6 w3 ho6 hm6)
                | (go_simp; go_at_call 45; refine (l01Own_any _ j _ _ (l.take j) _ (by first | exact hTd | exact hTd.alloc (Nat.le_refl _) _) (by simp) (by omega)).mono ?_; rintro e w2 ⟨A5, c5, rfl, ho5, hb5⟩)
                | ((refine step_spread _ rfl (.tmp 46) (.tmp 49) 24 rfl 2 i0 (.int .i64 0) 8 Try.underlying24 hi0 hz0 hz1 hz2 rfl A6 (j + 1) c6 (l.take j ++ [(k : Int)]) _ _ (by rfl) (by exact ho6) A2 (k - j) _ _ (l.drop j) (by rfl) (by first | exact ((hDd.below hb5 (Nat.le_refl _)).alloc hb5.size _).only hm6 (Nat.le_refl _) (by have hz5 := hb5.size; simp at hz5 ⊢; omega) | exact ((hDd.alloc (Nat.le_refl _) _).below hb5 (by simp)).only hm6 (by simp) (by have hz5 := hb5.size; simp at hz5; omega)) oneI (by omega) (by omega) (by have hz5 := hb5.size; have hz6 := hm6.size; simp at hz5 hz6 ⊢; omega) ?_); intro A7 c7 w4 ho7 hm7))
              all_goals
                have hz5 := hb5.size
                have hz6 := hm6.size
                have hz7 := hm7.size
                simp at hz5 hz6 hz7
                have hbl : Below w1.heap.size w1.drew w4 := by
                  first
                    | exact ((hb5.alloc hb5.size _).trans (hm6.below (B := w1.heap.size) (by simp) (by simp; omega))).trans (hm7.below (B := w1.heap.size) (by simp) (by omega))
                    | exact ((((Below.refl w1.heap.size w1.drew).alloc (Nat.le_refl _) _).trans (hb5.mono (by simp))).trans (hm6.below (B := w1.heap.size) (by simp) (by omega))).trans (hm7.below (B := w1.heap.size) (by simp) (by omega))
                have e1 : j + 1 + (k - j) = k + 1 := by omega
                rw [e1] at ho7 ⊢
                obtain ⟨g7, rfl, hg7, _⟩ := ho7.some_ (by omega)
                have HO8 : Hid (Own I w4 w.heap.size w4.heap.size 2 (.slice (some ⟨g7, 0, none⟩) (k + 1) c7) (Rl.ord s (k + 1))) := Lib.hid (by
                  rw [HORD.out, HINS.out]
                  have h_ := ho7.mono (lo' := w.heap.size) (by simp; omega) (Nat.le_refl _)
                  simpa using h_)
                have HB8 := Lib.hid ((below_drewN' hb 1).trans (hbl.mono hzb))
                clear e1 ho5 ho6 ho7 hb5 hm6 hm7 hbl hD hDd hT hTd ho hb hA2
                go_wp2_with fail
                go_roundw
                case rel => exact ⟨k + 1, g7, c7, by omega, by first | rfl | go_num | (simp; omega), rfl, HO8.out, HB8.out⟩
                case measure => simp [intOf]; omega
          · have HINS : Hid (Rl.insA s x l = j) := Lib.hid (Rl.insA_is HJ.out (.inl (by rw [ho.rd.1]; omega)))
            have hjI : ¬ ((j : Int) < (k : Int)) := by omega
            go_wp2_with fail
            go_quiet (fail)
            replace ho : Own I (wr.drewN nq) w.heap.size (wr.drewN nq).heap.size 2 (.slice (some ⟨g3, 0, none⟩) k c3) l := ho.drewN nq
            replace hb := below_drewN' hb nq
            replace hzb : w.heap.size ≤ (wr.drewN nq).heap.size := hzb
            clear HM cx
            (try clear cy fy cz)
            generalize wr.drewN nq = w1 at *
            have hcap := ho.cap
            have hT := ho.rd.take (k := j) (by omega)
            obtain ⟨A2, hA2, hD⟩ := Rd.tail (c := c3) (q := j) ho.rd (by omega) hcap
            have q1 : (0 : Int) ≤ (j : Int) := by omega
            have q2 : (j : Int) ≤ (k : Int) := by omega
            have q3 : j ≤ c3 := by omega
            have hDd : Rd I w1.drew w1.heap.size A2 (k - j) (l.drop j) := hD
            have hTd : Rd I w1.drew w1.heap.size (some ⟨g3, 0, none⟩) j (l.take j) := hT
            go_wp2_with fail
            go_region_law (first
              | ((refine step_spread _ rfl (.tmp 43) (.tmp 45) 24 rfl 2 i0 (.int .i64 0) 8 Try.underlying24 hi0 hz0 hz1 hz2 rfl A5 j c5 (l.take j) _ _ (by rfl) (by first | exact ho5.alloc _ | exact ho5) _ 1 1 _ [(k : Int)] (by rfl) (by first | exact Rd.lit I _ _ [(k : Int)] | exact (Rd.lit I w1.drew _ [(k : Int)]).below hb5 (by simp)) oneI (by omega) (by omega) (by have hz5 := hb5.size; simp at hz5 ⊢; omega) ?_); intro A6 c6 w3 ho6 hm6)
              | (go_simp; go_at_call 45; refine (l01Own_any _ j _ _ (l.take j) _ (by first | exact hTd | exact hTd.alloc (Nat.le_refl _) _) (by simp) (by omega)).mono ?_; rintro e w2 ⟨A5, c5, rfl, ho5, hb5⟩)
              | ((refine step_spread _ rfl (.tmp 46) (.tmp 49) 24 rfl 2 i0 (.int .i64 0) 8 Try.underlying24 hi0 hz0 hz1 hz2 rfl A6 (j + 1) c6 (l.take j ++ [(k : Int)]) _ _ (by rfl) (by exact ho6) A2 (k - j) _ _ (l.drop j) (by rfl) (by first | exact ((hDd.below hb5 (Nat.le_refl _)).alloc hb5.size _).only hm6 (Nat.le_refl _) (by have hz5 := hb5.size; simp at hz5 ⊢; omega) | exact ((hDd.alloc (Nat.le_refl _) _).below hb5 (by simp)).only hm6 (by simp) (by have hz5 := hb5.size; simp at hz5; omega)) oneI (by omega) (by omega) (by have hz5 := hb5.size; have hz6 := hm6.size; simp at hz5 hz6 ⊢; omega) ?_); intro A7 c7 w4 ho7 hm7))
            all_goals
              have hz5 := hb5.size
              have hz6 := hm6.size
              have hz7 := hm7.size
              simp at hz5 hz6 hz7
              have hbl : Below w1.heap.size w1.drew w4 := by
                first
                  | exact ((hb5.alloc hb5.size _).trans (hm6.below (B := w1.heap.size) (by simp) (by simp; omega))).trans (hm7.below (B := w1.heap.size) (by simp) (by omega))
                  | exact ((((Below.refl w1.heap.size w1.drew).alloc (Nat.le_refl _) _).trans (hb5.mono (by simp))).trans (hm6.below (B := w1.heap.size) (by simp) (by omega))).trans (hm7.below (B := w1.heap.size) (by simp) (by omega))
              have e1 : j + 1 + (k - j) = k + 1 := by omega
              rw [e1] at ho7 ⊢
              obtain ⟨g7, rfl, hg7, _⟩ := ho7.some_ (by omega)
              have HO8 : Hid (Own I w4 w.heap.size w4.heap.size 2 (.slice (some ⟨g7, 0, none⟩) (k + 1) c7) (Rl.ord s (k + 1))) := Lib.hid (by
                rw [HORD.out, HINS.out]
                have h_ := ho7.mono (lo' := w.heap.size) (by simp; omega) (Nat.le_refl _)
                simpa using h_)
              have HB8 := Lib.hid ((below_drewN' hb 1).trans (hbl.mono hzb))
              clear e1 ho5 ho6 ho7 hb5 hm6 hm7 hbl hD hDd hT hTd ho hb hA2
              go_wp2_with fail
              go_roundw
              case rel => exact ⟨k + 1, g7, c7, by omega, by first | rfl | go_num | (simp; omega), rfl, HO8.out, HB8.out⟩
              case measure => simp [intOf]; omega
      · obtain rfl : k = n := by omega
        have hfo := fun W (hW1 : Rd I W B A k s) (hW2 : Rd I W wr.heap.size (some ⟨g3, 0, none⟩) k (Rl.ord s k)) (hz1 : B ≤ W.heap.size) (hz2 : wr.heap.size ≤ W.heap.size) => specFo_any r A (some ⟨g3, 0, none⟩) k c B k c3 wr.heap.size s (Rl.ord s k) W hW1 hW2 hz1 hz2 HD.out hn12 fun i hi => Rl.ord_mem hi
        have HE : Hid (Rl.number (Rl.fo r s (Rl.ord s k)).1 = R) := Lib.hid (by
          rw [R0.out]
          unfold Rl.lf
          rw [HL.out])
        have hrd := ho.rd
        have hrs := h.below hb hB
        clear ho
        go_wp2_with fail
        refine (hfo _ hrs hrd (by omega) (Nat.le_refl _)).mono ?_
        rintro e w5 ⟨A5, c5, rfl, ho5, hb5⟩
        have hz5 := hb5.size
        have hrd5 := ho5.rd
        have HB5 := Lib.hid (hb.trans (hb5.mono hzb))
        clear hb5 hfo hrd hrs ho5
        go_wp2_with fail
        refine (specNu_any A5 k c5 _ _ _ hrd5 (Nat.le_refl _) (by omega)).mono ?_
        rintro e w6 ⟨A6, c6, rfl, ho6, hb6⟩
        rw [HE.out] at ho6
        have HO6 := Lib.hid (ho6.mono (show w.heap.size ≤ w5.heap.size by omega) (Nat.le_refl _))
        have HB6 := Lib.hid (HB5.out.trans (hb6.mono (by omega)))
        clear ho6 hb6 hrd5
        go_wp2_with fail
        go_ret2
        exact LC.mk_ rfl C0.out HO6.out (Nat.le_refl _) (Nat.le_refl _) (by omega) HB6.out
end Go.Proofs.Ytbhkpjjedeinpaa
