/- Contracts of ComposeOrders, the model's and the program's: both answer comR and comC. -/
import Derived.Test.YtokljgdfhogcoaaInv
namespace Go.Proofs.Ytokljgdfhogcoaa
open Go.RowKit

def comL (p q : List Int) : List Int := q.map fun x => p.getD x.toNat 0
def comR (p q : List Int) : List Int := if isOrd p ∧ isOrd q ∧ p.length = q.length then comL p q else []
def comC (p q : List Int) : Int := if isOrd p ∧ isOrd q then (if p.length = q.length then 0 else 5) else 1
theorem comL_at (p q : List Int) (k j : Nat) (y : Int) (hq : q[k]? = some (j : Int)) (hp : p[j]? = some y) : (comL p q)[k]? = some y := by
  simp [comL, hq, List.getD_eq_getElem?_getD, hp]
theorem comL_len (p q : List Int) : (comL p q).length = q.length := by simp [comL]
theorem ordB_yes {l : List Int} (h : isOrd l) : Hid (isOrdB l = true) := (ord_iff l).2 h
theorem ordB_no {l : List Int} (h : ¬ isOrd l) : Hid (isOrdB l = false) := by
  have := ord_iff l
  cases hb : isOrdB l
  · exact rfl
  · exact absurd (this.1 hb) h

set_option maxHeartbeats 400000 in
theorem implCompose_any (A A' : Option Addr) (n c c' B B' : Nat) (p q : List Int) (w : World) (h : Rd I w B A n p) (h' : Rd I w B' A' n q) (hB : B ≤ w.heap.size) (hB' : B' ≤ w.heap.size) (hn : n ≤ 1048576) (hq : isOrd q) :
    Calls Try.prog 39 #[.slice A n c, .slice A' n c'] w fun e w' => ∃ g, e = .returned (.slice (some ⟨g, 0, none⟩) n n) ∧ Own I w' w.heap.size w'.heap.size 2 (.slice (some ⟨g, 0, none⟩) n n) (comL p q) ∧ Below w.heap.size w w' := by
  obtain ⟨i0, hi0, hz0, hz1, hz2⟩ := info_parts infoI
  have HL : Hid (q.length = n) := h'.1
  have HO := Lib.hid hq
  clear hq
  go_enter Try.func39, Try.ntmps39
  go_wp2_with (at_make; refine wp_fresh _ rfl _ _ 46 rfl 2 i0 (0 : Int) 8 Try.underlying46 hi0 hz0 hz1 hz2 rfl .i64 .i64 _ _ n rfl rfl rfl rfl (by omega) (by omega) ?_; intro g w1 ho1 hb1)
  have hs1 := hb1.size
  go_loopw [6, 7, 13] (fun _ _ i wr => ∃ k : Nat, k ≤ n ∧ i = .int .i64 k ∧ Own I wr w.heap.size w1.heap.size 2 (.slice (some ⟨g, 0, none⟩) n n) ((comL p q).take k ++ List.replicate (n - k) 0) ∧ Below w.heap.size w wr ∧ w1.heap.size ≤ wr.heap.size) (fun _ _ i _ => n - (intOf i).toNat)
  case atStart => exact ⟨0, Nat.zero_le _, rfl, by simpa using ho1, hb1, Nat.le_refl _⟩
  case round =>
    clear ho1
    obtain ⟨k, hk, rfl, ho, hb, hsz⟩ := hrel
    by_cases hlt : k < n
    · obtain ⟨b', o', x, rfl, hbB', hx, hc'⟩ := (h'.below hb hB').at_ hlt
      have hr := ord_at q HO.out k x hx
      have hx0 := hr.1
      have hx1 : x < (n : Int) := by have := HL.out; omega
      clear hr
      obtain ⟨j, rfl⟩ := Int.eq_ofNat_of_zero_le hx0
      have hj : j < n := by omega
      obtain ⟨b, o, y, rfl, hbB, hy, hc⟩ := (h.below hb hB).at_ hj
      have HY : Hid ((comL p q)[k]? = some y) := comL_at p q k j y hx hy
      obtain ⟨g', z, hg, hg1, hg2, hg3, hz, hc2, hf2⟩ := ho.at_ hlt
      injection hg with hg
      injection hg with hg _ _
      subst hg
      have hset := ho.set_ (k := k) y
      clear hx hy hz
      go_wp2
      go_roundw
      case rel =>
        refine ⟨k + 1, by omega, by go_num, ?_, hb.trans (hset.2.below (Nat.le_refl _) hb.size), Nat.le_trans hsz hset.2.size⟩
        have := hset.1
        rwa [copy_step (comL p q) k n y (by rw [comL_len]; exact HL.out) HY.out hlt] at this
      case measure => simp [intOf]; omega
    · obtain rfl : k = n := by omega
      go_wp2
      go_ret
      refine ⟨g, rfl, ?_, hb⟩
      have hle : (comL p q).length = k := by rw [comL_len]; exact HL.out
      simpa [List.take_of_length_le (Nat.le_of_eq hle)] using ho.mono (Nat.le_refl _) hsz

set_option maxHeartbeats 400000 in
theorem implCom_any (A A' : Option Addr) (n n' c c' B B' : Nat) (p q : List Int) (w : World) (h : Rd I w B A n p) (h' : Rd I w B' A' n' q) (hB : B ≤ w.heap.size) (hB' : B' ≤ w.heap.size) (hn : n ≤ 1048576) (hn' : n' ≤ 1048576) :
    Calls Try.prog 14 #[.slice A n c, .slice A' n' c'] w fun e w' => LC w (comR p q) (comC p q) e w' := by
  by_cases hp : isOrd p
  · by_cases hq : isOrd q
    · by_cases hl : n = n'
      · subst hl
        have HP := ordB_yes hp
        have HQ := ordB_yes hq
        have HR : Hid (comR p q = comL p q) := by unfold comR; rw [if_pos ⟨hp, hq, h.1.trans h'.1.symm⟩]; exact rfl
        have HC : Hid (comC p q = 0) := by unfold comC; rw [if_pos ⟨hp, hq⟩, if_pos (h.1.trans h'.1.symm)]; exact rfl
        have HO := Lib.hid hq
        clear hp hq
        go_enter Try.func14, Try.ntmps14
        go_wp2_with fail
        refine (IsOrder_any A n c B p _ h hB hn).mono ?_
        rintro e w1 ⟨rfl, hb1⟩
        rw [HP.out]
        have hz1 := hb1.size
        go_wp2_with fail
        refine (IsOrder_any A' n c' B' q _ (h'.below hb1 hB') (by omega) hn).mono ?_
        rintro e w2 ⟨rfl, hb2⟩
        rw [HQ.out]
        have hz2 := hb2.size
        have hb2' := hb1.trans (hb2.mono hz1)
        go_wp2_with fail
        refine (implCompose_any A A' n c c' B B' p q _ (h.below hb2' hB) (h'.below hb2' hB') (by omega) (by omega) hn HO.out).mono ?_
        rintro e w3 ⟨g, rfl, ho3, hb3⟩
        go_wp2_with fail
        go_ret2
        exact LC.mk_ HR.out HC.out ho3 (by omega) (Nat.le_refl _) hn (hb2'.trans (hb3.mono (by omega)))
      · have HP := ordB_yes hp
        have HQ := ordB_yes hq
        have hne : ¬ p.length = q.length := by rw [h.1, h'.1]; exact hl
        have HR : Hid (comR p q = []) := by unfold comR; rw [if_neg (fun hh => hne hh.2.2)]; exact rfl
        have HC : Hid (comC p q = 5) := by unfold comC; rw [if_pos ⟨hp, hq⟩, if_neg hne]; exact rfl
        have hl1 : ((n : Int) != (n' : Int)) = true := by simp; omega
        clear hp hq hne
        go_enter Try.func14, Try.ntmps14
        go_wp2_with fail
        refine (IsOrder_any A n c B p _ h hB hn).mono ?_
        rintro e w1 ⟨rfl, hb1⟩
        rw [HP.out]
        have hz1 := hb1.size
        go_wp2_with fail
        refine (IsOrder_any A' n' c' B' q _ (h'.below hb1 hB') (by omega) hn').mono ?_
        rintro e w2 ⟨rfl, hb2⟩
        rw [HQ.out]
        go_wp2_with fail
        go_ret2
        exact LC.nil_ HR.out HC.out (hb1.trans (hb2.mono hz1))
    · have HP := ordB_yes hp
      have HQ := ordB_no hq
      have HR : Hid (comR p q = []) := by unfold comR; rw [if_neg (fun hh => hq hh.2.1)]; exact rfl
      have HC : Hid (comC p q = 1) := by unfold comC; rw [if_neg (fun hh => hq hh.2)]; exact rfl
      clear hp hq
      go_enter Try.func14, Try.ntmps14
      go_wp2_with fail
      refine (IsOrder_any A n c B p _ h hB hn).mono ?_
      rintro e w1 ⟨rfl, hb1⟩
      rw [HP.out]
      have hz1 := hb1.size
      go_wp2_with fail
      refine (IsOrder_any A' n' c' B' q _ (h'.below hb1 hB') (by omega) hn').mono ?_
      rintro e w2 ⟨rfl, hb2⟩
      rw [HQ.out]
      go_wp2_with fail
      go_ret2
      exact LC.nil_ HR.out HC.out (hb1.trans (hb2.mono hz1))
  · have HP := ordB_no hp
    have HR : Hid (comR p q = []) := by unfold comR; rw [if_neg (fun hh => hp hh.1)]; exact rfl
    have HC : Hid (comC p q = 1) := by unfold comC; rw [if_neg (fun hh => hp hh.1)]; exact rfl
    clear hp
    go_enter Try.func14, Try.ntmps14
    go_wp2_with fail
    refine (IsOrder_any A n c B p _ h hB hn).mono ?_
    rintro e w1 ⟨rfl, hb1⟩
    rw [HP.out]
    go_wp2_with fail
    go_ret2
    exact LC.nil_ HR.out HC.out hb1

set_option maxHeartbeats 1000000 in
theorem specCom_any (A A' : Option Addr) (n n' c c' B B' : Nat) (p q : List Int) (w : World) (h : Rd I w B A n p) (h' : Rd I w B' A' n' q) (hB : B ≤ w.heap.size) (hB' : B' ≤ w.heap.size) (hn : n ≤ 1048576) (hn' : n' ≤ 1048576) (hc : n ≤ c) (hc' : n' ≤ c') :
    Calls Try.prog 15 #[.slice A n c, .slice A' n' c'] w fun e w' => LC w (comR p q) (comC p q) e w' := by
  by_cases hp : isOrd p
  · by_cases hq : isOrd q
    · by_cases hl : n = n'
      · subst hl
        have HP := ordB_yes hp
        have HQ := ordB_yes hq
        have HR : Hid (comR p q = comL p q) := by unfold comR; rw [if_pos ⟨hp, hq, h.1.trans h'.1.symm⟩]; exact rfl
        have HC : Hid (comC p q = 0) := by unfold comC; rw [if_pos ⟨hp, hq⟩, if_pos (h.1.trans h'.1.symm)]; exact rfl
        have HO := Lib.hid hq
        have HL : Hid (q.length = n) := h'.1
        obtain ⟨i0, hi0, hz0, hz1', hz2'⟩ := info_parts infoI
        clear hp hq
        go_enter Try.func15, Try.ntmps15
        go_wp2_with fail
        refine (specIsOrder_any A n c B p _ h hn hc).mono ?_
        rintro e w1 ⟨rfl, hq1⟩
        rw [HP.out]
        have hz1 := hq1.le
        go_wp2_with fail
        refine (specIsOrder_any A' n c' B' q _ (h'.q hq1) hn hc').mono ?_
        rintro e w2 ⟨rfl, hq2⟩
        rw [HQ.out]
        have hz2 := hq2.le
        have hb2' : Below w.heap.size w w2 := (hq1.trans hq2).below _
        have hl0 := Own.lit0 I w2 2
        have hb3 : Below w.heap.size w (w2.alloc (.cells #[] 2)) := hb2'.alloc (by omega) _
        go_wp2_with fail
        go_loopw [6, 7] (fun v i wr => ∃ k : Nat, k ≤ n ∧ i = .int .i64 k ∧ (∃ A3 c3, v = .slice A3 k c3 ∧ Own I wr w2.heap.size wr.heap.size 2 (.slice A3 k c3) ((comL p q).take k)) ∧ Below w.heap.size w wr ∧ w2.heap.size ≤ wr.heap.size) (fun _ i _ => n - (intOf i).toNat)
        case atStart => exact ⟨0, Nat.zero_le _, rfl, ⟨_, _, rfl, by simpa using hl0.mono (Nat.le_refl _) (by simp)⟩, hb3, by simp⟩
        case round =>
          clear hl0 hb3
          obtain ⟨k, hk, rfl, ⟨A3, c3, rfl, ho⟩, hb, hsz⟩ := hrel
          by_cases hlt : k < n
          · obtain ⟨b', o', x, rfl, hbB', hx, hc'⟩ := (h'.below hb hB').at_ hlt
            have hr := ord_at q HO.out k x hx
            have hx0 := hr.1
            have hx1 : x < (n : Int) := by have := HL.out; omega
            clear hr
            obtain ⟨j, rfl⟩ := Int.eq_ofNat_of_zero_le hx0
            have hj : j < n := by omega
            obtain ⟨b, o, y, rfl, hbB, hy, hc⟩ := (h.below hb hB).at_ hj
            have HY : Hid ((comL p q)[k]? = some y) := comL_at p q k j y hx hy
            clear hx hy
            go_wp2_with (at_builtin; refine wp_push _ rfl _ _ 24 rfl 2 i0 _ 8 Try.underlying24 hi0 hz0 hz1' hz2' rfl A3 k c3 _ _ _ rfl ho y rfl rfl (by omega) (by omega) (by omega) ?_; intro A4 c4 w4 ho4 hm4)
            go_roundw
            case rel =>
              refine ⟨k + 1, by omega, by go_num, ⟨_, _, rfl, ?_⟩, hb.trans (hm4.below (by omega) (by omega)), Nat.le_trans hsz hm4.size⟩
              rw [take_next _ _ _ HY.out]
              exact ho4
            case measure => simp [intOf]; omega
          · obtain rfl : k = n := by omega
            go_wp2_with fail
            go_ret2
            have hle : (comL p q).length = k := by rw [comL_len]; exact HL.out
            rw [List.take_of_length_le (Nat.le_of_eq hle)] at ho
            exact LC.mk_ HR.out HC.out ho (by omega) (Nat.le_refl _) hn hb
      · have HP := ordB_yes hp
        have HQ := ordB_yes hq
        have hne : ¬ p.length = q.length := by rw [h.1, h'.1]; exact hl
        have HR : Hid (comR p q = []) := by unfold comR; rw [if_neg (fun hh => hne hh.2.2)]; exact rfl
        have HC : Hid (comC p q = 5) := by unfold comC; rw [if_pos ⟨hp, hq⟩, if_neg hne]; exact rfl
        have hl1 : ((n : Int) != (n' : Int)) = true := by simp; omega
        clear hp hq hne
        go_enter Try.func15, Try.ntmps15
        go_wp2_with fail
        refine (specIsOrder_any A n c B p _ h hn hc).mono ?_
        rintro e w1 ⟨rfl, hq1⟩
        rw [HP.out]
        go_wp2_with fail
        refine (specIsOrder_any A' n' c' B' q _ (h'.q hq1) hn' hc').mono ?_
        rintro e w2 ⟨rfl, hq2⟩
        rw [HQ.out]
        go_wp2_with fail
        go_ret2
        exact LC.nil_ HR.out HC.out ((hq1.trans hq2).below _)
    · have HP := ordB_yes hp
      have HQ := ordB_no hq
      have HR : Hid (comR p q = []) := by unfold comR; rw [if_neg (fun hh => hq hh.2.1)]; exact rfl
      have HC : Hid (comC p q = 1) := by unfold comC; rw [if_neg (fun hh => hq hh.2)]; exact rfl
      clear hp hq
      go_enter Try.func15, Try.ntmps15
      go_wp2_with fail
      refine (specIsOrder_any A n c B p _ h hn hc).mono ?_
      rintro e w1 ⟨rfl, hq1⟩
      rw [HP.out]
      go_wp2_with fail
      refine (specIsOrder_any A' n' c' B' q _ (h'.q hq1) hn' hc').mono ?_
      rintro e w2 ⟨rfl, hq2⟩
      rw [HQ.out]
      go_wp2_with fail
      go_ret2
      exact LC.nil_ HR.out HC.out ((hq1.trans hq2).below _)
  · have HP := ordB_no hp
    have HR : Hid (comR p q = []) := by unfold comR; rw [if_neg (fun hh => hp hh.1)]; exact rfl
    have HC : Hid (comC p q = 1) := by unfold comC; rw [if_neg (fun hh => hp hh.1)]; exact rfl
    clear hp
    go_enter Try.func15, Try.ntmps15
    go_wp2_with fail
    refine (specIsOrder_any A n c B p _ h hn hc).mono ?_
    rintro e w1 ⟨rfl, hq1⟩
    rw [HP.out]
    go_wp2_with fail
    go_ret2
    exact LC.nil_ HR.out HC.out (hq1.below _)
end Go.Proofs.Ytokljgdfhogcoaa
