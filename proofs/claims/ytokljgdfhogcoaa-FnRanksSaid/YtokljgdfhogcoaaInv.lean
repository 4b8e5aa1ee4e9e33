/- Contracts of InverseOrder and ComposeOrders, the model's and the program's: both answer invR, invC and comR, comC. -/
import Derived.Test.YtokljgdfhogcoaaOrd
namespace Go.Proofs.Ytokljgdfhogcoaa
open Go.RowKit

/-- A list and a code are handed back; the list is the call's own. -/
def LC (w : World) (R : List Int) (C : Int) (e : Ending) (w' : World) : Prop :=
  ∃ A n c, e = .returned (.tuple #[.slice A n c, .int .i64 C]) ∧ Own I w' w.heap.size w'.heap.size 2 (.slice A n c) R ∧ n ≤ 1048576 ∧ Below w.heap.size w w'
theorem LC.nil_ {w w' : World} {R : List Int} {C C' : Int} (hR : R = []) (hC : C = C') (hb : Below w.heap.size w w') : LC w R C (.returned (.tuple #[.slice none 0 0, .int .i64 C'])) w' := by
  subst hR hC
  exact ⟨none, 0, 0, rfl, Own.nil_, by omega, hb⟩
theorem LC.mk_ {w w' : World} {R R' : List Int} {C C' : Int} {A : Option Addr} {n c lo hi : Nat} (hR : R = R') (hC : C = C') (ho : Own I w' lo hi 2 (.slice A n c) R') (h1 : w.heap.size ≤ lo) (h2 : hi ≤ w'.heap.size) (hn : n ≤ 1048576) (hb : Below w.heap.size w w') :
    LC w R C (.returned (.tuple #[.slice A n c, .int .i64 C'])) w' := by
  subst hR hC
  exact ⟨A, n, c, rfl, ho.mono h1 h2, hn, hb⟩

def invTo (l : List Int) : Nat → List Int
  | 0 => List.replicate l.length 0
  | k + 1 => (invTo l k).set (l.getD k 0).toNat k
def invR (l : List Int) : List Int := if isOrd l then invTo l l.length else []
def invC (l : List Int) : Int := if isOrd l then 0 else 1
theorem invTo_len (l : List Int) (k : Nat) : (invTo l k).length = l.length := by
  induction k with
  | zero => simp [invTo]
  | succ k ih => simp [invTo, ih]
theorem invTo_next (l : List Int) (k j : Nat) (hx : l[k]? = some (j : Int)) : invTo l (k + 1) = (invTo l k).set j k := by
  simp [invTo, List.getD_eq_getElem?_getD, hx]
theorem ord_at (l : List Int) (h : isOrd l) (k : Nat) (x : Int) (hx : l[k]? = some x) : 0 ≤ x ∧ x < l.length := h.2.1 x (List.mem_of_getElem? hx)
theorem ord_iff (l : List Int) : isOrdB l = true ↔ isOrd l := by unfold isOrdB; simp

set_option maxHeartbeats 400000 in
theorem specInverse_any (A : Option Addr) (n c B : Nat) (l : List Int) (w : World) (h : Rd I w B A n l) (hB : B ≤ w.heap.size) (hn : n ≤ 1048576) (ho : isOrd l) :
    Calls Try.prog 41 #[.slice A n c] w fun e w' => ∃ g, e = .returned (.slice (some ⟨g, 0, none⟩) n n) ∧ Own I w' w.heap.size w'.heap.size 2 (.slice (some ⟨g, 0, none⟩) n n) (invTo l n) ∧ Below w.heap.size w w' := by
  obtain ⟨i0, hi0, hz0, hz1, hz2⟩ := info_parts infoI
  have HL : Hid (l.length = n) := h.1
  have HO := Lib.hid ho
  clear ho
  go_enter Try.func41, Try.ntmps41
  go_wp2_with (at_make; refine wp_fresh _ rfl _ _ 24 rfl 2 i0 (0 : Int) 8 Try.underlying24 hi0 hz0 hz1 hz2 rfl .i64 .i64 _ _ n rfl rfl rfl rfl (by omega) (by omega) ?_; intro g w1 ho1 hb1)
  have hs1 := hb1.size
  go_loopw [4] (fun i wr => ∃ k : Nat, k ≤ n ∧ i = .int .i64 k ∧ Own I wr w.heap.size w1.heap.size 2 (.slice (some ⟨g, 0, none⟩) n n) (invTo l k) ∧ Below w.heap.size w wr ∧ w1.heap.size ≤ wr.heap.size) (fun i _ => n - (intOf i).toNat)
  case atStart => exact ⟨0, Nat.zero_le _, rfl, (by rw [show invTo l 0 = List.replicate n 0 from by have := HL.out; simp [invTo, this]]; exact ho1), hb1, Nat.le_refl _⟩
  case round =>
    clear ho1
    obtain ⟨k, hk, rfl, ho, hb, hsz⟩ := hrel
    by_cases hlt : k < n
    · obtain ⟨b, o, x, rfl, hbB, hx, hc⟩ := (h.below hb hB).at_ hlt
      have hr := ord_at l HO.out k x hx
      have hx0 := hr.1
      have hx1 : x < (n : Int) := by have := HL.out; omega
      clear hr
      obtain ⟨j, rfl⟩ := Int.eq_ofNat_of_zero_le hx0
      have hj : j < n := by omega
      obtain ⟨g', y, hg, hg1, hg2, hg3, hy, hc2, hf2⟩ := ho.at_ hj
      injection hg with hg
      injection hg with hg _ _
      subst hg
      have hset := ho.set_ (k := j) (k : Int)
      have HX : Hid (l[k]? = some (j : Int)) := hx
      clear hx hy
      go_wp2
      go_roundw
      case rel =>
        refine ⟨k + 1, by omega, by go_num, ?_, hb.trans (hset.2.below (Nat.le_refl _) hb.size), Nat.le_trans hsz hset.2.size⟩
        rw [invTo_next l k j HX.out]
        exact hset.1
      case measure => simp [intOf]; omega
    · obtain rfl : k = n := by omega
      go_wp2
      go_ret
      exact ⟨g, rfl, ho.mono (Nat.le_refl _) hsz, hb⟩

set_option maxHeartbeats 400000 in
theorem implInverse_any (A : Option Addr) (n c B : Nat) (l : List Int) (w : World) (h : Rd I w B A n l) (hB : B ≤ w.heap.size) (hn : n ≤ 1048576) (ho : isOrd l) :
    Calls Try.prog 40 #[.slice A n c] w fun e w' => ∃ g, e = .returned (.slice (some ⟨g, 0, none⟩) n n) ∧ Own I w' w.heap.size w'.heap.size 2 (.slice (some ⟨g, 0, none⟩) n n) (invTo l n) ∧ Below w.heap.size w w' := by
  obtain ⟨i0, hi0, hz0, hz1, hz2⟩ := info_parts infoI
  have HL : Hid (l.length = n) := h.1
  have HO := Lib.hid ho
  clear ho
  go_enter Try.func40, Try.ntmps40
  go_wp2_with (at_make; refine wp_fresh _ rfl _ _ 46 rfl 2 i0 (0 : Int) 8 Try.underlying46 hi0 hz0 hz1 hz2 rfl .i64 .i64 _ _ n rfl rfl rfl rfl (by omega) (by omega) ?_; intro g w1 ho1 hb1)
  have hs1 := hb1.size
  go_loopw [4, 5, 11] (fun _ _ i wr => ∃ k : Nat, k ≤ n ∧ i = .int .i64 k ∧ Own I wr w.heap.size w1.heap.size 2 (.slice (some ⟨g, 0, none⟩) n n) (invTo l k) ∧ Below w.heap.size w wr ∧ w1.heap.size ≤ wr.heap.size) (fun _ _ i _ => n - (intOf i).toNat)
  case atStart => exact ⟨0, Nat.zero_le _, rfl, (by rw [show invTo l 0 = List.replicate n 0 from by have := HL.out; simp [invTo, this]]; exact ho1), hb1, Nat.le_refl _⟩
  case round =>
    clear ho1
    obtain ⟨k, hk, rfl, ho, hb, hsz⟩ := hrel
    by_cases hlt : k < n
    · obtain ⟨b, o, x, rfl, hbB, hx, hc⟩ := (h.below hb hB).at_ hlt
      have hr := ord_at l HO.out k x hx
      have hx0 := hr.1
      have hx1 : x < (n : Int) := by have := HL.out; omega
      clear hr
      obtain ⟨j, rfl⟩ := Int.eq_ofNat_of_zero_le hx0
      have hj : j < n := by omega
      obtain ⟨g', y, hg, hg1, hg2, hg3, hy, hc2, hf2⟩ := ho.at_ hj
      injection hg with hg
      injection hg with hg _ _
      subst hg
      have hset := ho.set_ (k := j) (k : Int)
      have HX : Hid (l[k]? = some (j : Int)) := hx
      clear hx hy
      go_wp2
      go_roundw
      case rel =>
        refine ⟨k + 1, by omega, by go_num, ?_, hb.trans (hset.2.below (Nat.le_refl _) hb.size), Nat.le_trans hsz hset.2.size⟩
        rw [invTo_next l k j HX.out]
        exact hset.1
      case measure => simp [intOf]; omega
    · obtain rfl : k = n := by omega
      go_wp2
      go_ret
      exact ⟨g, rfl, ho.mono (Nat.le_refl _) hsz, hb⟩

theorem specInv_any (A : Option Addr) (n c B : Nat) (l : List Int) (w : World) (h : Rd I w B A n l) (hB : B ≤ w.heap.size) (hn : n ≤ 1048576) (hc : n ≤ c) :
    Calls Try.prog 17 #[.slice A n c] w fun e w' => LC w (invR l) (invC l) e w' := by
  by_cases ho : isOrd l
  · have HT : Hid (isOrdB l = true) := (ord_iff l).2 ho
    have HR : Hid (invR l = invTo l n) := by have := h.1; unfold invR; rw [if_pos ho, this]; exact rfl
    have HC : Hid (invC l = 0) := by unfold invC; rw [if_pos ho]; exact rfl
    have HO := Lib.hid ho
    clear ho
    go_enter Try.func17, Try.ntmps17
    go_wp2_with fail
    refine (specIsOrder_any A n c B l _ h hn hc).mono ?_
    rintro e w1 ⟨rfl, hq⟩
    rw [HT.out]
    go_wp2_with fail
    refine (specInverse_any A n c B l _ (h.q hq) (by have := hq.le; omega) hn HO.out).mono ?_
    rintro e w2 ⟨g, rfl, ho2, hb2⟩
    go_wp2_with fail
    go_ret2
    exact LC.mk_ HR.out HC.out ho2 hq.le (Nat.le_refl _) hn ((hq.below _).trans (hb2.mono hq.le))
  · have HT : Hid (isOrdB l = false) := by have := ord_iff l; cases hb : isOrdB l <;> simp_all [Hid]
    have HR : Hid (invR l = []) := by unfold invR; rw [if_neg ho]; exact rfl
    have HC : Hid (invC l = 1) := by unfold invC; rw [if_neg ho]; exact rfl
    clear ho
    go_enter Try.func17, Try.ntmps17
    go_wp2_with fail
    refine (specIsOrder_any A n c B l _ h hn hc).mono ?_
    rintro e w1 ⟨rfl, hq⟩
    rw [HT.out]
    go_wp2_with fail
    go_ret2
    exact LC.nil_ HR.out HC.out (hq.below _)

theorem implInv_any (A : Option Addr) (n c B : Nat) (l : List Int) (w : World) (h : Rd I w B A n l) (hB : B ≤ w.heap.size) (hn : n ≤ 1048576) :
    Calls Try.prog 16 #[.slice A n c] w fun e w' => LC w (invR l) (invC l) e w' := by
  by_cases ho : isOrd l
  · have HT : Hid (isOrdB l = true) := (ord_iff l).2 ho
    have HR : Hid (invR l = invTo l n) := by have := h.1; unfold invR; rw [if_pos ho, this]; exact rfl
    have HC : Hid (invC l = 0) := by unfold invC; rw [if_pos ho]; exact rfl
    have HO := Lib.hid ho
    clear ho
    go_enter Try.func16, Try.ntmps16
    go_wp2_with fail
    refine (IsOrder_any A n c B l _ h hB hn).mono ?_
    rintro e w1 ⟨rfl, hb1⟩
    rw [HT.out]
    go_wp2_with fail
    refine (implInverse_any A n c B l _ (h.below hb1 hB) (by have := hb1.size; omega) hn HO.out).mono ?_
    rintro e w2 ⟨g, rfl, ho2, hb2⟩
    go_wp2_with fail
    go_ret2
    exact LC.mk_ HR.out HC.out ho2 hb1.size (Nat.le_refl _) hn (hb1.trans (hb2.mono hb1.size))
  · have HT : Hid (isOrdB l = false) := by have := ord_iff l; cases hb : isOrdB l <;> simp_all [Hid]
    have HR : Hid (invR l = []) := by unfold invR; rw [if_neg ho]; exact rfl
    have HC : Hid (invC l = 1) := by unfold invC; rw [if_neg ho]; exact rfl
    clear ho
    go_enter Try.func16, Try.ntmps16
    go_wp2_with fail
    refine (IsOrder_any A n c B l _ h hB hn).mono ?_
    rintro e w1 ⟨rfl, hb1⟩
    rw [HT.out]
    go_wp2_with fail
    go_ret2
    exact LC.nil_ HR.out HC.out hb1
end Go.Proofs.Ytokljgdfhogcoaa
