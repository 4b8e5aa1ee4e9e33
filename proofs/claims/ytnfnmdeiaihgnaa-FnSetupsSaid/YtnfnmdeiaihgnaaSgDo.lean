/- Contracts of the draws of orders: lists of whatever numbers, the call's own. -/
import Derived.Test.YtnfnmdeiaihgnaaSpread
import Derived.Test.YtnfnmdeiaihgnaaSrc
import Derived.Test.YtnfnmdeiaihgnaaOrd2
namespace Go.Proofs.Ytnfnmdeiaihgnaa
open Go.RowKit

section
variable {α : Type} {enc : α → Value} {w w1 w2 : World} {lo hi a b B n c : Nat} {A : Option Addr} {l : List α} {e : TypeId}
theorem Only.then_below (h : Only a b w w1) (k : Below B w1 w2) (hB : w.heap.size ≤ B) : Only a b w w2 :=
  ⟨k.os.trans h.os, k.tape.trans h.tape, k.output.trans h.output, Nat.le_trans h.size k.size, fun i hi' hne => (k.block i (by omega)).trans (h.block i hi' hne)⟩
theorem Only.then_only (h : Only a b w w1) (k : Only lo hi w1 w2) (hlo : w.heap.size ≤ lo) : Only a b w w2 :=
  ⟨k.os.trans h.os, k.tape.trans h.tape, k.output.trans h.output, Nat.le_trans h.size k.size, fun i hi' hne => (k.block i (Nat.lt_of_lt_of_le hi' h.size) (.inl (by omega))).trans (h.block i hi' hne)⟩
theorem Only.then_alloc (h : Only a b w w1) (o : Obj) : Only a b w (w1.alloc o) := h.then_below ((Below.refl w1.heap.size w1).alloc (Nat.le_refl _) o) h.size
theorem Own.some_ (h : Own enc w lo hi e (.slice A n c) l) (hn : 0 < n) : ∃ g, A = some ⟨g, 0, none⟩ ∧ lo ≤ g ∧ g < hi := by
  obtain ⟨g, _, hA, h1, h2, _⟩ := h.at_ hn
  exact ⟨g, hA, h1, h2⟩
theorem Own.cap (h : Own enc w lo hi e (.slice A n c) l) : n ≤ c := by
  obtain ⟨_, _, hv, hc⟩ := h.form
  have hn := h.rd.1
  injection hv with _ h2 h3
  omega
/-- The rest of a slice from q on: where it ends at its capacity the address is kept. -/
theorem Rd.tail {g q : Nat} (h : Rd enc w B (some ⟨g, 0, none⟩) n l) (hq : q ≤ n) (hc : n ≤ c) :
    ∃ A2 : Option Addr, (if c = q then (some ⟨g, 0, none⟩ : Option Addr) else some ⟨g, q, none⟩) = A2 ∧ Rd enc w B A2 (n - q) (l.drop q) := by
  by_cases e : c = q
  · refine ⟨_, rfl, ?_⟩
    rw [if_pos e]
    exact ⟨by rw [List.length_drop, h.1], fun hp => by omega⟩
  · refine ⟨_, rfl, ?_⟩
    rw [if_neg e]
    refine ⟨by rw [List.length_drop, h.1], fun hp => ?_⟩
    obtain ⟨b, o, e, hb, hcell⟩ := h.2 (by omega)
    injection e with e
    injection e with e1 e2 _
    subst e1 e2
    refine ⟨g, q, rfl, hb, fun j x hx => ?_⟩
    rw [List.getElem?_drop] at hx
    have := hcell (q + j) x hx
    rwa [Nat.zero_add] at this
end

theorem oneI (y : Int) : (I y).oneCell' = true := rfl

set_option maxHeartbeats 400000 in
theorem l01Own_any (A : Option Addr) (n c B : Nat) (l : List Int) (w : World) (h : Rd I w B A n l) (hB : B ≤ w.heap.size) (hn : n ≤ 1048576) :
    Calls Try.prog 99 #[.slice A n c] w fun e w' => ∃ A' c', e = .returned (.slice A' n c') ∧ Own I w' w.heap.size w'.heap.size 2 (.slice A' n c') l ∧ Below w.heap.size w w' := by
  obtain ⟨i0, hi0, hz0, hz1, hz2⟩ := info_parts infoI
  have hl0 := Own.lit0 I w 2
  have hb0 : Below w.heap.size w (w.alloc (.cells #[] 2)) := (Below.refl _ _).alloc (Nat.le_refl _) _
  have hr := h.alloc hB (.cells #[] 2)
  go_enter Try.func99, Try.ntmps99
  go_wp2_with (at_builtin; refine wp_spread _ rfl _ _ 43 rfl 2 i0 _ 8 Try.underlying43 hi0 hz0 hz1 hz2 rfl _ 0 0 _ _ _ rfl hl0 A n c _ _ rfl hr oneI (by omega) (by omega) (by simp) ?_; intro A4 c4 w4 ho4 hm4)
  go_ret
  exact ⟨A4, c4, rfl, by simpa using ho4, hb0.trans (hm4.below (Nat.le_refl _) (by simp))⟩

def ListP (w : World) (g N C : Nat) (A : Option Addr) (m : Nat) (e : Ending) (w' : World) : Prop :=
  ∃ A' n c l, e = .returned (.slice A' n c) ∧ n ≤ m ∧ Own I w' w.heap.size w'.heap.size 2 (.slice A' n c) l ∧ Src w' g A N C ∧ Only g (g + 1) w w'

set_option maxRecDepth 100000 in
set_option maxHeartbeats 4000000 in
theorem l01DrawOf_any (g N C B m : Nat) (A : Option Addr) (lc : List Int) (w : World) (hs : Src w g A N C) (hc : Rd U w B A N lc) (hl : inByte lc) (hB : B ≤ g) (hN : N ≤ 1048576) (hm : m ≤ 1000) :
    Calls Try.prog 68 #[.pointer (some ⟨g, 0, none⟩), .int .i64 m] w fun e w' => ListP w g N C A m e w' := by
  obtain ⟨i0, hi0, hz0, hz1, hz2⟩ := info_parts infoI
  have hlt := hs.lt
  have hl0 := Own.lit0 I w 2
  have hO0 : Only g (g + 1) w (w.alloc (.cells #[] 2)) := (Only.refl _ _ _).then_alloc _
  have hs0 := hs.only hO0
  have hsrc0 : Src (w.alloc (.cells #[] 2)) g A N C := hs.below ((Below.refl w.heap.size w).alloc (Nat.le_refl _) _) hlt
  clear hs0
  go_enter Try.func68, Try.ntmps68
  go_wp2_with fail
  go_loopw [5, 6, 7] (fun v i _ wr => ∃ k : Nat, k ≤ m ∧ i = .int .i64 k ∧ (∃ g' c l, v = .slice (some ⟨g', 0, none⟩) k c ∧ Own I wr w.heap.size wr.heap.size 2 (.slice (some ⟨g', 0, none⟩) k c) l) ∧ Src wr g A N C ∧ Only g (g + 1) w wr) (fun _ i _ _ => m - (intOf i).toNat)
  case atStart => exact ⟨0, Nat.zero_le _, rfl, ⟨_, _, _, rfl, hl0.mono (Nat.le_refl _) (by simp)⟩, hsrc0, hO0⟩
  case round =>
    clear hl0 hO0 hsrc0
    obtain ⟨k, hk, rfl, ⟨g', c, l, rfl, ho⟩, hsr, hO⟩ := hrel
    have hzr := hO.size
    by_cases hlt2 : k < m
    · go_wp2_with fail
      refine (l01Next_any g N C B A lc _ _ hsr (hc.only hO (by omega) (by omega)) hl hB hN (by omega)).mono ?_
      rintro e w1 ⟨v, rfl, hv0, hv1, _, hs1, ho1⟩
      have hv1' := hv1 (by omega)
      obtain ⟨q, rfl⟩ := Int.eq_ofNat_of_zero_le hv0
      have hqk : q ≤ k := by omega
      have hz1r := ho1.size
      have hO1 := hO.trans ho1
      have hol := ho.only ho1 (.inr (by omega))
      have hcap := hol.cap
      have hT := (hol.rd.take hqk).more hz1r
      obtain ⟨A2, hA2, hD0⟩ := Rd.tail (c := c) hol.rd hqk hcap
      have hD := hD0.more hz1r
      have q1 : (0 : Int) ≤ (q : Int) := by omega
      have q2 : (q : Int) ≤ (k : Int) := by omega
      have q3 : q ≤ c := by omega
      have hDd : Rd I w1.drew w1.heap.size A2 (k - q) (l.drop q) := hD
      have hTd : Rd I w1.drew w1.heap.size (some ⟨g', 0, none⟩) q (l.take q) := hT
      clear hv1 hD0
      go_wp2_with fail
      go_region_law (first
        | ((refine step_spread _ rfl (.tmp 21) (.tmp 23) 43 rfl 2 i0 (.int .i64 0) 8 Try.underlying43 hi0 hz0 hz1 hz2 rfl A5 q c5 (l.take q) _ _ (by rfl) (by first | exact ho5.alloc _ | exact ho5) _ 1 1 _ [(k : Int)] (by rfl) (by first | exact Rd.lit I _ _ [(k : Int)] | exact (Rd.lit I w1.drew _ [(k : Int)]).below hb5 (by simp)) oneI (by omega) (by omega) (by have hz5 := hb5.size; simp at hz5 ⊢; omega) ?_); intro A6 c6 w3 ho6 hm6)
        | (go_simp; go_at_call 99; refine (l01Own_any _ q _ _ (l.take q) _ (by first | exact hTd | exact hTd.alloc (Nat.le_refl _) _) (by simp) (by omega)).mono ?_; rintro e w2 ⟨A5, c5, rfl, ho5, hb5⟩)
        | ((refine step_spread _ rfl (.tmp 24) (.tmp 27) 43 rfl 2 i0 (.int .i64 0) 8 Try.underlying43 hi0 hz0 hz1 hz2 rfl A6 (q + 1) c6 (l.take q ++ [(k : Int)]) _ _ (by rfl) (by exact ho6) A2 (k - q) _ _ (l.drop q) (by rfl) (by first | exact ((hDd.below hb5 (Nat.le_refl _)).alloc hb5.size _).only hm6 (Nat.le_refl _) (by have hz5 := hb5.size; simp at hz5 ⊢; omega) | exact ((hDd.alloc (Nat.le_refl _) _).below hb5 (by simp)).only hm6 (by simp) (by have hz5 := hb5.size; simp at hz5; omega)) oneI (by omega) (by omega) (by have hz5 := hb5.size; have hz6 := hm6.size; simp at hz5 hz6 ⊢; omega) ?_); intro A7 c7 w4 ho7 hm7))
      all_goals
        have hz5 := hb5.size
        have hz6 := hm6.size
        have hz7 := hm7.size
        simp at hz5 hz6 hz7
        have hbl : Below w1.heap.size w1.drew w4 := by
          first
            | exact ((hb5.alloc hb5.size _).trans (hm6.below (B := w1.heap.size) (by simp) (by simp; omega))).trans (hm7.below (B := w1.heap.size) (by simp) (by omega))
            | exact ((((Below.refl w1.heap.size w1.drew).alloc (Nat.le_refl _) _).trans (hb5.mono (by simp))).trans (hm6.below (B := w1.heap.size) (by simp) (by omega))).trans (hm7.below (B := w1.heap.size) (by simp) (by omega))
        have e1 : q + 1 + (k - q) = k + 1 := by omega
        rw [e1] at ho7 ⊢
        obtain ⟨g7, rfl, hg7, _⟩ := ho7.some_ (by omega)
        have hs4 : Src w4 g A N C := (show Src w1.drew g A N C from hs1).below hbl hs1.lt
        have hO4 : Only g (g + 1) w w4 := hO1.drew.then_below hbl (by omega)
        have ho8 := ho7.mono (lo' := w.heap.size) (by simp; omega) (Nat.le_refl _)
        clear e1 ho5 ho6 ho7 hb5 hm6 hm7 hbl hD hDd hT hTd hol ho hA2
        go_wp2_with fail
        go_roundw
        case rel => exact ⟨k + 1, by omega, by go_num, ⟨_, _, _, rfl, ho8⟩, hs4, hO4⟩
        case measure => simp [intOf]; omega
    · obtain rfl : k = m := by omega
      go_wp2_with fail
      go_ret
      exact ⟨_, _, _, _, rfl, Nat.le_refl _, ho, hsr, hO⟩
end Go.Proofs.Ytnfnmdeiaihgnaa
