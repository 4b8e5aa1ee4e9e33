/- Contracts of the draws of orders: lists of whatever numbers, the call's own. -/
import Derived.Test.YtbhkpjjedeinpaaSpread
import Derived.Test.YtbhkpjjedeinpaaSrc
import Derived.Test.YtbhkpjjedeinpaaOrd2
namespace Go.Proofs.Ytbhkpjjedeinpaa
open Go.RowKit

section
variable {α : Type} {enc : α → Value} {w w1 w2 : World} {lo hi a b B n c : Nat} {A : Option Addr} {l : List α} {e : TypeId}
theorem Only.then_below (h : Only a b w w1) (k : Below B w1 w2) (hB : w.heap.size ≤ B) : Only a b w w2 :=
  ⟨k.os.trans h.os, k.tape.trans h.tape, k.output.trans h.output, Nat.le_trans h.size k.size, fun i hi' hne => (k.block i (by omega)).trans (h.block i hi' hne)⟩
theorem Only.then_only (h : Only a b w w1) (k : Only lo hi w1 w2) (hlo : w.heap.size ≤ lo) : Only a b w w2 :=
  ⟨k.os.trans h.os, k.tape.trans h.tape, k.output.trans h.output, Nat.le_trans h.size k.size, fun i hi' hne => (k.block i (Nat.lt_of_lt_of_le hi' h.size) (.inl (by omega))).trans (h.block i hi' hne)⟩
theorem Only.then_alloc (h : Only a b w w1) (o : Obj) : Only a b w (w1.alloc o) := h.then_below ((Below.refl w1.heap.size w1).alloc (Nat.le_refl _) o) h.size
theorem Own.some_ (h : Own enc w lo hi e (.slice A n c) l) (hn : 0 < n) : ∃ g, A = some ⟨g, 0, none⟩ ∧ lo ≤ g ∧ g < hi := by
  obtain ⟨g, _, hA, h1, h2, _⟩ := h.at_ hn
  exact ⟨g, hA, h1, h2⟩
theorem Own.cap (h : Own enc w lo hi e (.slice A n c) l) : n ≤ c := by
  obtain ⟨_, _, hv, hc⟩ := h.form
  have hn := h.rd.1
  injection hv with _ h2 h3
  omega
/-- The rest of a slice from q on: where it ends at its capacity the address is kept. -/
theorem Rd.tail {g q : Nat} (h : Rd enc w B (some ⟨g, 0, none⟩) n l) (hq : q ≤ n) (hc : n ≤ c) :
    ∃ A2 : Option Addr, (if c = q then (some ⟨g, 0, none⟩ : Option Addr) else some ⟨g, q, none⟩) = A2 ∧ Rd enc w B A2 (n - q) (l.drop q) := by
  by_cases e : c = q
  · refine ⟨_, rfl, ?_⟩
    rw [if_pos e]
    exact ⟨by rw [List.length_drop, h.1], fun hp => by omega⟩
  · refine ⟨_, rfl, ?_⟩
    rw [if_neg e]
    refine ⟨by rw [List.length_drop, h.1], fun hp => ?_⟩
    obtain ⟨b, o, e, hb, hcell⟩ := h.2 (by omega)
    injection e with e
    injection e with e1 e2 _
    subst e1 e2
    refine ⟨g, q, rfl, hb, fun j x hx => ?_⟩
    rw [List.getElem?_drop] at hx
    have := hcell (q + j) x hx
    rwa [Nat.zero_add] at this
end

theorem oneI (y : Int) : (I y).oneCell' = true := rfl

set_option maxHeartbeats 400000 in
theorem l01Own_any (A : Option Addr) (n c B : Nat) (l : List Int) (w : World) (h : Rd I w B A n l) (hB : B ≤ w.heap.size) (hn : n ≤ 1048576) :
    Calls Try.prog 45 #[.slice A n c] w fun e w' => ∃ A' c', e = .returned (.slice A' n c') ∧ Own I w' w.heap.size w'.heap.size 2 (.slice A' n c') l ∧ Below w.heap.size w w' := by
  obtain ⟨i0, hi0, hz0, hz1, hz2⟩ := info_parts infoI
  have hl0 := Own.lit0 I w 2
  have hb0 : Below w.heap.size w (w.alloc (.cells #[] 2)) := (Below.refl _ _).alloc (Nat.le_refl _) _
  have hr := h.alloc hB (.cells #[] 2)
  go_enter Try.func45, Try.ntmps45
  go_wp2_with (at_builtin; refine wp_spread _ rfl _ _ 24 rfl 2 i0 _ 8 Try.underlying24 hi0 hz0 hz1 hz2 rfl _ 0 0 _ _ _ rfl hl0 A n c _ _ rfl hr oneI (by omega) (by omega) (by simp) ?_; intro A4 c4 w4 ho4 hm4)
  go_ret
  exact ⟨A4, c4, rfl, by simpa using ho4, hb0.trans (hm4.below (Nat.le_refl _) (by simp))⟩

def ListP (w : World) (g N C : Nat) (A : Option Addr) (m : Nat) (e : Ending) (w' : World) : Prop :=
  ∃ A' n c l, e = .returned (.slice A' n c) ∧ n ≤ m ∧ Own I w' w.heap.size w'.heap.size 2 (.slice A' n c) l ∧ Src w' g A N C ∧ Only g (g + 1) w w'

end Go.Proofs.Ytbhkpjjedeinpaa
