/- Contracts of the draws of orders: lists of whatever numbers, the call's own. -/
import Derived.Test.YtbhofhobnbhhhaaDoorSpread
import Derived.Test.YtbhofhobnbhhhaaDoorSrc
import Derived.Test.YtbhofhobnbhhhaaDoorOrd2
namespace Go.Proofs.YtbhofhobnbhhhaaDoor
open Go.RowKit

section
variable {α : Type} {enc : α → Value} {w w1 w2 : World} {lo hi a b B n c : Nat} {A : Option Addr} {l : List α} {e : TypeId}
theorem Only.then_below (h : Only a b w w1) (k : Below B w1 w2) (hB : w.heap.size ≤ B) : Only a b w w2 :=
  ⟨k.os.trans h.os, k.tape.trans h.tape, k.output.trans h.output, Nat.le_trans h.size k.size, fun i hi' hne => (k.block i (by omega)).trans (h.block i hi' hne)⟩
theorem Only.then_only (h : Only a b w w1) (k : Only lo hi w1 w2) (hlo : w.heap.size ≤ lo) : Only a b w w2 :=
  ⟨k.os.trans h.os, k.tape.trans h.tape, k.output.trans h.output, Nat.le_trans h.size k.size, fun i hi' hne => (k.block i (Nat.lt_of_lt_of_le hi' h.size) (.inl (by omega))).trans (h.block i hi' hne)⟩
theorem Only.then_alloc (h : Only a b w w1) (o : Obj) : Only a b w (w1.alloc o) := h.then_below ((Below.refl w1.heap.size w1).alloc (Nat.le_refl _) o) h.size
theorem Own.some_ (h : Own enc w lo hi e (.slice A n c) l) (hn : 0 < n) : ∃ g, A = some ⟨g, 0, none⟩ ∧ lo ≤ g ∧ g < hi := by
  obtain ⟨g, _, hA, h1, h2, _⟩ := h.at_ hn
  exact ⟨g, hA, h1, h2⟩
theorem Own.cap (h : Own enc w lo hi e (.slice A n c) l) : n ≤ c := by
  obtain ⟨_, _, hv, hc⟩ := h.form
  have hn := h.rd.1
  injection hv with _ h2 h3
  omega
/-- The rest of a slice from q on: where it ends at its capacity the address is kept. -/
theorem Rd.tail {g q : Nat} (h : Rd enc w B (some ⟨g, 0, none⟩) n l) (hq : q ≤ n) (hc : n ≤ c) :
    ∃ A2 : Option Addr, (if c = q then (some ⟨g, 0, none⟩ : Option Addr) else some ⟨g, q, none⟩) = A2 ∧ Rd enc w B A2 (n - q) (l.drop q) := by
  by_cases e : c = q
  · refine ⟨_, rfl, ?_⟩
    rw [if_pos e]
    exact ⟨by rw [List.length_drop, h.1], fun hp => by omega⟩
  · refine ⟨_, rfl, ?_⟩
    rw [if_neg e]
    refine ⟨by rw [List.length_drop, h.1], fun hp => ?_⟩
    obtain ⟨b, o, e, hb, hcell⟩ := h.2 (by omega)
    injection e with e
    injection e with e1 e2 _
    subst e1 e2
    refine ⟨g, q, rfl, hb, fun j x hx => ?_⟩
    rw [List.getElem?_drop] at hx
    have := hcell (q + j) x hx
    rwa [Nat.zero_add] at this
end

theorem oneI (y : Int) : (I y).oneCell' = true := rfl

def ListP (w : World) (g N C : Nat) (A : Option Addr) (m : Nat) (e : Ending) (w' : World) : Prop :=
  ∃ A' n c l, e = .returned (.slice A' n c) ∧ n ≤ m ∧ Own I w' w.heap.size w'.heap.size 2 (.slice A' n c) l ∧ Src w' g A N C ∧ Only g (g + 1) w w'

end Go.Proofs.YtbhofhobnbhhhaaDoor
