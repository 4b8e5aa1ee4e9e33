/- Contracts of the two functions that tell whether a list is an order: the model's and the program's. Both answer isOrd. -/
import Derived.Test.YtbhofhobnbhhhaaDoorIn
import Derived.WalkSpells
namespace Go.Proofs.YtbhofhobnbhhhaaDoor
open Go.RowKit

/-- A list is an order: at most 64 numbers, each of 0 to length - 1 once. -/
def inRange (l : List Int) (n : Nat) : Prop := ∀ x ∈ l, 0 ≤ x ∧ x < (n : Int)
def isOrd (l : List Int) : Prop := l.length ≤ 64 ∧ inRange l l.length ∧ l.Nodup
instance (l : List Int) (n : Nat) : Decidable (inRange l n) := by unfold inRange; exact inferInstance
instance (l : List Int) : Decidable (isOrd l) := by unfold isOrd; exact inferInstance
def isOrdB (l : List Int) : Bool := decide (isOrd l)

theorem nodup_next (l : List Int) (k : Nat) (x : Int) (hx : l[k]? = some x) (h : (l.take k).Nodup) (hn : x ∉ l.take k) : (l.take (k + 1)).Nodup := by
  rw [take_next l k x hx, List.nodup_append]
  exact ⟨h, by simp, fun a ha b hb => by simp at hb; subst hb; rintro rfl; exact hn ha⟩
theorem range_next (l : List Int) (n k : Nat) (x : Int) (hx : l[k]? = some x) (h : inRange (l.take k) n) (h0 : 0 ≤ x) (h1 : x < n) : inRange (l.take (k + 1)) n := by
  rw [take_next l k x hx]
  intro y hy
  rcases List.mem_append.1 hy with hy | hy
  · exact h y hy
  · simp at hy; subst hy; exact ⟨h0, h1⟩
theorem not_ord_range (l : List Int) (k : Nat) (x : Int) (hx : l[k]? = some x) (h : x < 0 ∨ (l.length : Int) ≤ x) : isOrdB l = false := by
  refine decide_eq_false fun ⟨_, hr, _⟩ => ?_
  have := hr x (List.mem_of_getElem? hx)
  omega
theorem not_ord_dup (l : List Int) (k : Nat) (x : Int) (hx : l[k]? = some x) (h : x ∈ l.take k) : isOrdB l = false := by
  refine decide_eq_false fun ⟨_, _, hd⟩ => ?_
  have hs : l = l.take k ++ l.drop k := (List.take_append_drop k l).symm
  rw [hs, List.nodup_append] at hd
  refine hd.2.2 x h x ?_ rfl
  exact List.mem_of_getElem? (i := 0) (by rw [List.getElem?_drop]; simpa using hx)
theorem ord_end (l : List Int) (hr : inRange (l.take l.length) l.length) (hd : (l.take l.length).Nodup) : isOrdB l = decide (l.length ≤ 64) := by
  rw [List.take_length] at hr hd
  unfold isOrdB isOrd
  simp [hr, hd]

theorem Rd.take {α : Type} {enc : α → Value} {w : World} {B n k : Nat} {A : Option Addr} {l : List α} (h : Rd enc w B A n l) (hk : k ≤ n) : Rd enc w B A k (l.take k) := by
  refine ⟨by rw [List.length_take, h.1]; omega, fun hp => ?_⟩
  obtain ⟨b, o, e, hb, hc⟩ := h.2 (by omega)
  refine ⟨b, o, e, hb, fun j x hx => hc j x ?_⟩
  rw [List.getElem?_take] at hx
  split at hx
  · exact hx
  · cases hx

end Go.Proofs.YtbhofhobnbhhhaaDoor
