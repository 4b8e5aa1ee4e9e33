/- Contracts of the two functions that tell whether a list is an order: the model's and the program's. Both answer isOrd. -/
import Derived.Test.YtilfmnffdloneaaIn
import Derived.WalkSpells
namespace Go.Proofs.Ytilfmnffdloneaa
open Go.RowKit

set_option maxHeartbeats 400000 in
theorem l01Has_any (A : Option Addr) (n c B : Nat) (y : Int) (l : List Int) (w : World) (h : Rd I w B A n l) (hn : n ≤ 1048576) :
    Calls Try.prog 75 #[.slice A n c, .int .i64 y] w fun e w' => e = .returned (.bool (decide (y ∈ l))) ∧ w = w' := by
  have HL : Hid (l.length = n) := h.1
  go_enter Try.func75, Try.ntmps75
  go_wp2
  go_loop [5] (fun i => ∃ k : Nat, k ≤ n ∧ i = .int .i64 k ∧ Hid (y ∉ l.take k)) (fun i => n - (intOf i).toNat)
  case atStart => exact ⟨0, Nat.zero_le _, rfl, (by simp : y ∉ l.take 0)⟩
  case round =>
    obtain ⟨k, hk, rfl, hno⟩ := hrel
    by_cases hlt : k < n
    · obtain ⟨b, o, x, rfl, hbB, hx, hc⟩ := h.at_ hlt
      have HX : Hid (l[k]? = some x) := hx
      clear hx
      by_cases hxy : x = y
      · subst hxy
        go_wp2
        go_ret
        exact ⟨ret_b (decide_eq_true (List.mem_of_getElem? HX.out)).symm, rfl⟩
      · have hne : (x == y) = false := by simpa using hxy
        go_wp2
        go_round
        case rel =>
          refine ⟨k + 1, by omega, by go_num, ?_⟩
          have h1 := hno.out
          show y ∉ l.take (k + 1)
          rw [take_next l k x HX.out, List.mem_append]
          rintro (hh | hh)
          · exact h1 hh
          · exact hxy (List.mem_singleton.1 hh).symm
        case measure => simp [intOf]; omega
    · obtain rfl : k = n := by omega
      go_wp2
      go_ret
      have h1 := hno.out
      have h2 := HL.out
      rw [List.take_of_length_le (Nat.le_of_eq h2)] at h1
      exact ⟨ret_b (decide_eq_false h1).symm, rfl⟩

theorem l01Has_yes (A : Option Addr) (n c B : Nat) (y : Int) (l : List Int) (w : World) (h : Rd I w B A n l) (hn : n ≤ 1048576) (hm : y ∈ l) :
    Calls Try.prog 75 #[.slice A n c, .int .i64 y] w fun e w' => e = .returned (.bool true) ∧ w = w' :=
  (l01Has_any A n c B y l w h hn).mono fun _ _ ⟨he, hw⟩ => ⟨by rw [he, decide_eq_true hm], hw⟩
theorem l01Has_no (A : Option Addr) (n c B : Nat) (y : Int) (l : List Int) (w : World) (h : Rd I w B A n l) (hn : n ≤ 1048576) (hm : y ∉ l) :
    Calls Try.prog 75 #[.slice A n c, .int .i64 y] w fun e w' => e = .returned (.bool false) ∧ w = w' :=
  (l01Has_any A n c B y l w h hn).mono fun _ _ ⟨he, hw⟩ => ⟨by rw [he, decide_eq_false hm], hw⟩

/-- A list is an order: at most 64 numbers, each of 0 to length - 1 once. -/
def inRange (l : List Int) (n : Nat) : Prop := ∀ x ∈ l, 0 ≤ x ∧ x < (n : Int)
def isOrd (l : List Int) : Prop := l.length ≤ 64 ∧ inRange l l.length ∧ l.Nodup
instance (l : List Int) (n : Nat) : Decidable (inRange l n) := by unfold inRange; exact inferInstance
instance (l : List Int) : Decidable (isOrd l) := by unfold isOrd; exact inferInstance
def isOrdB (l : List Int) : Bool := decide (isOrd l)

theorem nodup_next (l : List Int) (k : Nat) (x : Int) (hx : l[k]? = some x) (h : (l.take k).Nodup) (hn : x ∉ l.take k) : (l.take (k + 1)).Nodup := by
  rw [take_next l k x hx, List.nodup_append]
  exact ⟨h, by simp, fun a ha b hb => by simp at hb; subst hb; rintro rfl; exact hn ha⟩
theorem range_next (l : List Int) (n k : Nat) (x : Int) (hx : l[k]? = some x) (h : inRange (l.take k) n) (h0 : 0 ≤ x) (h1 : x < n) : inRange (l.take (k + 1)) n := by
  rw [take_next l k x hx]
  intro y hy
  rcases List.mem_append.1 hy with hy | hy
  · exact h y hy
  · simp at hy; subst hy; exact ⟨h0, h1⟩
theorem not_ord_range (l : List Int) (k : Nat) (x : Int) (hx : l[k]? = some x) (h : x < 0 ∨ (l.length : Int) ≤ x) : isOrdB l = false := by
  refine decide_eq_false fun ⟨_, hr, _⟩ => ?_
  have := hr x (List.mem_of_getElem? hx)
  omega
theorem not_ord_dup (l : List Int) (k : Nat) (x : Int) (hx : l[k]? = some x) (h : x ∈ l.take k) : isOrdB l = false := by
  refine decide_eq_false fun ⟨_, _, hd⟩ => ?_
  have hs : l = l.take k ++ l.drop k := (List.take_append_drop k l).symm
  rw [hs, List.nodup_append] at hd
  refine hd.2.2 x h x ?_ rfl
  exact List.mem_of_getElem? (i := 0) (by rw [List.getElem?_drop]; simpa using hx)
theorem ord_end (l : List Int) (hr : inRange (l.take l.length) l.length) (hd : (l.take l.length).Nodup) : isOrdB l = decide (l.length ≤ 64) := by
  rw [List.take_length] at hr hd
  unfold isOrdB isOrd
  simp [hr, hd]

theorem Rd.take {α : Type} {enc : α → Value} {w : World} {B n k : Nat} {A : Option Addr} {l : List α} (h : Rd enc w B A n l) (hk : k ≤ n) : Rd enc w B A k (l.take k) := by
  refine ⟨by rw [List.length_take, h.1]; omega, fun hp => ?_⟩
  obtain ⟨b, o, e, hb, hc⟩ := h.2 (by omega)
  refine ⟨b, o, e, hb, fun j x hx => hc j x ?_⟩
  rw [List.getElem?_take] at hx
  split at hx
  · exact hx
  · cases hx

end Go.Proofs.Ytilfmnffdloneaa
