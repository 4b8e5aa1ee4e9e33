/- Contracts of the two functions that tell whether a list is an order: the model's and the program's. Both answer isOrd. -/
import Derived.Test.YtnfnmdeiaihgnaaIn
import Derived.WalkSpells
namespace Go.Proofs.Ytnfnmdeiaihgnaa
open Go.RowKit

set_option maxHeartbeats 400000 in
theorem l01Has_any (A : Option Addr) (n c B : Nat) (y : Int) (l : List Int) (w : World) (h : Rd I w B A n l) (hn : n ≤ 1048576) :
    Calls Try.prog 101 #[.slice A n c, .int .i64 y] w fun e w' => e = .returned (.bool (decide (y ∈ l))) ∧ w = w' := by
  have HL : Hid (l.length = n) := h.1
  go_enter Try.func101, Try.ntmps101
  go_wp2
  go_loop [5] (fun i => ∃ k : Nat, k ≤ n ∧ i = .int .i64 k ∧ Hid (y ∉ l.take k)) (fun i => n - (intOf i).toNat)
  case atStart => exact ⟨0, Nat.zero_le _, rfl, (by simp : y ∉ l.take 0)⟩
  case round =>
    obtain ⟨k, hk, rfl, hno⟩ := hrel
    by_cases hlt : k < n
    · obtain ⟨b, o, x, rfl, hbB, hx, hc⟩ := h.at_ hlt
      have HX : Hid (l[k]? = some x) := hx
      clear hx
      by_cases hxy : x = y
      · subst hxy
        go_wp2
        go_ret
        exact ⟨ret_b (decide_eq_true (List.mem_of_getElem? HX.out)).symm, rfl⟩
      · have hne : (x == y) = false := by simpa using hxy
        go_wp2
        go_round
        case rel =>
          refine ⟨k + 1, by omega, by go_num, ?_⟩
          have h1 := hno.out
          show y ∉ l.take (k + 1)
          rw [take_next l k x HX.out, List.mem_append]
          rintro (hh | hh)
          · exact h1 hh
          · exact hxy (List.mem_singleton.1 hh).symm
        case measure => simp [intOf]; omega
    · obtain rfl : k = n := by omega
      go_wp2
      go_ret
      have h1 := hno.out
      have h2 := HL.out
      rw [List.take_of_length_le (Nat.le_of_eq h2)] at h1
      exact ⟨ret_b (decide_eq_false h1).symm, rfl⟩

theorem l01Has_yes (A : Option Addr) (n c B : Nat) (y : Int) (l : List Int) (w : World) (h : Rd I w B A n l) (hn : n ≤ 1048576) (hm : y ∈ l) :
    Calls Try.prog 101 #[.slice A n c, .int .i64 y] w fun e w' => e = .returned (.bool true) ∧ w = w' :=
  (l01Has_any A n c B y l w h hn).mono fun _ _ ⟨he, hw⟩ => ⟨by rw [he, decide_eq_true hm], hw⟩
theorem l01Has_no (A : Option Addr) (n c B : Nat) (y : Int) (l : List Int) (w : World) (h : Rd I w B A n l) (hn : n ≤ 1048576) (hm : y ∉ l) :
    Calls Try.prog 101 #[.slice A n c, .int .i64 y] w fun e w' => e = .returned (.bool false) ∧ w = w' :=
  (l01Has_any A n c B y l w h hn).mono fun _ _ ⟨he, hw⟩ => ⟨by rw [he, decide_eq_false hm], hw⟩

/-- A list is an order: at most 64 numbers, each of 0 to length - 1 once. -/
def inRange (l : List Int) (n : Nat) : Prop := ∀ x ∈ l, 0 ≤ x ∧ x < (n : Int)
def isOrd (l : List Int) : Prop := l.length ≤ 64 ∧ inRange l l.length ∧ l.Nodup
instance (l : List Int) (n : Nat) : Decidable (inRange l n) := by unfold inRange; exact inferInstance
instance (l : List Int) : Decidable (isOrd l) := by unfold isOrd; exact inferInstance
def isOrdB (l : List Int) : Bool := decide (isOrd l)

theorem nodup_next (l : List Int) (k : Nat) (x : Int) (hx : l[k]? = some x) (h : (l.take k).Nodup) (hn : x ∉ l.take k) : (l.take (k + 1)).Nodup := by
  rw [take_next l k x hx, List.nodup_append]
  exact ⟨h, by simp, fun a ha b hb => by simp at hb; subst hb; rintro rfl; exact hn ha⟩
theorem range_next (l : List Int) (n k : Nat) (x : Int) (hx : l[k]? = some x) (h : inRange (l.take k) n) (h0 : 0 ≤ x) (h1 : x < n) : inRange (l.take (k + 1)) n := by
  rw [take_next l k x hx]
  intro y hy
  rcases List.mem_append.1 hy with hy | hy
  · exact h y hy
  · simp at hy; subst hy; exact ⟨h0, h1⟩
theorem not_ord_range (l : List Int) (k : Nat) (x : Int) (hx : l[k]? = some x) (h : x < 0 ∨ (l.length : Int) ≤ x) : isOrdB l = false := by
  refine decide_eq_false fun ⟨_, hr, _⟩ => ?_
  have := hr x (List.mem_of_getElem? hx)
  omega
theorem not_ord_dup (l : List Int) (k : Nat) (x : Int) (hx : l[k]? = some x) (h : x ∈ l.take k) : isOrdB l = false := by
  refine decide_eq_false fun ⟨_, _, hd⟩ => ?_
  have hs : l = l.take k ++ l.drop k := (List.take_append_drop k l).symm
  rw [hs, List.nodup_append] at hd
  refine hd.2.2 x h x ?_ rfl
  exact List.mem_of_getElem? (i := 0) (by rw [List.getElem?_drop]; simpa using hx)
theorem ord_end (l : List Int) (hr : inRange (l.take l.length) l.length) (hd : (l.take l.length).Nodup) : isOrdB l = decide (l.length ≤ 64) := by
  rw [List.take_length] at hr hd
  unfold isOrdB isOrd
  simp [hr, hd]

theorem Rd.take {α : Type} {enc : α → Value} {w : World} {B n k : Nat} {A : Option Addr} {l : List α} (h : Rd enc w B A n l) (hk : k ≤ n) : Rd enc w B A k (l.take k) := by
  refine ⟨by rw [List.length_take, h.1]; omega, fun hp => ?_⟩
  obtain ⟨b, o, e, hb, hc⟩ := h.2 (by omega)
  refine ⟨b, o, e, hb, fun j x hx => hc j x ?_⟩
  rw [List.getElem?_take] at hx
  split at hx
  · exact hx
  · cases hx

set_option maxHeartbeats 400000 in
theorem specIsOrder_any (A : Option Addr) (n c B : Nat) (l : List Int) (w : World) (h : Rd I w B A n l) (hn : n ≤ 1048576) (hc : n ≤ c) :
    Calls Try.prog 73 #[.slice A n c] w fun e w' => e = .returned (.bool (isOrdB l)) ∧ Q w w' := by
  have HL : Hid (l.length = n) := h.1
  go_enter Try.func73, Try.ntmps73
  go_wp2
  go_loopw [3] (fun i wr => ∃ k : Nat, k ≤ n ∧ i = .int .i64 k ∧ Hid (inRange (l.take k) n) ∧ Hid ((l.take k).Nodup) ∧ Q w wr) (fun i _ => n - (intOf i).toNat)
  case atStart => exact ⟨0, Nat.zero_le _, rfl, (by intro x hx; simp at hx : inRange (l.take 0) n), (by simp : (l.take 0).Nodup), Q.refl _⟩
  case round =>
    obtain ⟨k, hk, rfl, hr, hd, hq⟩ := hrel
    have h := h.q hq
    by_cases hlt : k < n
    · have hT := h.take (k := k) hk
      obtain ⟨b, o, x, rfl, hbB, hx, hcx⟩ := h.at_ hlt
      have HX : Hid (l[k]? = some x) := hx
      clear hx
      have e1 : IntKind.i64.wrap ((n : Int) - 1) = (n : Int) - 1 := IntWalk.i64_in _ (by omega)
      by_cases hin : 0 ≤ x ∧ x ≤ (n : Int) - 1
      · obtain ⟨hx0, hx1⟩ := hin
        by_cases hm : x ∈ l.take k
        · have HM := Lib.hid hm
          clear hm
          go_wp2
          go_quiet (first | (go_at_call 61; exact quiet_same (l01In_yes _ _ _ _ (by omega) (by omega))) | (go_at_call 101; exact quiet_same (l01Has_yes _ _ _ _ _ _ _ hT (by omega) HM.out)))
          go_wp2
          go_ret
          exact ⟨ret_b (not_ord_dup l k x HX.out HM.out).symm, hq.more _⟩
        · have HM := Lib.hid hm
          clear hm
          go_wp2
          go_quiet (first | (go_at_call 61; exact quiet_same (l01In_yes _ _ _ _ (by omega) (by omega))) | (go_at_call 101; exact quiet_same (l01Has_no _ _ _ _ _ _ _ hT (by omega) HM.out)))
          go_wp2
          go_roundw
          case rel => exact ⟨k + 1, by omega, by go_num, range_next l n k x HX.out hr.out hx0 (by omega), nodup_next l k x HX.out hd.out HM.out, hq.more _⟩
          case measure => simp [intOf]; omega
      · go_wp2
        go_quiet (first | (go_at_call 61; exact quiet_same (l01In_no _ _ _ _ (by omega))) )
        go_wp2
        go_ret
        exact ⟨ret_b (not_ord_range l k x HX.out (by have := HL.out; omega)).symm, hq.more _⟩
    · obtain rfl : k = n := by omega
      have h1 := HL.out
      have HE : Hid (isOrdB l = decide (k ≤ 64)) := by
        have := ord_end l (by have := hr.out; rwa [h1]) (by have := hd.out; rwa [h1])
        rwa [h1] at this
      clear h1
      go_wp2
      go_ret
      exact ⟨ret_b (by rw [HE.out]; simp; omega), hq⟩

/-- The array of what has been seen: the numbers of s. -/
def Seen (w : World) (g : Nat) (s : List Int) : Prop :=
  ∃ cs, w.heap[g]? = some (.cells cs 133 (0, 0)) ∧ cs.size = 64 ∧ ∀ j, j < 64 → cs[j]? = some (.bool (decide ((j : Int) ∈ s)))
theorem Seen.at_ {w : World} {g : Nat} {s : List Int} (h : Seen w g s) (j : Nat) (hj : j < 64) (b : Bool) (hb : decide ((j : Int) ∈ s) = b) : w.cell? ⟨g, j, none⟩ = some (.bool b) ∧ w.frozen? ⟨g, j, none⟩ = false := by
  obtain ⟨cs, hg, hs, hc⟩ := h
  subst hb
  exact ⟨by rw [cell_of_row w g j cs _ (0, 0) hg]; exact hc j hj, frozen_of_row w g j cs _ hg⟩
theorem Seen.lt {w : World} {g : Nat} {s : List Int} (h : Seen w g s) : g < w.heap.size := by
  obtain ⟨cs, hg, _⟩ := h
  exact (Array.getElem?_eq_some_iff.1 hg).1
theorem Seen.new_ (w : World) : Seen (w.alloc (.cells (Array.replicate 64 (.bool false)) 133)) w.heap.size [] :=
  ⟨_, heap_alloc_new w _, by simp, fun j hj => by simp [hj]⟩
theorem Seen.set_ {w : World} {g : Nat} {s : List Int} (h : Seen w g s) (i : Nat) : Seen (w.setCell ⟨g, i, none⟩ (.bool true)) g (s ++ [(i : Int)]) := by
  obtain ⟨cs, hg, hs, hc⟩ := h
  refine ⟨cs.setIfInBounds i (.bool true), heap_setCell_same w g i cs _ _ hg, by simpa using hs, fun j hj => ?_⟩
  rw [Array.getElem?_setIfInBounds]
  by_cases e : i = j
  · subst e
    simp [hs, hj]
  · rw [if_neg e, hc j hj]
    have : ((j : Int) ∈ s ++ [(i : Int)]) ↔ ((j : Int) ∈ s) := by
      rw [List.mem_append, List.mem_singleton]
      constructor
      · rintro (h | h)
        · exact h
        · omega
      · exact .inl
    simp only [this]
theorem Seen.q {w w' : World} {g : Nat} {s : List Int} (h : Seen w g s) (hq : Q w w') : Seen w' g s := by
  obtain ⟨m, rfl⟩ := hq
  exact h

set_option maxHeartbeats 1000000 in
theorem valid_any (A : Option Addr) (n c B : Nat) (l : List Int) (w : World) (h : Rd I w B A n l) (hB : B ≤ w.heap.size) (hn : n ≤ 1048576) :
    Calls Try.prog 100 #[.slice A n c] w fun e w' => e = .returned (.bool (isOrdB l)) ∧ Below w.heap.size w w' := by
  have HL : Hid (l.length = n) := h.1
  by_cases h64 : n ≤ 64
  · have hnew := Seen.new_ w
    have hb0 : Below w.heap.size w (w.alloc (.cells (Array.replicate 64 (.bool false)) 133)) := (Below.refl _ _).alloc (Nat.le_refl _) _
    go_enter Try.func100, Try.ntmps100
    go_wp2
    go_loopw [5, 11] (fun _ i wr => ∃ k : Nat, k ≤ n ∧ i = .int .i64 k ∧ Hid (inRange (l.take k) n) ∧ Hid ((l.take k).Nodup) ∧ Below w.heap.size w wr ∧ Seen wr w.heap.size (l.take k)) (fun _ i _ => n - (intOf i).toNat)
    case atStart => exact ⟨0, Nat.zero_le _, rfl, (by intro x hx; simp at hx : inRange (l.take 0) n), (by simp : (l.take 0).Nodup), hb0, hnew⟩
    case round =>
      clear hnew hb0
      obtain ⟨k, hk, rfl, hr, hd, hb, hseen⟩ := hrel
      have h := h.below hb hB
      have hs := hseen.lt
      by_cases hlt : k < n
      · obtain ⟨b, o, x, rfl, hbB, hx, hcx⟩ := h.at_ hlt
        have HX : Hid (l[k]? = some x) := hx
        clear hx
        by_cases hx0 : 0 ≤ x
        · by_cases hx1 : x < (n : Int)
          · obtain ⟨j, rfl⟩ := Int.eq_ofNat_of_zero_le hx0
            have hj : j < n := by omega
            by_cases hm : (j : Int) ∈ l.take k
            · obtain ⟨hc1, hf1⟩ := hseen.at_ j (by omega) true (decide_eq_true hm)
              have HM := Lib.hid hm
              clear hm
              go_wp2
              go_ret
              exact ⟨ret_b (not_ord_dup l k _ HX.out HM.out).symm, hb⟩
            · obtain ⟨hc1, hf1⟩ := hseen.at_ j (by omega) false (decide_eq_false hm)
              have HM := Lib.hid hm
              clear hm
              go_wp2
              go_roundw
              case rel =>
                refine ⟨k + 1, by omega, by go_num, range_next l n k _ HX.out hr.out hx0 hx1, nodup_next l k _ HX.out hd.out HM.out, hb.setCell (Nat.le_refl _) _, ?_⟩
                have := hseen.set_ j
                rwa [← take_next l k _ HX.out] at this
              case measure => simp [intOf]; omega
          · have hx2 : (n : Int) ≤ x := by omega
            go_wp2
            go_ret
            exact ⟨ret_b (not_ord_range l k x HX.out (by have := HL.out; omega)).symm, hb⟩
        · have hx2 : x < 0 := by omega
          go_wp2
          go_ret
          exact ⟨ret_b (not_ord_range l k x HX.out (by have := HL.out; omega)).symm, hb⟩
      · obtain rfl : k = n := by omega
        have h1 := HL.out
        have HE : Hid (isOrdB l = decide (k ≤ 64)) := by
          have := ord_end l (by have := hr.out; rwa [h1]) (by have := hd.out; rwa [h1])
          rwa [h1] at this
        clear h1
        go_wp2
        go_ret
        exact ⟨ret_b (by rw [HE.out]; simp; omega), hb⟩
  · have h64' : 64 < n := by omega
    go_enter Try.func100, Try.ntmps100
    go_wp2
    go_ret
    exact ⟨ret_b (by symm; refine decide_eq_false fun h => ?_; have := HL.out; have := h.1; omega), Below.refl _ _⟩

theorem IsOrder_any (A : Option Addr) (n c B : Nat) (l : List Int) (w : World) (h : Rd I w B A n l) (hB : B ≤ w.heap.size) (hn : n ≤ 1048576) :
    Calls Try.prog 70 #[.slice A n c] w fun e w' => e = .returned (.bool (isOrdB l)) ∧ Below w.heap.size w w' := by
  go_enter Try.func70, Try.ntmps70
  go_wp2_with fail
  refine (valid_any A n c B l w h hB hn).mono ?_
  rintro e w1 ⟨rfl, hb⟩
  go_wp2_with fail
  go_ret
  exact ⟨rfl, hb⟩
end Go.Proofs.Ytnfnmdeiaihgnaa
