/- Contracts of the helpers of the exact laws: a copy of a list is new and holds the same; two equal lists are told equal; marks are written and read back. -/
import Derived.Test.YtbhofhobnbhhhaaGreatDoorProg
import Derived.Test.YtbhofhobnbhhhaaGreatDoorWords
import Derived.KernelRfl
import Derived.Deep.QuietTactic
import Derived.BigQuiet
namespace Go.Proofs.YtbhofhobnbhhhaaGreatDoor
open Go.RowKit

/-- int64 numbers as values. -/
abbrev I (x : Int) : Value := .int .i64 x

theorem infoI : (Tryz.prog.info? 2).map (fun i => (i.zero, i.size, i.bytes)) = some (some (.int .i64 0), 1, 8) := by kernel_rfl

theorem set_mid {α : Type} (a b : List α) (x y : α) (k : Nat) (h : a.length = k) : (a ++ y :: b).set k x = a ++ x :: b := by
  subst h
  simp
theorem take_next {α : Type} (l : List α) (k : Nat) (x : α) (hx : l[k]? = some x) : l.take (k + 1) = l.take k ++ [x] := by
  rw [List.take_add_one, hx]
  rfl
theorem copy_step (l : List Int) (k n : Nat) (x : Int) (hl : l.length = n) (hx : l[k]? = some x) (hk : k < n) :
    (l.take k ++ List.replicate (n - k) 0).set k x = l.take (k + 1) ++ List.replicate (n - (k + 1)) 0 := by
  rw [show n - k = (n - (k + 1)) + 1 from by omega, List.replicate_succ, set_mid _ _ _ _ _ (by simp; omega), take_next l k x hx]
  simp
theorem mark_step (m l : List Int) (k n : Nat) (x : Int) (hm : m.length = n) (hl : l.length = n) (hx : m[k]? = some x) (hk : k < n) :
    (m.take k ++ l.drop k).set k x = m.take (k + 1) ++ l.drop (k + 1) := by
  rw [List.drop_eq_getElem_cons (by omega), set_mid _ _ _ _ _ (by simp; omega), take_next m k x hx]
  simp

end Go.Proofs.YtbhofhobnbhhhaaGreatDoor
