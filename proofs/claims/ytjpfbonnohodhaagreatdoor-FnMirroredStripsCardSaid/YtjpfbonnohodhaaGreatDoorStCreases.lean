/- The walk of the law FnCreases. -/
import Derived.Test.YtjpfbonnohodhaaGreatDoorStDraw
import Derived.Test.YtjpfbonnohodhaaGreatDoorStCr2
namespace Go.Proofs.YtjpfbonnohodhaaGreatDoor
open Go.RowKit Go.Shelf

theorem big_any (A : Option Addr) (N C : Nat) (w : World) :
    Calls Tryz.prog 4 #[.slice A N C] w fun e w' => e = .returned (.bool (decide (4096 < N))) ∧ w = w' := by
  go_enter Tryz.func4, Tryz.ntmps4
  go_wp2
  go_ret
  exact ⟨ret_b (by simp; omega), rfl⟩

def DrT (w : World) (e : Ending) (w' : World) : Prop := ∃ t : ByteArray, e = .returned (.string t) ∧ t.size ≤ 7 ∧ Below w.heap.size w w'
namespace St
/-- Valleys less mountains. -/
def tal (l : List UInt8) : Int := l.foldl (fun n b => if b = 86 then n + 1 else n - 1) 0
theorem tal_next (l : List UInt8) (k : Nat) (c : UInt8) (h : l[k]? = some c) : tal (l.take (k + 1)) = if c = 86 then tal (l.take k) + 1 else tal (l.take k) - 1 := by
  have : l.take (k + 1) = l.take k ++ [c] := by rw [List.take_add_one, h]; rfl
  rw [this]
  unfold tal
  rw [List.foldl_append]
  rfl
theorem tal_near (l : List UInt8) : ∀ n : Int, -(l.length : Int) ≤ l.foldl (fun n b => if b = 86 then n + 1 else n - 1) n - n ∧ l.foldl (fun n b => if b = 86 then n + 1 else n - 1) n - n ≤ l.length := by
  induction l with
  | nil => intro n; simp
  | cons a l ih =>
    intro n
    have := ih (if a = 86 then n + 1 else n - 1)
    rw [List.foldl_cons, List.length_cons]
    split at this <;> rename_i h <;> simp only [h, if_true, if_false] <;> omega
theorem tal_crB (L : List Nat) (h : ∀ x ∈ L, x = 86 ∨ x = 77) : ∀ n : Int, (crB L).foldl (fun n b => if b = 86 then n + 1 else n - 1) n = L.foldl (fun n b => if b = 86 then n + 1 else n - 1) n := by
  induction L with
  | nil => intro n; rfl
  | cons a L ih =>
    intro n
    have := ih (fun x hx => h x (List.mem_cons_of_mem _ hx))
    rcases h a (List.mem_cons_self ..) with rfl | rfl
    · exact this (n + 1)
    · exact this (n - 1)
theorem crI_two (l : List UInt8) : ∀ x ∈ crI l, x = 86 ∨ x = 77 := by
  intro x hx
  unfold crI crIof at hx
  obtain ⟨c, _, rfl⟩ := List.mem_map.1 hx
  split <;> simp
end St

end Go.Proofs.YtjpfbonnohodhaaGreatDoor
