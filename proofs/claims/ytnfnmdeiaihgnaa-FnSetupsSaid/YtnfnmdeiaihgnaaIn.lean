/- Contracts of the model's test of a range. -/
import Derived.Test.YtnfnmdeiaihgnaaBase
import Derived.WalkSpells
namespace Go.Proofs.Ytnfnmdeiaihgnaa
open Go.RowKit

theorem l01In_yes (x lo hi : Int) (w : World) (h : lo ≤ x) (h' : x ≤ hi) :
    Calls Try.prog 61 #[.int .i64 x, .int .i64 lo, .int .i64 hi] w fun e w' => e = .returned (.bool true) ∧ w = w' := by
  go_enter Try.func61, Try.ntmps61
  go_wp2
  go_ret
  exact ⟨rfl, rfl⟩
theorem l01In_no (x lo hi : Int) (w : World) (h : x < lo ∨ hi < x) :
    Calls Try.prog 61 #[.int .i64 x, .int .i64 lo, .int .i64 hi] w fun e w' => e = .returned (.bool false) ∧ w = w' := by
  by_cases h1 : x < lo
  · clear h
    go_enter Try.func61, Try.ntmps61
    go_wp2
    go_ret
    exact ⟨rfl, rfl⟩
  · have h2 : hi < x := by omega
    have h3 : lo ≤ x := by omega
    clear h
    go_enter Try.func61, Try.ntmps61
    go_wp2
    go_ret
    exact ⟨ret_b (by simp; omega), rfl⟩
theorem only_set {w w' : World} {g i lo hi : Nat} (h : Only lo hi w w') (u : Value) (h1 : lo ≤ g) (h2 : g < hi) : Only lo hi w (w'.setCell ⟨g, i, none⟩ u) :=
  h.trans ⟨rfl, rfl, rfl, by simp, fun k _ hne => heap_setCell_other w' ⟨g, i, none⟩ k u (fun e => by have e' : k = g := e; omega)⟩
/-- Block g holds the cells cs, and may be written. -/
def Blk (w : World) (g : Nat) (cs : Array Value) (t : TypeId) : Prop := w.heap[g]? = some (.cells cs t (0, 0))
theorem Blk.lt {w : World} {g : Nat} {cs : Array Value} {t : TypeId} (h : Blk w g cs t) : g < w.heap.size := by
  unfold Blk at h
  exact (Array.getElem?_eq_some_iff.1 h).1
theorem Blk.new {w : World} {g : Nat} (cs : Array Value) (t : TypeId) (hg : g = w.heap.size) : Blk (w.alloc (.cells cs t)) g cs t := by
  subst hg
  exact heap_alloc_new w _
theorem Blk.alloc {w : World} {g : Nat} {cs : Array Value} {t : TypeId} (h : Blk w g cs t) (o : Obj) : Blk (w.alloc o) g cs t :=
  (Below.heap_alloc w o g h.lt).trans h
theorem Blk.below {w w' : World} {B g : Nat} {cs : Array Value} {t : TypeId} (h : Blk w g cs t) (hb : Below B w w') (hg : g < B) : Blk w' g cs t := (hb.block g hg).trans h
theorem Blk.only {w w' : World} {lo hi g : Nat} {cs : Array Value} {t : TypeId} (h : Blk w g cs t) (ho : Only lo hi w w') (hg : g < lo ∨ hi ≤ g) : Blk w' g cs t := (ho.block g h.lt hg).trans h
theorem Blk.q {w w' : World} {g : Nat} {cs : Array Value} {t : TypeId} (h : Blk w g cs t) (hq : Q w w') : Blk w' g cs t := by
  obtain ⟨m, rfl⟩ := hq
  exact h
theorem Blk.cell {w : World} {g : Nat} {cs : Array Value} {t : TypeId} (h : Blk w g cs t) (j : Nat) {v : Value} (hv : cs[j]? = some v) : w.cell? ⟨g, j, none⟩ = some v :=
  (cell_of_row w g j cs t (0, 0) h).trans hv
theorem Blk.free {w : World} {g : Nat} {cs : Array Value} {t : TypeId} (h : Blk w g cs t) (j : Nat) : w.frozen? ⟨g, j, none⟩ = false := frozen_of_row w g j cs t h
theorem Blk.set {w : World} {g : Nat} {cs : Array Value} {t : TypeId} (h : Blk w g cs t) (j : Nat) (v : Value) : Blk (w.setCell ⟨g, j, none⟩ v) g (cs.setIfInBounds j v) t := heap_setCell_same w g j _ _ v h
theorem Blk.other {w : World} {g : Nat} {cs : Array Value} {t : TypeId} (h : Blk w g cs t) (p : Addr) (v : Value) (hp : g ≠ p.block) : Blk (w.setCell p v) g cs t := (heap_setCell_other w p g v hp).trans h
/-- A list and a code are handed back; the list is the call's own. -/
def LC (w : World) (R : List Int) (C : Int) (e : Ending) (w' : World) : Prop :=
  ∃ A n c, e = .returned (.tuple #[.slice A n c, .int .i64 C]) ∧ Own I w' w.heap.size w'.heap.size 2 (.slice A n c) R ∧ n ≤ 1048576 ∧ Below w.heap.size w w'
theorem LC.nil_ {w w' : World} {R : List Int} {C C' : Int} (hR : R = []) (hC : C = C') (hb : Below w.heap.size w w') : LC w R C (.returned (.tuple #[.slice none 0 0, .int .i64 C'])) w' := by
  subst hR hC
  exact ⟨none, 0, 0, rfl, Own.nil_, by omega, hb⟩
theorem LC.mk_ {w w' : World} {R R' : List Int} {C C' : Int} {A : Option Addr} {n c lo hi : Nat} (hR : R = R') (hC : C = C') (ho : Own I w' lo hi 2 (.slice A n c) R') (h1 : w.heap.size ≤ lo) (h2 : hi ≤ w'.heap.size) (hn : n ≤ 1048576) (hb : Below w.heap.size w w') :
    LC w R C (.returned (.tuple #[.slice A n c, .int .i64 C'])) w' := by
  subst hR hC
  exact ⟨A, n, c, rfl, ho.mono h1 h2, hn, hb⟩
end Go.Proofs.Ytnfnmdeiaihgnaa
