/- The contract of slices.Backward over a list of integers: what has come, in which order, for every loop body that keeps the list and the box. -/
import Derived.RangeFuncNested
import Derived.RangeFuncBound
import Derived.RangeFuncCalls
import Derived.RangeFuncLeaves
import Derived.RangeFuncBox
import Derived.Shelf.Abstract
import Derived.Shelf.RegionOpen
import Derived.WalkKit
import Derived.OwnWalkIn
import Derived.TacticsInMore
import Derived.LoopNIn
import Derived.LoopIn
import Derived.Test.YtamnhbambklmkaaSgSc
namespace Go.Proofs.Ytamnhbambklmkaa
open Go.RowKit Go.Shelf
attribute [local go_sem] Oper.semAt_some

/-- Two blocks lie as they lay. -/
def Tw (a b : Nat) (A B : World) : Prop := B.heap[a]? = A.heap[a]? ∧ B.heap[b]? = A.heap[b]?
theorem Tw.refl (a b : Nat) (A : World) : Tw a b A A := ⟨rfl, rfl⟩
theorem Tw.trans {a b : Nat} {A B C : World} (h : Tw a b A B) (k : Tw a b B C) : Tw a b A C := ⟨k.1.trans h.1, k.2.trans h.2⟩
theorem Tw.cell1 {a b o : Nat} {A B : World} (h : Tw a b A B) : B.cell? ⟨a, o, none⟩ = A.cell? ⟨a, o, none⟩ := World.cell?_of_block h.1
theorem Tw.cell2 {a b o : Nat} {A B : World} (h : Tw a b A B) : B.cell? ⟨b, o, none⟩ = A.cell? ⟨b, o, none⟩ := World.cell?_of_block h.2
theorem Tw.put {a b : Nat} {w : World} (ha : a < w.heap.size) (hb : b < w.heap.size) (W : World) (l : Nat) (o o' : Obj) (hl : w.heap.size ≤ l) (_ : W.heap[l]? = some o) (_ : o.isCells = false) (_ : o.isWalk = false) : Tw a b W (W.putObj l o') :=
  ⟨World.putObj_heap_other (by omega), World.putObj_heap_other (by omega)⟩
theorem Tw.set {a b : Nat} {A B : World} (h : Tw a b A B) {p : Addr} (h1 : a ≠ p.block) (h2 : b ≠ p.block) (v : Value) : Tw a b A (B.setCell p v) :=
  ⟨(heap_setCell_other B p a v h1).trans h.1, (heap_setCell_other B p b v h2).trans h.2⟩
theorem Tw.drew {a b : Nat} {A B : World} (h : Tw a b A B) : Tw a b A B.drew := h
theorem Tw.drewN {a b : Nat} {A B : World} (h : Tw a b A B) (k : Nat) : Tw a b A (B.drewN k) := h

/-- The indices that come, the last one first. -/
def downTo (n k : Nat) : List Nat := (List.range k).map fun j => n - 1 - j
theorem downTo_succ (n k : Nat) : downTo n (k + 1) = downTo n k ++ [n - 1 - k] := by simp [downTo, List.range_succ]

set_option maxRecDepth 100000 in
set_option maxHeartbeats 2000000 in
theorem bk1_in (F : Fence) (n : Nat) (hf : F.fn 93) (hro : F.round = none) (hn : 1 ≤ n) (l Bs b off cap N : Nat) (L : List Int) (hL : L.length = N) (hl : N ≤ 1048576) (J Jx : List (Fin N) → World → Prop)
    (hY : ∀ pre x W, J pre W → pre.length < N → YieldAt F (n - 1) Try.prog l #[.int .i64 (x.val : Int), .int .i64 (L.getD x.val 0)] W fun e W' =>
      (e = .returned (.bool true) ∧ J (pre ++ [x]) W' ∧ Tw b Bs W W') ∨ (e = .returned (.bool false) ∧ Jx (pre ++ [x]) W'))
    (W : World) (hBs : W.cell? ⟨Bs, 0, none⟩ = some (.slice (some ⟨b, off, none⟩) N cap)) (hc : ∀ j, j < N → W.cell? ⟨b, off + j, none⟩ = some (.int .i64 (L.getD j 0))) (h0 : J [] W) :
    CallsIn F n Try.prog 93 #[.func (.yield l) #[] #[], .pointer (some ⟨Bs, 0, none⟩)] W fun e W' => (∃ v, e = .returned v) ∧
      ((∃ ys : List (Fin N), ys.map Fin.val = downTo N N ∧ J ys W') ∨ (∃ pre : List (Fin N), (∃ k, k ≤ N ∧ pre.map Fin.val = downTo N k) ∧ Jx pre W')) := by
  refine callsIn_of_wp Try.func93 rfl hf ?_ hro
  simp only [Try.ntmps93, List.size_toArray, List.length_cons, List.length_nil, Nat.reduceAdd, Nat.reduceSub, Array.replicate_succ, Array.replicate_zero, List.push_toArray, List.append_toArray, List.nil_append, List.cons_append]
  have e0 : IntKind.i64.wrap ((N : Int) - 1) = (N : Int) - 1 := IntWalk.i64_in _ (by omega)
  gi_wp2
  gi_loopw [3] (fun i wr => ∃ (k m : Nat) (pre : List (Fin N)), k + m = N ∧ Hid (pre.map Fin.val = downTo N k) ∧ i = .int .i64 ((m : Int) - 1) ∧ J pre wr ∧ Tw b Bs W wr)
    (fun i _ => (intOf i + 1).toNat)
  case atStart => exact ⟨0, N, [], by omega, Lib.hid rfl, rfl, h0, Tw.refl _ _ _⟩
  case round =>
    obtain ⟨k, m, pre, hkm, hpre, rfl, hJs, hnx⟩ := hrel
    have hBs' : wr.cell? ⟨Bs, 0, none⟩ = some (.slice (some ⟨b, off, none⟩) N cap) := hnx.cell2.trans hBs
    by_cases h0 : m = 0
    · subst h0
      obtain rfl : k = N := by omega
      gi_wp2
      go_end0
      exact ⟨⟨_, rfl⟩, .inl ⟨_, hpre.out, hJs⟩⟩
    · obtain ⟨j, rfl⟩ : ∃ j, m = j + 1 := ⟨m - 1, by omega⟩
      have hj : N - 1 - k = j := by omega
      have hjl : j < N := by omega
      have hcx : wr.cell? ⟨b, off + j, none⟩ = some (.int .i64 (L.getD j 0)) := hnx.cell1.trans (hc j hjl)
      have HX : Hid ((pre ++ [(⟨j, hjl⟩ : Fin N)]).map Fin.val = downTo N (k + 1)) := Lib.hid (by rw [List.map_append, hpre.out, downTo_succ, hj]; rfl)
      obtain ⟨fn, tmps, assign, body, hy, hR⟩ := hY _ (⟨j, hjl⟩ : Fin N) wr hJs (by have := congrArg List.length hpre.out; simp [downTo] at this; omega)
      dsimp only at hy
      have ej : ((j + 1 : Nat) : Int) - 1 = (j : Int) := by omega
      have e2 : IntKind.i64.wrap ((j : Int) - 1) = (j : Int) - 1 := IntWalk.i64_in _ (by omega)
      rw [ej]
      generalize L.getD j 0 = y at hcx hy
      clear ej hj h0
      gi_wp2
      refine hR.mono ?_
      rintro e W3 (⟨rfl, hJ3, hk3⟩ | ⟨rfl, hJx3⟩)
      · gi_wp2
        go_roundw
        case rel => exact ⟨k + 1, j, _, by omega, HX, rfl, hJ3, hnx.trans hk3⟩
        case measure => simp [intOf]
      · gi_wp2
        refine bodyPost_ret (results_none rfl _ _ _) rfl ?_
        exact ⟨⟨_, rfl⟩, .inr ⟨_, ⟨k + 1, by omega, HX.out⟩, hJx3⟩⟩

set_option maxHeartbeats 1000000 in
theorem bk_any (a : Option Addr) (len cap : Nat) (w : World) :
    Calls Try.prog 75 #[.slice a len cap] w fun e w' => e = .returned (.func (.func 93) #[] #[.pointer (some ⟨w.heap.size, 0, none⟩)]) ∧ w' = w.alloc (.cells #[.slice a len cap] 29) := by
  go_enter Try.func75, Try.ntmps75
  go_wp2
  go_ret
  exact ⟨rfl, rfl⟩

theorem bk_stops (F : Fence) (n : Nat) (hf : F.fn 93) (hro : F.round = none) (hn : 1 ≤ n) (Bs b off cap N : Nat) (L : List Int) (hL : L.length = N) (hl : N ≤ 1048576) (w : World) (hBs : Bs < w.heap.size) (hb : b < w.heap.size)
    (hc : w.cell? ⟨Bs, 0, none⟩ = some (.slice (some ⟨b, off, none⟩) N cap)) (hcs : ∀ j, j < N → w.cell? ⟨b, off + j, none⟩ = some (.int .i64 (L.getD j 0))) :
    SeqStopsK F n Try.prog 93 #[.pointer (some ⟨Bs, 0, none⟩)] (fun x : Fin N => #[Value.int .i64 (x.val : Int), Value.int .i64 (L.getD x.val 0)]) (Tw b Bs) (fun ys => ys.map Fin.val = downTo N N)
      (fun pre => ∃ k, k ≤ N ∧ pre.map Fin.val = downTo N k) N w := fun l J Jx W hW _ _ hY h0 =>
  bk1_in F n hf hro hn l Bs b off cap N L hL hl J Jx hY W ((World.cell?_of_block (a := ⟨Bs, 0, none⟩) (hW.block Bs hBs)).trans hc) (fun j hj => (World.cell?_of_block (a := ⟨b, off + j, none⟩) (hW.block b hb)).trans (hcs j hj)) h0
end Go.Proofs.Ytamnhbambklmkaa
