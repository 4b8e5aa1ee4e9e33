/- One element is appended to a row of the call's own, and it is told which blocks stay as they were and stay apart from the row. No program is named here. -/
import Derived.Test.YtnfnmdeiaihgnaaWords
import Derived.Deep.AppendLies
namespace Go.Proofs.Ytnfnmdeiaihgnaa
open Go.RowKit

/-- Block g is none of the row v's. -/
def Far (v : Value) (g : Nat) : Prop := v.ownBlock ≠ some g
theorem Far.nil_ (g : Nat) : Far (.slice none 0 0) g := by simp [Far, Value.ownBlock]
theorem Far.of_lt {b g n c : Nat} (h : g ≠ b) : Far (.slice (some ⟨b, 0, none⟩) n c) g := by
  intro h'
  simp [Value.ownBlock] at h'
  exact h h'.symm
/-- What an append keeps: the blocks that are not the row's. -/
def Kept (w w' : World) (v v' : Value) : Prop := ∀ g, g < w.heap.size → Far v g → w'.heap[g]? = w.heap[g]? ∧ Far v' g

variable {α : Type} {enc : α → Value}
theorem wp_push3 {P : Program} (w : World) {ops : Array Oper} {rest : List Oper} {o : Oper} {a : Act} {Qx : Exit → Act → World → Prop} (hgd : o.guard = none) (s x : Operand) (t : TypeId)
    (ho : o.op = .call { callee := .builtin .append, args := #[s, x], argTypes := #[t, t] })
    (e : TypeId) (i : TypeInfo) (z : Value) (bytes : Nat) (ht : P.underlying t = some (.slice e)) (hi : P.info? e = some i) (hz : i.zero = some z) (hsize : i.size = 1) (hby : i.bytes = bytes) (hzs : z.cells.size = 1)
    (A : Option Addr) (n c : Nat) (l : List α) (lo hi' : Nat) (hs : a.eval s = .slice A n c) (hown : Own enc w lo hi' e (.slice A n c) l) (y : α)
    (hx : a.eval x = .slice (some ⟨w.heap.size, 0, none⟩) 1 1) (h1 : (enc y).oneCell' = true) (hn : n ≤ 1099511627776) (hb : bytes ≤ 64) (hbase : lo ≤ w.heap.size)
    (h : ∀ A' c' w', Own enc w' lo w'.heap.size e (.slice A' (n + 1) c') (l ++ [y]) → Only lo hi' w w' → Kept w w' (.slice A n c) (.slice A' (n + 1) c') → wpList P ops Qx rest (a.put o.dst (.slice A' (n + 1) c')) w') :
    wpList P ops Qx (o :: rest) a (w.alloc (.cells #[enc y] e)) := by
  have hl : l.length = n := hown.rd.1
  have hr := hown.1
  rw [hl] at hr
  have hbytes : (n + 1) * bytes ≤ (1099511627776 + 1) * 64 := Nat.mul_le_mul (by omega) hb
  refine wpList_append_lies _ hgd s x t ho lo e i z 1 bytes ht hi hz hsize hby hzs (by omega) (.slice A n c) n (l.map enc) hs (hr.alloc _) ⟨w.heap.size, 0, none⟩ 1 1 [enc y] hx rfl ?_ ?_ (by omega) (by unfold maxLen; omega) (by omega) (by simp; omega) (w.heap.size + 1) (by simp) ?_
  · intro j u hj
    match j, hj with
    | 0, hj =>
      simp at hj
      subst hj
      rw [addr_zero]
      simp [World.cell?_alloc_new]
  · intro u hu
    simp at hu
    subst hu
    exact h1
  · intro g cap w' hown' hg hwhere _
    have hmap : l.map enc ++ [enc y] = (l ++ [y]).map enc := by simp
    rw [hmap] at hown'
    refine h (some ⟨g, 0, none⟩) cap w' (Own.here hown' (by simp [hl])) ?_ ?_
    · refine (Only.of_below ((Below.refl _ _).alloc (Nat.le_refl _) _) lo hi').trans (Only.grown hg fun g hg' => ?_)
      have := hown.lt g hg'
      omega
    · intro k hk hfar
      refine ⟨?_, ?_⟩
      · rw [hg.block k (by simp; omega) (fun e => hfar e.symm)]
        exact Below.heap_alloc w _ k hk
      · intro e
        simp only [Value.ownBlock, Option.some.injEq] at e
        rcases hwhere with hw | hw
        · exact hfar (by rw [hw, e])
        · omega
theorem step_push3 {P : Program} (w : World) {ops : Array Oper} {o : Oper} {a : Act} {K : Act → World → Prop} {Qx : Exit → Act → World → Prop} {E : Prop} (hgd : o.guard = none) (s x : Operand) (t : TypeId)
    (ho : o.op = .call { callee := .builtin .append, args := #[s, x], argTypes := #[t, t] })
    (e : TypeId) (i : TypeInfo) (z : Value) (bytes : Nat) (ht : P.underlying t = some (.slice e)) (hi : P.info? e = some i) (hz : i.zero = some z) (hsize : i.size = 1) (hby : i.bytes = bytes) (hzs : z.cells.size = 1)
    (A : Option Addr) (n c : Nat) (l : List α) (lo hi' : Nat) (hs : a.eval s = .slice A n c) (hown : Own enc w lo hi' e (.slice A n c) l) (y : α)
    (hx : a.eval x = .slice (some ⟨w.heap.size, 0, none⟩) 1 1) (h1 : (enc y).oneCell' = true) (hn : n ≤ 1099511627776) (hb : bytes ≤ 64) (hbase : lo ≤ w.heap.size)
    (h : ∀ A' c' w', Own enc w' lo w'.heap.size e (.slice A' (n + 1) c') (l ++ [y]) → Only lo hi' w w' → Kept w w' (.slice A n c) (.slice A' (n + 1) c') → K (a.put o.dst (.slice A' (n + 1) c')) w') :
    if Region.wanted o (yielded ops a.tmps) = true then Oper.wp P o a (w.alloc (.cells #[enc y] e)) K Qx else E := by
  have hl : l.length = n := hown.rd.1
  have hr := hown.1
  rw [hl] at hr
  have hbytes : (n + 1) * bytes ≤ (1099511627776 + 1) * 64 := Nat.mul_le_mul (by omega) hb
  refine step_append_lies (w := w.alloc (.cells #[enc y] e)) hgd s x t ho lo e i z 1 bytes ht hi hz hsize hby hzs (by omega) (.slice A n c) n (l.map enc) hs (hr.alloc _) ⟨w.heap.size, 0, none⟩ 1 1 [enc y] hx rfl ?_ ?_ (by omega) (by unfold maxLen; omega) (by omega) (by simp; omega) (w.heap.size + 1) (by simp) ?_
  · intro j u hj
    match j, hj with
    | 0, hj =>
      simp at hj
      subst hj
      rw [addr_zero]
      simp [World.cell?_alloc_new]
  · intro u hu
    simp at hu
    subst hu
    exact h1
  · intro g cap w' hown' hg hwhere _
    have hmap : l.map enc ++ [enc y] = (l ++ [y]).map enc := by simp
    rw [hmap] at hown'
    refine h (some ⟨g, 0, none⟩) cap w' (Own.here hown' (by simp [hl])) ?_ ?_
    · refine (Only.of_below ((Below.refl _ _).alloc (Nat.le_refl _) _) lo hi').trans (Only.grown hg fun g hg' => ?_)
      have := hown.lt g hg'
      omega
    · intro k hk hfar
      refine ⟨?_, ?_⟩
      · rw [hg.block k (by simp; omega) (fun e => hfar e.symm)]
        exact Below.heap_alloc w _ k hk
      · intro e
        simp only [Value.ownBlock, Option.some.injEq] at e
        rcases hwhere with hw | hw
        · exact hfar (by rw [hw, e])
        · omega
/-- A row of one type lies apart from a block of another. -/
theorem Own.far {w : World} {lo hi g : Nat} {e t : TypeId} {v : Value} {l : List α} {cs : Array Value} {fr : Nat × Nat} (h : Own enc w lo hi e v l) (hg : w.heap[g]? = some (.cells cs t fr)) (ht : t ≠ e) : Far v g := by
  rcases h.1.2 with ⟨hv, _⟩ | ⟨g', c, cur, hv, _, hg', _⟩
  · rw [hv]
    exact Far.nil_ g
  · rw [hv]
    refine Far.of_lt fun e1 => ?_
    subst e1
    have h2 := hg.symm.trans hg'
    injection h2 with h2
    injection h2 with _ h2
    exact ht h2
theorem Own.other {w : World} {lo hi : Nat} {e : TypeId} {v : Value} {l : List α} (h : Own enc w lo hi e v l) (p : Addr) (u : Value) (hp : Far v p.block) : Own enc (w.setCell p u) lo hi e v l :=
  h.keep fun g hg => heap_setCell_other w p g u fun e => hp (by rw [hg, e])
theorem Only.new {w w' : World} {lo hi : Nat} (h : Only lo hi w w') (p : Addr) (u : Value) (hp : w.heap.size ≤ p.block) : Only lo hi w (w'.setCell p u) :=
  ⟨h.os, h.tape, h.output, by have := h.size; simpa using this, fun k hk hne => (heap_setCell_other w' p k u (by omega)).trans (h.block k hk hne)⟩
end Go.Proofs.Ytnfnmdeiaihgnaa
