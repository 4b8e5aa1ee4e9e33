/- One cut is appended, and it is told which blocks stay as they were and stay apart from the row. -/
import Derived.Test.YtbhofhobnbhhhaaDoorCt
import Derived.Deep.AppendLies
namespace Go.Proofs.YtbhofhobnbhhhaaDoor
open Go.RowKit
set_option linter.unusedVariables false

theorem OwnS.other {α : Type} {S : Shp α} {w : World} {lo hi : Nat} {v : Value} {l : List α} (h : OwnS S w lo hi v l) (p : Addr) (u : Value) (hp : Far v p.block) : OwnS S (w.setCell p u) lo hi v l :=
  h.keep fun g hg => heap_setCell_other w p g u fun e => hp (by rw [hg, e])
theorem OwnS.far_new {α : Type} {S : Shp α} {w : World} {lo hi g : Nat} {v : Value} {l : List α} (h : OwnS S w lo hi v l) (hg : w.heap.size ≤ g) : Far v g := fun e => by
  have := h.lt g e
  omega
theorem wp_pushKCt (w : World) {ops : Array Oper} {rest : List Oper} {o : Oper} {a : Act} {Qx : Exit → Act → World → Prop} (hgd : o.guard = none) (s x : Operand) (ts : TypeId)
    (ho : o.op = .call { callee := .builtin .append, args := #[s, x], argTypes := #[ts, ts] }) (ht : Tryd.prog.underlying ts = some (.slice 76))
    (A : Option Addr) (n c : Nat) (l : List Ct) (lo hi' : Nat) (hs : a.eval s = .slice A n c) (hown : OwnS Ct.S w lo hi' (.slice A n c) l) (y : Ct) (G : Nat)
    (hx : a.eval x = .slice (some ⟨G, 0, none⟩) 1 1) (hG : w.heap.size = G) (hn : n ≤ 1048576) (hbase : lo ≤ w.heap.size)
    (h : ∀ A' c' w', OwnS Ct.S w' lo w'.heap.size (.slice A' (n + 1) c') (l ++ [y]) → Only lo hi' w w' → Kept w w' (.slice A n c) (.slice A' (n + 1) c') → wpList Tryd.prog ops Qx rest (a.put o.dst (.slice A' (n + 1) c')) w') :
    wpList Tryd.prog ops Qx (o :: rest) a (w.alloc (.cells #[.int .i64 y.i, .bool y.a, .int .i64 y.t] 76)) := by
  subst hG
  obtain ⟨i0, hi0, hz0, hz1, hz2⟩ := info_parts infoCt
  have hl : l.length = n := hown.rd.1
  have hr := hown.1
  rw [hl] at hr
  refine wpList_append_lies _ hgd s x ts ho lo 76 i0 _ 3 24 ht hi0 hz0 hz1 hz2 rfl (by omega) (.slice A n c) n (l.flatMap Ct.S.enc) hs (hr.alloc _) ⟨w.heap.size, 0, none⟩ 1 1 y.enc hx rfl (World.news_of_block (heap_alloc_new w _)) (Ct.S.one y) (by omega) (by unfold maxLen; omega) (by omega) (by simp; omega) (w.heap.size + 1) (by simp) ?_
  intro g cap w' hown' hg hwhere _
  have hmap : l.flatMap Ct.S.enc ++ y.enc = (l ++ [y]).flatMap Ct.S.enc := by simp [Ct.S]
  rw [hmap] at hown'
  refine h (some ⟨g, 0, none⟩) cap w' (OwnS.here hown' (by simp [hl])) ?_ ?_
  · refine (Only.of_below ((Below.refl _ _).alloc (Nat.le_refl _) _) lo hi').trans (Only.grown hg fun g hg' => ?_)
    have := hown.lt g hg'
    omega
  · intro k hk hfar
    refine ⟨?_, ?_⟩
    · rw [hg.block k (by simp; omega) (fun e => hfar e.symm)]
      exact Below.heap_alloc w _ k hk
    · intro e
      simp only [Value.ownBlock, Option.some.injEq] at e
      rcases hwhere with hw | hw
      · exact hfar (by rw [hw, e])
      · omega
end Go.Proofs.YtbhofhobnbhhhaaDoor
