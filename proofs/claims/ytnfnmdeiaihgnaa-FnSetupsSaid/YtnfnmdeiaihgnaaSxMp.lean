/- The program's map of units by their letters, and how it is asked. -/
import Derived.Test.YtnfnmdeiaihgnaaSxVt
import Derived.Maps.OwnOps
import Derived.Maps.OwnSet
import Derived.MapKept
import Derived.DeepKeys4
namespace Go.Proofs.Ytnfnmdeiaihgnaa
open Go.RowKit Go.Maps
set_option linter.unusedVariables false

abbrev Su.fn (f : FuncId) : Value := .func (.func f) #[] #[]
abbrev Su.fL : Value := Su.fn 90
abbrev Su.fR : Value := Su.fn 91
abbrev Su.fT : Value := Su.fn 92
abbrev Su.fB : Value := Su.fn 93
abbrev Su.u8 (x : Int) : Value := .int .u8 x
def Su.es1 : Array MapEntry := #[{ key := Su.u8 76, val := Su.fL, born := 0 }]
def Su.es2 : Array MapEntry := #[{ key := Su.u8 76, val := Su.fL, born := 0 }, { key := Su.u8 82, val := Su.fR, born := 1 }]
def Su.es3 : Array MapEntry := #[{ key := Su.u8 76, val := Su.fL, born := 0 }, { key := Su.u8 82, val := Su.fR, born := 1 }, { key := Su.u8 84, val := Su.fT, born := 2 }]
def Su.es4 : Array MapEntry := #[{ key := Su.u8 76, val := Su.fL, born := 0 }, { key := Su.u8 82, val := Su.fR, born := 1 }, { key := Su.u8 84, val := Su.fT, born := 2 }, { key := Su.u8 66, val := Su.fB, born := 3 }]
theorem alloc_set (w : World) (o o' : Obj) : { (w.alloc o) with heap := (w.alloc o).heap.setIfInBounds w.heap.size o' } = w.alloc o' := by
  have h : (w.heap.push o).setIfInBounds w.heap.size o' = w.heap.push o' := by
    apply Array.ext_getElem?
    intro i
    rw [Array.getElem?_setIfInBounds, Array.getElem?_push, Array.getElem?_push]
    by_cases e : w.heap.size = i
    · subst e; simp
    · rw [if_neg e, if_neg (fun h => e h.symm), if_neg (fun h => e h.symm)]
  show ({ heap := (w.heap.push o).setIfInBounds w.heap.size o', tape := w.tape, drawn := w.drawn, os := w.os, output := w.output } : World) = { heap := w.heap.push o', tape := w.tape, drawn := w.drawn, os := w.os, output := w.output }
  rw [h]
theorem ins_u8 (w : World) (es : Array MapEntry) (c : Nat) (x : Int) (v : Value) (hf : Instr.findNow (.int .u8) (Su.u8 x) es.toList 0 = some none) :
    (Instr.mapUpdate 79 (.map (some w.heap.size)) (Su.u8 x) v).run Try.prog (w.alloc (.map es c)) = .ok () (w.alloc (.map (es.push { key := Su.u8 x, val := v, born := c }) (c + 1))) := by
  have hb : (w.alloc (.map es c)).heap[w.heap.size]? = some (.map es c) := (MapKept.heap_alloc w _).1
  have hc : (Instr.checkKey false 10000 5 (Su.u8 x)).run Try.prog (w.alloc (.map es c)) = .ok () (w.alloc (.map es c)) := MapKept.run_checkKey (k := Su.u8 x) Try.underlying5 (by simp [MapKept.IsKey]) false 9999
  have hs := alloc_set w (.map es c) (.map (es.push { key := Su.u8 x, val := v, born := c }) (c + 1))
  simp [Instr.mapUpdate, run_underlying Try.underlying79, MapKept.run_getObj_map hb, hc, MapKept.run_findKey Try.underlying5 hf, MapKept.run_setObj_map _ hb, Result.andThen]
  exact hs
theorem look_u8 {w : World} {g : Nat} (hb : w.heap[g]? = some (.map Su.es4 4)) (x : Int) (i : Nat) (v : Value) (hf : Instr.findNow (.int .u8) (Su.u8 x) Su.es4.toList 0 = some (some (i, v))) :
    (Instr.lookup 79 (.map (some g)) (Su.u8 x) false).run Try.prog w = .ok v w := by
  have hc : (Instr.checkKey false 10000 5 (Su.u8 x)).run Try.prog w = .ok () w := MapKept.run_checkKey (k := Su.u8 x) Try.underlying5 (by simp [MapKept.IsKey]) false 9999
  have he : Su.es4.isEmpty = false := rfl
  simp [Instr.lookup, run_underlying Try.underlying79, MapKept.run_getObj_map hb, he, hc, MapKept.run_findKey Try.underlying5 hf, Result.andThen]
/-- The map of units is new and holds the four letters. -/
theorem wpList_ins {P : Program} (w w' : World) {ops : Array Oper} {rest : List Oper} {o : Oper} {a : Act} {Q : Exit → Act → World → Prop} (hg : o.guard = none) (m x v : Operand) (t : TypeId) (hop : o.op = Op.insert t m x v)
    (mv xv vv : Value) (hm : a.eval m = mv) (hx : a.eval x = xv) (hv : a.eval v = vv) (hrun : (Instr.mapUpdate t mv xv vv).run P w = .ok () w') (h : wpList P ops Q rest (a.put o.dst undef) w') : wpList P ops Q (o :: rest) a w := by
  refine wpList_plain hg fun K' hK' => ?_
  unfold Oper.wp
  simp [execOp, hop, hm, hx, hv, hrun, Result.andThen]
  exact hK' _ _ h
set_option maxRecDepth 100000 in
theorem units_any (w : World) :
    Calls Try.prog 54 #[] w fun e w' => e = .returned (.map (some w.heap.size)) ∧ w' = w.alloc (.map Su.es4 4) := by
  have hmm := @run_makeMap Try.prog
  have h1 := ins_u8 w #[] 0 76 Su.fL rfl
  have h2 := ins_u8 w Su.es1 1 82 Su.fR rfl
  have h3 := ins_u8 w Su.es2 2 84 Su.fT rfl
  have h4 := ins_u8 w Su.es3 3 66 Su.fB rfl
  have e1 : (#[] : Array MapEntry).push { key := Su.u8 76, val := Su.fL, born := 0 } = Su.es1 := rfl
  have e2 : Su.es1.push { key := Su.u8 82, val := Su.fR, born := 1 } = Su.es2 := rfl
  have e3 : Su.es2.push { key := Su.u8 84, val := Su.fT, born := 2 } = Su.es3 := rfl
  have e4 : Su.es3.push { key := Su.u8 66, val := Su.fB, born := 3 } = Su.es4 := rfl
  rw [e1] at h1
  rw [e2] at h2
  rw [e3] at h3
  rw [e4] at h4
  clear e1 e2 e3 e4
  go_enter Try.func54, Try.ntmps54
  go_wp2_with (first | refine wpList_ins _ _ rfl _ _ _ _ rfl _ _ _ rfl rfl rfl h1 ?_ | refine wpList_ins _ _ rfl _ _ _ _ rfl _ _ _ rfl rfl rfl h2 ?_ | refine wpList_ins _ _ rfl _ _ _ _ rfl _ _ _ rfl rfl rfl h3 ?_ | refine wpList_ins _ _ rfl _ _ _ _ rfl _ _ _ rfl rfl rfl h4 ?_)
  go_ret
  exact ⟨rfl, rfl⟩
end Go.Proofs.Ytnfnmdeiaihgnaa
