/- The program's memory of spares: a map keyed by an array of twelve numbers. -/
import Derived.Test.YtbhkpjjedeinpaaRlHp
import Derived.Test.YtbhkpjjedeinpaaRiVt
import Derived.Maps.OwnOps
import Derived.Maps.OwnSet
import Derived.DeepKeys4
namespace Go.Proofs.Ytbhkpjjedeinpaa
open Go.RowKit Go.Maps
set_option linter.unusedVariables false

theorem laidOutR : laidOutB Try.prog = true := by kernel_rfl
set_option maxRecDepth 100000 in
theorem rowAr : (74 : TypeId) < Try.prog.types.size := of_decide_eq_true (by kernel_rfl)
theorem keyTyAr : Try.prog.keyTypeAt (Try.prog.types.size + 1) 74 = true := by kernel_rfl
set_option maxRecDepth 100000 in
theorem wideAr : (match Try.prog.underlying 74 with | some (.array _ _) | some (.struct _) => true | _ => false) = true := by kernel_rfl
set_option maxRecDepth 100000 in
theorem lawAr : Keyed Try.prog 74 := Keyed.of_law (deep_law_laid laidOutR (m := 3) (by omega) rowAr (by kernel_rfl) wideAr)
theorem zeroB (w : World) : (zeroValue 4).run Try.prog w = .ok (.bool false) w := by kernel_rfl
theorem cellsAr : Try.prog.cellsOf 74 = 12 := by kernel_rfl
theorem cellsIr : Try.prog.cellsOf 2 = 1 := by kernel_rfl
set_option maxRecDepth 100000 in
theorem typesSzR : ∃ m, Try.prog.types.size = m + 1 := ⟨_, (Nat.succ_pred_eq_of_pos (Nat.lt_of_le_of_lt (Nat.zero_le _) rowAr)).symm⟩
set_option maxRecDepth 100000 in
theorem keyAr12 (x0 x1 x2 x3 x4 x5 x6 x7 x8 x9 x10 x11 : Int) (h0 : (Lit.int .i64 x0).wf = true) (h1 : (Lit.int .i64 x1).wf = true) (h2 : (Lit.int .i64 x2).wf = true) (h3 : (Lit.int .i64 x3).wf = true) (h4 : (Lit.int .i64 x4).wf = true) (h5 : (Lit.int .i64 x5).wf = true) (h6 : (Lit.int .i64 x6).wf = true) (h7 : (Lit.int .i64 x7).wf = true) (h8 : (Lit.int .i64 x8).wf = true) (h9 : (Lit.int .i64 x9).wf = true) (h10 : (Lit.int .i64 x10).wf = true) (h11 : (Lit.int .i64 x11).wf = true) : ∃ kl, keyOf Try.prog 74 (.agg #[.int .i64 x0, .int .i64 x1, .int .i64 x2, .int .i64 x3, .int .i64 x4, .int .i64 x5, .int .i64 x6, .int .i64 x7, .int .i64 x8, .int .i64 x9, .int .i64 x10, .int .i64 x11]) = some kl := by
  obtain ⟨m, hm⟩ := typesSzR
  have hk : Try.prog.keyType 74 = true := keyTyAr
  have hf : (Value.agg #[.int .i64 x0, .int .i64 x1, .int .i64 x2, .int .i64 x3, .int .i64 x4, .int .i64 x5, .int .i64 x6, .int .i64 x7, .int .i64 x8, .int .i64 x9, .int .i64 x10, .int .i64 x11]).formed Try.prog 74 = true := by simp [Value.formed, Try.underlying74, cellsAr]
  unfold keyOf
  rw [Try.underlying74]
  simp only [hk, hf, Bool.and_self, if_true, hm]
  simp [Program.keyLits, Try.underlying74, Try.underlying2, cellsAr, cellsIr, Value.cells, List.range_succ, h0, h1, h2, h3, h4, h5, h6, h7, h8, h9, h10, h11]
theorem twelve {l : List Int} (h : l.length = 12) : ∃ x0 x1 x2 x3 x4 x5 x6 x7 x8 x9 x10 x11, l = [x0, x1, x2, x3, x4, x5, x6, x7, x8, x9, x10, x11] := by
  match l, h with
  | [x0, x1, x2, x3, x4, x5, x6, x7, x8, x9, x10, x11], _ => exact ⟨x0, x1, x2, x3, x4, x5, x6, x7, x8, x9, x10, x11, rfl⟩
theorem keyAr {l : List Int} (hl : l.length = 12) (hb : ∀ x ∈ l, 0 ≤ x ∧ x ≤ 100000) : ∃ kl, keyOf Try.prog 74 (.agg (l.map I).toArray) = some kl := by
  obtain ⟨x0, x1, x2, x3, x4, x5, x6, x7, x8, x9, x10, x11, rfl⟩ := twelve hl
  have hw : ∀ x ∈ [x0, x1, x2, x3, x4, x5, x6, x7, x8, x9, x10, x11], (Lit.int .i64 x).wf = true := fun x hx => by have := hb x hx; exact WalkArith.wf_i64 (by omega)
  exact keyAr12 x0 x1 x2 x3 x4 x5 x6 x7 x8 x9 x10 x11 (hw x0 (by simp)) (hw x1 (by simp)) (hw x2 (by simp)) (hw x3 (by simp)) (hw x4 (by simp)) (hw x5 (by simp)) (hw x6 (by simp)) (hw x7 (by simp)) (hw x8 (by simp)) (hw x9 (by simp)) (hw x10 (by simp)) (hw x11 (by simp))
theorem agg_inj {l l' : List Int} (h : Value.agg (l.map I).toArray = Value.agg (l'.map I).toArray) : l = l' := by
  injection h with h
  have h2 : l.map I = l'.map I := by simpa using h
  have hi : Function.Injective (I : Int → Value) := fun x y hxy => by injection hxy
  exact (List.map_inj_right fun x y hxy => hi hxy).1 h2
/-- All that the map tells is hopeless. -/
def Memo (r : Int) (s : List Int) (m : Nat) (D : DataW Unit) : Prop :=
  IsMap D ∧ ∀ (K : List Int) (kl : Lit), K.length = 12 → keyOf Try.prog 74 (.agg (K.map I).toArray) = some kl → D.atKey kl (.lit (.bool false)) = .lit (.bool true) → Rl.Hop r s m K
theorem Memo.zero (r : Int) (s : List Int) (m : Nat) : Memo r s m (.map []) := ⟨isMap_empty, fun K kl _ _ h => by simp [DataW.atKey] at h⟩
set_option maxRecDepth 100000 in
theorem Memo.step {r : Int} {s : List Int} {m : Nat} {D : DataW Unit} {K : List Int} {kl : Lit} (h : Memo r s m D) (hk : keyOf Try.prog 74 (.agg (K.map I).toArray) = some kl) (hh : Rl.Hop r s m K) : Memo r s m (D.put kl (.lit (.bool true))) := by
  refine ⟨h.1.put _ _, fun K' kl' hl' hk' ha => ?_⟩
  by_cases he : kl' = kl
  · subst he
    obtain rfl := agg_inj (lawAr.inj hk' hk)
    exact hh
  · rw [atKey_put_other he] at ha
    exact h.2 K' kl' hl' hk' ha
set_option maxRecDepth 100000 in
theorem look_bool {w : World} {b n : Nat} {D : DataW Unit} {key : Value} {kl : Lit} (h : w.ownsMap Try.prog 74 (plainElem Try.prog 4) b n D) (hk : keyOf Try.prog 74 key = some kl) :
    ∃ v, (Instr.lookup 73 (.map (some b)) key false).run Try.prog w = .ok (.bool v) w ∧ D.atKey kl (.lit (.bool false)) = .lit (.bool v) := by
  obtain ⟨v, ps, hrun, hv⟩ := h.lookup lawAr Try.underlying73 (zeroB w) (plainElem_bool Try.underlying4 false) hk
  unfold plainElem at hv
  rw [Try.underlying4] at hv
  cases v <;> simp at hv
  exact ⟨_, hrun, hv.1.symm⟩
end Go.Proofs.Ytbhkpjjedeinpaa
