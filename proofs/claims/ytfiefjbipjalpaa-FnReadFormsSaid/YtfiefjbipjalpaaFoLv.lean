/- Contracts of the program's list of all leaves, of FoldSheet and of FacesDown. -/
import Derived.Test.YtfiefjbipjalpaaFoLeaf
import Derived.Test.YtfiefjbipjalpaaFoIm
import Derived.OwnWalk
namespace Go.Proofs.Ytfiefjbipjalpaa
open Go.RowKit

/-- The leaves of a scheme, as they lie in memory. -/
def LVs (l : List UInt8) : List Lv := (Fo.leaves l).map Fo.Lf.v
theorem LVs_len (l : List UInt8) : (LVs l).length = 2 ^ l.length := by simp [LVs, Fo.leaves, Fo.stk_len]
theorem LVs_get (l : List UInt8) (k : Nat) (hk : k < 2 ^ l.length) : (LVs l)[k]? = some (Fo.leaf l.reverse 1 1 0 0 k).v := by
  unfold LVs Fo.leaves
  rw [List.getElem?_map, Fo.stk_get _ _ _ _ _ _ (by rw [List.length_reverse]; exact hk)]
  rfl
abbrev zLv : Lv := ⟨0, 0, false, false⟩
theorem made_four (n : Nat) : (madeCells (#[.int .i64 0, .int .i64 0, .bool false, .bool false] : Array Value) (n * 4)).toList = (List.replicate n zLv).flatMap Lv.enc := by
  induction n with
  | zero => simp [madeCells]
  | succ n ih =>
    rw [List.replicate_succ', List.flatMap_append, ← ih]
    unfold madeCells
    have hr : Array.range ((n + 1) * 4) = Array.range (n * 4) ++ #[n * 4, n * 4 + 1, n * 4 + 2, n * 4 + 3] := by
      apply Array.ext'
      simp [show (n + 1) * 4 = n * 4 + 1 + 1 + 1 + 1 from by omega, List.range_succ]
    rw [hr]
    have m0 : n * 4 % 4 = 0 := by omega
    have m1 : (n * 4 + 1) % 4 = 1 := by omega
    have m2 : (n * 4 + 2) % 4 = 2 := by omega
    have m3 : (n * 4 + 3) % 4 = 3 := by omega
    simp [m0, m1, m2, m3, Lv.enc]
section
variable {w : World} {lo hi n : Nat} {l : List Lv}
/-- A whole leaf is stored. -/
theorem OwnV.put {c k g : Nat} {x : Lv} (y : Lv) (h : OwnV w lo hi (.slice (some ⟨g, 0, none⟩) n c) l) (hx : l[k]? = some x) :
    OwnV ((((w.setCell ⟨g, k * 4, none⟩ (.int .i64 y.x)).setCell ⟨g, k * 4 + 1, none⟩ (.int .i64 y.y)).setCell ⟨g, k * 4 + 2, none⟩ (.bool y.fx)).setCell ⟨g, k * 4 + 3, none⟩ (.bool y.fy)) lo hi (.slice (some ⟨g, 0, none⟩) n c) (l.set k y) ∧
      Only lo hi w ((((w.setCell ⟨g, k * 4, none⟩ (.int .i64 y.x)).setCell ⟨g, k * 4 + 1, none⟩ (.int .i64 y.y)).setCell ⟨g, k * 4 + 2, none⟩ (.bool y.fx)).setCell ⟨g, k * 4 + 3, none⟩ (.bool y.fy)) := by
  have hk : k < l.length := (List.getElem?_eq_some_iff.1 hx).1
  have a1 := h.set_ (i := 0) (u := .int .i64 y.x) (y := ⟨y.x, x.y, x.fx, x.fy⟩) hx (by omega) rfl
  have a2 := a1.1.set_ (i := 1) (u := .int .i64 y.y) (x := ⟨y.x, x.y, x.fx, x.fy⟩) (y := ⟨y.x, y.y, x.fx, x.fy⟩) (by rw [List.getElem?_set_self hk]) (by omega) rfl
  have a3 := a2.1.set_ (i := 2) (u := .bool y.fx) (x := ⟨y.x, y.y, x.fx, x.fy⟩) (y := ⟨y.x, y.y, y.fx, x.fy⟩) (by rw [List.getElem?_set_self (by simpa using hk)]) (by omega) rfl
  have a4 := a3.1.set_ (i := 3) (u := .bool y.fy) (x := ⟨y.x, y.y, y.fx, x.fy⟩) (y := y) (by rw [List.getElem?_set_self (by simpa using hk)]) (by omega) rfl
  refine ⟨?_, (((a1.2.trans a2.2).trans a3.2).trans a4.2)⟩
  have := a4.1
  simpa [List.set_set] using this
end
theorem fill_step {α : Type} (l : List α) (z x : α) (k n : Nat) (hl : l.length = n) (hx : l[k]? = some x) (hk : k < n) :
    (l.take k ++ List.replicate (n - k) z).set k x = l.take (k + 1) ++ List.replicate (n - (k + 1)) z := by
  rw [show n - k = (n - (k + 1)) + 1 from by omega, List.replicate_succ, set_mid _ _ _ _ _ (by simp; omega), take_next l k x hx]
  simp

theorem Fo.scheme_len {a b : Int} {l : List UInt8} (h : Fo.scheme a b l = true) : l.length ≤ 6 ∧ Fo.nX l = Fo.pw a ∧ Fo.nY l = Fo.pw b ∧ Fo.side a = true ∧ Fo.side b = true ∧ Fo.ok l = true := by
  unfold Fo.scheme at h
  simp only [Bool.and_eq_true, beq_iff_eq] at h
  obtain ⟨⟨⟨h1, h2⟩, h3⟩, h4⟩ := h
  obtain ⟨h5, h6⟩ := Fo.sheet_parts h1
  have := Fo.nX_add_nY l
  have h7 := (Fo.side_pow h5).2
  have h8 := (Fo.side_pow h6).2
  exact ⟨by omega, h3, h4, h5, h6, h2⟩
theorem Fo.code_zero {a b : Int} {l : List UInt8} (h : Fo.code a b l = 0) : Fo.scheme a b l = true := by
  rw [← code_scheme]
  simpa using h
/-- What FoldSheet answers. -/
def foR (a b : Int) (l : List UInt8) : List Lv := if Fo.code a b l = 0 then LVs l else []
def VC (w : World) (R : List Lv) (C : Int) (e : Ending) (w' : World) : Prop :=
  ∃ A n c, e = .returned (.tuple #[.slice A n c, .int .i64 C]) ∧ OwnV w' w.heap.size w'.heap.size (.slice A n c) R ∧ n ≤ 64 ∧ Below w.heap.size w w'
theorem VC.nil_ {w w' : World} {R : List Lv} {C C' : Int} (hR : R = []) (hC : C = C') (hb : Below w.heap.size w w') : VC w R C (.returned (.tuple #[.slice none 0 0, .int .i64 C'])) w' := by
  subst hR hC
  exact ⟨none, 0, 0, rfl, OwnV.nil_, by omega, hb⟩
theorem VC.mk_ {w w' : World} {R R' : List Lv} {C C' : Int} {A : Option Addr} {n c lo hi : Nat} (hR : R = R') (hC : C = C') (ho : OwnV w' lo hi (.slice A n c) R') (h1 : w.heap.size ≤ lo) (h2 : hi ≤ w'.heap.size) (hn : n ≤ 64) (hb : Below w.heap.size w w') :
    VC w R C (.returned (.tuple #[.slice A n c, .int .i64 C'])) w' := by
  subst hR hC
  exact ⟨A, n, c, rfl, ho.mono h1 h2, hn, hb⟩

/-- What FacesDown answers. -/
def fdR (a b : Int) (l : List UInt8) : Nat := (foR a b l).countP Lv.down
theorem cp_next (l : List Lv) (k : Nat) (x : Lv) (hx : l[k]? = some x) : (l.take (k + 1)).countP Lv.down = (l.take k).countP Lv.down + (if x.down = true then 1 else 0) := by
  rw [take_next l k x hx, List.countP_append]
  simp [List.countP_cons]
theorem cp_le (l : List Lv) (k : Nat) : (l.take k).countP Lv.down ≤ k := Nat.le_trans List.countP_le_length (by rw [List.length_take]; omega)

end Go.Proofs.Ytfiefjbipjalpaa
