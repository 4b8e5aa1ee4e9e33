/- Contracts of the program's CanCut and of MakeCut, the program's and the model's. -/
import Derived.Test.YtbhofhobnbhhhaaGreatDoorGuLa
import Derived.Test.YtbhofhobnbhhhaaGreatDoorGuLb
namespace Go.Proofs.YtbhofhobnbhhhaaGreatDoor
open Go.RowKit
set_option linter.unusedVariables false

/-- Pieces and a code are handed back; the pieces are the call's own. -/
def PcC (w : World) (R : List Pc) (C : Int) (e : Ending) (w' : World) : Prop :=
  ∃ A n c, e = .returned (.tuple #[.slice A n c, .int .i64 C]) ∧ OwnS Pc.S w' w.heap.size w'.heap.size (.slice A n c) R ∧ n ≤ 1048576 ∧ Below w.heap.size w w'
theorem PcC.nil_ {w w' : World} {R : List Pc} {C C' : Int} (hR : R = []) (hC : C = C') (hb : Below w.heap.size w w') : PcC w R C (.returned (.tuple #[.slice none 0 0, .int .i64 C'])) w' := by
  subst hR hC
  exact ⟨none, 0, 0, rfl, OwnS.nil_, by omega, hb⟩
theorem PcC.mk_ {w w' : World} {R R' : List Pc} {C C' : Int} {A : Option Addr} {n c lo hi : Nat} (hR : R = R') (hC : C = C') (ho : OwnS Pc.S w' lo hi (.slice A n c) R') (h1 : w.heap.size ≤ lo) (h2 : hi ≤ w'.heap.size) (hn : n ≤ 1048576) (hb : Below w.heap.size w w') :
    PcC w R C (.returned (.tuple #[.slice A n c, .int .i64 C'])) w' := by
  subst hR hC
  exact ⟨A, n, c, rfl, ho.mono h1 h2, hn, hb⟩
theorem Gu.mk_inv {l : List Pc} {c : Ct} (h : Gu.okL l = false) : Gu.mkC l c = 1 ∧ Gu.mkR l c = [] := by
  have h1 : Gu.mkC l c = 1 := by unfold Gu.mkC; rw [h]; rfl
  exact ⟨h1, by unfold Gu.mkR; rw [h1]; rfl⟩
theorem Gu.mk_no {l : List Pc} {c : Ct} (h : Gu.okL l = true) (h2 : Gu.can l c = false) : Gu.mkC l c = 5 ∧ Gu.mkR l c = [] := by
  have h1 : Gu.mkC l c = 5 := by unfold Gu.mkC; rw [h, h2]; rfl
  exact ⟨h1, by unfold Gu.mkR; rw [h1]; rfl⟩
theorem Gu.mk_yes {l : List Pc} {c : Ct} (h : Gu.okL l = true) (h2 : Gu.can l c = true) : Gu.mkC l c = 0 ∧ Gu.mkR l c = Gu.cut l c := by
  have h1 : Gu.mkC l c = 0 := by unfold Gu.mkC; rw [h, h2]; rfl
  exact ⟨h1, by unfold Gu.mkR; rw [h1]; rfl⟩
theorem specLc_any (b o n c B : Nat) (l : List Pc) (i : Int) (a : Bool) (t : Int) (w : World) (h : RdS Pc.S w B (some ⟨b, o, none⟩) n l) (hB : B ≤ w.heap.size) (hok : Gu.okL l = true) (hc : n ≤ c) (hcan : Gu.canP l ⟨i, a, t⟩) :
    Calls Tryz.prog 40 #[.slice (some ⟨b, o, none⟩) n c, .agg #[.int .i64 i, .bool a, .int .i64 t]] w fun e w' => ∃ A' c', e = .returned (.slice A' (n + 1) c') ∧ OwnS Pc.S w' w.heap.size w'.heap.size (.slice A' (n + 1) c') (Gu.cut l ⟨i, a, t⟩) ∧ Below w.heap.size w w' := by
  obtain ⟨k, rfl⟩ : ∃ k : Nat, i = (k : Int) := ⟨i.toNat, by have := hcan.2.1; simp at this; omega⟩
  cases a
  · exact specLc_along b o n c B k l t w h hB hok hc hcan
  · exact specLc_across b o n c B k l t w h hB hok hc hcan
theorem implAf_any (b o n c B : Nat) (l : List Pc) (i : Int) (a : Bool) (t : Int) (w : World) (h : RdS Pc.S w B (some ⟨b, o, none⟩) n l) (hB : B ≤ w.heap.size) (hok : Gu.okL l = true) (hc : n ≤ c) (hcan : Gu.canP l ⟨i, a, t⟩) :
    Calls Tryz.prog 34 #[.slice (some ⟨b, o, none⟩) n c, .agg #[.int .i64 i, .bool a, .int .i64 t]] w fun e w' => ∃ A' c', e = .returned (.slice A' (n + 1) c') ∧ OwnS Pc.S w' w.heap.size w'.heap.size (.slice A' (n + 1) c') (Gu.cut l ⟨i, a, t⟩) ∧ Below w.heap.size w w' := by
  obtain ⟨k, rfl⟩ : ∃ k : Nat, i = (k : Int) := ⟨i.toNat, by have := hcan.2.1; simp at this; omega⟩
  exact after_any b o n c B k l a t w h hB hok hc hcan

end Go.Proofs.YtbhofhobnbhhhaaGreatDoor
