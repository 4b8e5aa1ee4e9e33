/- Contracts of NestedPages, NestedPlace and PartnerOf, the program's and the model's: the same numbers and codes. -/
import Derived.Test.YtamnhbambklmkaaSgMath
import Derived.Test.YtamnhbambklmkaaIn
namespace Go.Proofs.Ytamnhbambklmkaa
open Go.RowKit

theorem Sg.idx_first {p : Int} : ∀ {L : List Int} {k : Nat}, L[k]? = some p → p ∉ L.take k → L.idxOf p = k := by
  intro L
  induction L with
  | nil => intro k h; simp at h
  | cons a L ih =>
    intro k h hn
    match k, h with
    | 0, h => simp at h; subst h; simp
    | k + 1, h =>
      have h1 : L[k]? = some p := by simpa using h
      rw [List.take_succ_cons, List.mem_cons] at hn
      have h2 : ¬ a = p := fun e => hn (.inl e.symm)
      have := ih h1 (fun e => hn (.inr e))
      have hb : (a == p) = false := by simpa using h2
      rw [List.idxOf_cons, hb, this]
      rfl

theorem canNest_any (n : Int) (b : Bool) (w : World) (hb : decide (1 ≤ n ∧ n ≤ 64) = b) :
    Calls Try.prog 95 #[.int .i64 n] w fun e w' => e = .returned (.bool b) ∧ w = w' := by
  have HB := Lib.hid hb
  clear hb
  by_cases h1 : 1 ≤ n
  · go_enter Try.func95, Try.ntmps95
    go_wp2
    go_ret
    exact ⟨ret_b (by rw [← HB.out]; simp [h1]), rfl⟩
  · have h1' : n < 1 := by omega
    go_enter Try.func95, Try.ntmps95
    go_wp2
    go_ret
    exact ⟨ret_b (by rw [← HB.out]; simp; omega), rfl⟩

/-- The four pages as a new row. -/
def FourP (w : World) (n k : Int) (e : Ending) (w' : World) : Prop :=
  ∃ g, e = .returned (.slice (some ⟨g, 0, none⟩) 4 4) ∧ Own I w' w.heap.size w'.heap.size 2 (.slice (some ⟨g, 0, none⟩) 4 4) (Sg.four n k) ∧ Below w.heap.size w w'
theorem FourP.mk_ (w : World) (n k : Int) : FourP w n k (.returned (.slice (some ⟨w.heap.size, 0, none⟩) 4 4)) (w.alloc (.cells #[.int .i64 (4 * n - 2 * k), .int .i64 (2 * k + 1), .int .i64 (2 * k + 2), .int .i64 (4 * n - 2 * k - 1)] 2)) :=
  ⟨_, rfl, Own.here (World.ownsRow_lit w #[.int .i64 (4 * n - 2 * k), .int .i64 (2 * k + 1), .int .i64 (2 * k + 2), .int .i64 (4 * n - 2 * k - 1)] 4 (Nat.le_refl _) (by unfold maxLen; omega) rfl) rfl, (Below.refl _ _).alloc (Nat.le_refl _) _⟩

theorem Sg.np_yes {n k : Int} {R : List Int} {C : Int} (h : Sg.npOk n k = true) (hR : Sg.npR n k = R) (hC : Sg.npC n k = C) : R = Sg.four n k ∧ C = 0 := by
  unfold Sg.npR at hR
  unfold Sg.npC at hC
  rw [h] at hR hC
  exact ⟨hR.symm, hC.symm⟩
theorem Sg.np_no {n k : Int} {R : List Int} {C : Int} (h : Sg.npOk n k = false) (hR : Sg.npR n k = R) (hC : Sg.npC n k = C) : R = [] ∧ C = 2 := by
  unfold Sg.npR at hR
  unfold Sg.npC at hC
  rw [h] at hR hC
  exact ⟨hR.symm, hC.symm⟩

theorem Sg.ns_no {n p a b c : Int} (h : Sg.nsOk n p = false) (ha : Sg.nsA n p = a) (hb : Sg.nsB n p = b) (hc : Sg.nsC n p = c) : a = 0 ∧ b = 0 ∧ c = 2 := by
  unfold Sg.nsA at ha
  unfold Sg.nsB at hb
  unfold Sg.nsC at hc
  rw [h] at ha hb hc
  exact ⟨ha.symm, hb.symm, hc.symm⟩
theorem Sg.ns_yes {n p a b c : Int} (h : Sg.nsOk n p = true) (ha : Sg.nsA n p = a) (hb : Sg.nsB n p = b) (hc : Sg.nsC n p = c) : a = Sg.nsK n p ∧ b = Sg.nsI n p ∧ c = 0 := by
  unfold Sg.nsA at ha
  unfold Sg.nsB at hb
  unfold Sg.nsC at hc
  rw [h] at ha hb hc
  exact ⟨ha.symm, hb.symm, hc.symm⟩

end Go.Proofs.Ytamnhbambklmkaa
