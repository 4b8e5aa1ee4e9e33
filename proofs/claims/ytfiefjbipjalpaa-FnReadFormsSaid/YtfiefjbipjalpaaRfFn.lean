/- All schemes are schemes. -/
import Derived.Test.YtfiefjbipjalpaaFoSo
namespace Go.Proofs.Ytfiefjbipjalpaa
open Go.RowKit

namespace Fo
theorem sch_mem (n : Nat) : ∀ (a b : Nat) (s t : List UInt8), a + b = n → t ∈ sch s a b → nX t = nX s + a ∧ nY t = nY s + b ∧ (ok s = true → ok t = true) := by
  induction n with
  | zero =>
    intro a b s t h ht
    obtain rfl : a = 0 := by omega
    obtain rfl : b = 0 := by omega
    rw [sch_00] at ht
    obtain rfl := List.mem_singleton.1 ht
    exact ⟨rfl, rfl, id⟩
  | succ n ih =>
    intro a b s t h ht
    have q66 : ∀ a b, a + b = n → t ∈ sch (s ++ [66]) a b → nX t = nX s + a ∧ nY t = nY s + (b + 1) ∧ (ok s = true → ok t = true) := fun a b h ht => by
      obtain ⟨h1, h2, h3⟩ := ih a b _ t h ht
      rw [nX_snoc, if_neg (by decide)] at h1
      rw [nY_snoc, if_neg (by decide)] at h2
      exact ⟨h1, by omega, fun hs => h3 (by rw [ok_snoc, hs]; rfl)⟩
    have q84 : ∀ a b, a + b = n → t ∈ sch (s ++ [84]) a b → nX t = nX s + a ∧ nY t = nY s + (b + 1) ∧ (ok s = true → ok t = true) := fun a b h ht => by
      obtain ⟨h1, h2, h3⟩ := ih a b _ t h ht
      rw [nX_snoc, if_neg (by decide)] at h1
      rw [nY_snoc, if_neg (by decide)] at h2
      exact ⟨h1, by omega, fun hs => h3 (by rw [ok_snoc, hs]; rfl)⟩
    have q76 : ∀ a b, a + b = n → t ∈ sch (s ++ [76]) a b → nX t = nX s + (a + 1) ∧ nY t = nY s + b ∧ (ok s = true → ok t = true) := fun a b h ht => by
      obtain ⟨h1, h2, h3⟩ := ih a b _ t h ht
      rw [nX_snoc, if_pos (by decide)] at h1
      rw [nY_snoc, if_pos (by decide)] at h2
      exact ⟨by omega, h2, fun hs => h3 (by rw [ok_snoc, hs]; rfl)⟩
    have q82 : ∀ a b, a + b = n → t ∈ sch (s ++ [82]) a b → nX t = nX s + (a + 1) ∧ nY t = nY s + b ∧ (ok s = true → ok t = true) := fun a b h ht => by
      obtain ⟨h1, h2, h3⟩ := ih a b _ t h ht
      rw [nX_snoc, if_pos (by decide)] at h1
      rw [nY_snoc, if_pos (by decide)] at h2
      exact ⟨by omega, h2, fun hs => h3 (by rw [ok_snoc, hs]; rfl)⟩
    rcases a with _ | a <;> rcases b with _ | b
    · omega
    · rw [sch_b, List.mem_append] at ht
      rcases ht with ht | ht
      · exact q66 0 b (by omega) ht
      · exact q84 0 b (by omega) ht
    · rw [sch_a, List.mem_append] at ht
      rcases ht with ht | ht
      · exact q76 a 0 (by omega) ht
      · exact q82 a 0 (by omega) ht
    · rw [sch_ab, List.mem_append, List.mem_append, List.mem_append] at ht
      rcases ht with ((ht | ht) | ht) | ht
      · exact q66 (a + 1) b (by omega) ht
      · exact q76 a (b + 1) (by omega) ht
      · exact q82 a (b + 1) (by omega) ht
      · exact q84 (a + 1) b (by omega) ht
theorem sch_scheme {a b : Int} (hs : sheet a b = true) {t : List UInt8} (ht : t ∈ sch [] (pw a) (pw b)) : scheme a b t = true := by
  obtain ⟨h1, h2, h3⟩ := sch_mem _ _ _ [] t rfl ht
  unfold scheme
  rw [hs, h3 rfl]
  have e1 : nX t = pw a := by rw [h1]; show 0 + _ = _; omega
  have e2 : nY t = pw b := by rw [h2]; show 0 + _ = _; omega
  simp [e1, e2]
end Fo


end Go.Proofs.Ytfiefjbipjalpaa
