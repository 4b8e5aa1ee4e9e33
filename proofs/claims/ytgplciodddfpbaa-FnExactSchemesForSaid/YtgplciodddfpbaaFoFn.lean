/- Contracts of FindScheme, the model's and the program's. -/
import Derived.Test.YtgplciodddfpbaaFoEq
import Derived.Test.YtgplciodddfpbaaFoSo
namespace Go.Proofs.Ytgplciodddfpbaa
open Go.RowKit

namespace Fo
theorem sch_mem (n : Nat) : ∀ (a b : Nat) (s t : List UInt8), a + b = n → t ∈ sch s a b → nX t = nX s + a ∧ nY t = nY s + b ∧ (ok s = true → ok t = true) := by
  induction n with
  | zero =>
    intro a b s t h ht
    obtain rfl : a = 0 := by omega
    obtain rfl : b = 0 := by omega
    rw [sch_00] at ht
    obtain rfl := List.mem_singleton.1 ht
    exact ⟨rfl, rfl, id⟩
  | succ n ih =>
    intro a b s t h ht
    have q66 : ∀ a b, a + b = n → t ∈ sch (s ++ [66]) a b → nX t = nX s + a ∧ nY t = nY s + (b + 1) ∧ (ok s = true → ok t = true) := fun a b h ht => by
      obtain ⟨h1, h2, h3⟩ := ih a b _ t h ht
      rw [nX_snoc, if_neg (by decide)] at h1
      rw [nY_snoc, if_neg (by decide)] at h2
      exact ⟨h1, by omega, fun hs => h3 (by rw [ok_snoc, hs]; rfl)⟩
    have q84 : ∀ a b, a + b = n → t ∈ sch (s ++ [84]) a b → nX t = nX s + a ∧ nY t = nY s + (b + 1) ∧ (ok s = true → ok t = true) := fun a b h ht => by
      obtain ⟨h1, h2, h3⟩ := ih a b _ t h ht
      rw [nX_snoc, if_neg (by decide)] at h1
      rw [nY_snoc, if_neg (by decide)] at h2
      exact ⟨h1, by omega, fun hs => h3 (by rw [ok_snoc, hs]; rfl)⟩
    have q76 : ∀ a b, a + b = n → t ∈ sch (s ++ [76]) a b → nX t = nX s + (a + 1) ∧ nY t = nY s + b ∧ (ok s = true → ok t = true) := fun a b h ht => by
      obtain ⟨h1, h2, h3⟩ := ih a b _ t h ht
      rw [nX_snoc, if_pos (by decide)] at h1
      rw [nY_snoc, if_pos (by decide)] at h2
      exact ⟨by omega, h2, fun hs => h3 (by rw [ok_snoc, hs]; rfl)⟩
    have q82 : ∀ a b, a + b = n → t ∈ sch (s ++ [82]) a b → nX t = nX s + (a + 1) ∧ nY t = nY s + b ∧ (ok s = true → ok t = true) := fun a b h ht => by
      obtain ⟨h1, h2, h3⟩ := ih a b _ t h ht
      rw [nX_snoc, if_pos (by decide)] at h1
      rw [nY_snoc, if_pos (by decide)] at h2
      exact ⟨by omega, h2, fun hs => h3 (by rw [ok_snoc, hs]; rfl)⟩
    rcases a with _ | a <;> rcases b with _ | b
    · omega
    · rw [sch_b, List.mem_append] at ht
      rcases ht with ht | ht
      · exact q66 0 b (by omega) ht
      · exact q84 0 b (by omega) ht
    · rw [sch_a, List.mem_append] at ht
      rcases ht with ht | ht
      · exact q76 a 0 (by omega) ht
      · exact q82 a 0 (by omega) ht
    · rw [sch_ab, List.mem_append, List.mem_append, List.mem_append] at ht
      rcases ht with ((ht | ht) | ht) | ht
      · exact q66 (a + 1) b (by omega) ht
      · exact q76 a (b + 1) (by omega) ht
      · exact q82 a (b + 1) (by omega) ht
      · exact q84 (a + 1) b (by omega) ht
theorem sch_scheme {a b : Int} (hs : sheet a b = true) {t : List UInt8} (ht : t ∈ sch [] (pw a) (pw b)) : scheme a b t = true := by
  obtain ⟨h1, h2, h3⟩ := sch_mem _ _ _ [] t rfl ht
  unfold scheme
  rw [hs, h3 rfl]
  have e1 : nX t = pw a := by rw [h1]; show 0 + _ = _; omega
  have e2 : nY t = pw b := by rw [h2]; show 0 + _ = _; omega
  simp [e1, e2]
end Fo

/-- What FindScheme answers. -/
def fnF (lv : List Lv) (L : List (List UInt8)) : Option (List UInt8) := L.find? fun t => smB (LVs t) lv
def fnR (a b : Int) (lv : List Lv) : ByteArray := if Fo.sheet a b = true then (match fnF lv (Fo.sch [] (Fo.pw a) (Fo.pw b)) with | some t => ⟨t.toArray⟩ | none => ⟨#[]⟩) else ⟨#[]⟩
def fnC (a b : Int) (lv : List Lv) : Int := if Fo.sheet a b = true then (match fnF lv (Fo.sch [] (Fo.pw a) (Fo.pw b)) with | some _ => 0 | none => 4) else 1
theorem find_here {lv : List Lv} {L : List (List UInt8)} {k : Nat} {t : List UInt8} (ht : L[k]? = some t) (h : smB (LVs t) lv = true) (hp : fnF lv L = fnF lv (L.drop k)) : fnF lv L = some t := by
  have hlt := (List.getElem?_eq_some_iff.1 ht).1
  rw [hp, List.drop_eq_getElem_cons hlt]
  rw [List.getElem?_eq_getElem hlt] at ht
  injection ht with ht
  unfold fnF
  rw [ht, List.find?_cons, h]
theorem find_next {lv : List Lv} {L : List (List UInt8)} {k : Nat} {t : List UInt8} (ht : L[k]? = some t) (h : smB (LVs t) lv = false) (hp : fnF lv L = fnF lv (L.drop k)) : fnF lv L = fnF lv (L.drop (k + 1)) := by
  have hlt := (List.getElem?_eq_some_iff.1 ht).1
  rw [hp, List.drop_eq_getElem_cons hlt]
  rw [List.getElem?_eq_getElem hlt] at ht
  injection ht with ht
  unfold fnF
  rw [ht, List.find?_cons, h]
theorem find_end {lv : List Lv} {L : List (List UInt8)} {k : Nat} (hk : L.length = k) (hp : fnF lv L = fnF lv (L.drop k)) : fnF lv L = none := by
  rw [hp, List.drop_of_length_le (by omega)]
  rfl

end Go.Proofs.Ytgplciodddfpbaa
