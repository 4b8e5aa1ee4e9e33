/- Contracts of FindFolds, the model's and the program's: both answer ffR and ffC. -/
import Derived.Test.YtjpfbonnohodhaaGreatDoorStFs
import Derived.Test.YtjpfbonnohodhaaGreatDoorStMk
import Derived.Test.YtjpfbonnohodhaaGreatDoorStFind
import Derived.Test.YtjpfbonnohodhaaGreatDoorBld2
namespace Go.Proofs.YtjpfbonnohodhaaGreatDoor
open Go.RowKit Go.Shelf

/-- How the model's search ends. -/
def FindP (o : Option (List UInt8)) (w : World) (e : Ending) (w' : World) : Prop :=
  ∃ t b, e = .returned (.tuple #[.string t, .bool b]) ∧ (match o with | some r => b = true ∧ t = ⟨r.toArray⟩ | none => b = false) ∧ Below w.heap.size w w'
theorem FindP.some_ {o : Option (List UInt8)} {r : List UInt8} {w w' : World} {t : ByteArray} (ho : o = some r) (ht : t = ⟨r.toArray⟩) (hb : Below w.heap.size w w') : FindP o w (.returned (.tuple #[.string t, .bool true])) w' := by
  subst ho
  exact ⟨t, true, rfl, ⟨rfl, ht⟩, hb⟩
theorem FindP.none_ {o : Option (List UInt8)} {w w' : World} {t : ByteArray} (ho : o = none) (hb : Below w.heap.size w w') : FindP o w (.returned (.tuple #[.string t, .bool false])) w' := by
  subst ho
  exact ⟨t, false, rfl, rfl, hb⟩
theorem bytes_eq (s : ByteArray) : s = ⟨s.data.toList.toArray⟩ := by
  obtain ⟨⟨l⟩⟩ := s
  rfl
theorem snoc_list (s : ByteArray) (b : UInt8) : (s ++ (⟨#[b]⟩ : ByteArray)).data.toList = s.data.toList ++ [b] := by
  simp

end Go.Proofs.YtjpfbonnohodhaaGreatDoor
