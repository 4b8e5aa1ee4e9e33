/- The contract of the program's CreasesOf. -/
import Derived.Test.YtjpfbonnohodhaaGreatDoorStFs
import Derived.Test.YtjpfbonnohodhaaGreatDoorStMk
import Derived.Test.YtjpfbonnohodhaaGreatDoorInv2
import Derived.Test.YtjpfbonnohodhaaGreatDoorBld2
namespace Go.Proofs.YtjpfbonnohodhaaGreatDoor
open Go.RowKit Go.Shelf

def crR (l : List UInt8) : ByteArray := if St.foldsB l = true then ⟨(St.crB (St.crI l)).toArray⟩ else ⟨#[]⟩
theorem inv_range (l : List Int) (k : Nat) : ∀ x ∈ St.invTo l k, 0 ≤ x ∧ (x < (k : Int) ∨ x = 0) := by
  induction k with
  | zero =>
    intro x hx
    simp [St.invTo] at hx
    omega
  | succ k ih =>
    intro x hx
    rw [St.invTo] at hx
    rcases List.mem_or_eq_of_mem_set hx with hx | hx
    · have := ih x hx
      omega
    · subst hx
      omega
theorem cri_at (st : List Int) (n k : Nat) (P P2 x : Int) (hk : k < n - 1) (h1 : (St.invTo (st.map St.cellOf) n)[k]? = some P) (h2 : (St.invTo (st.map St.cellOf) n)[k + 1]? = some P2) (h3 : st[P.toNat]? = some x) :
    (St.crIof st n)[k]? = some (if decide (x < 0) = decide (P < P2) then 86 else 77) := by
  unfold St.crIof
  simp only [List.getElem?_map, List.getElem?_range hk, Option.map_some, List.getD_eq_getElem?_getD, h1, h2, Option.getD_some, h3]
theorem cri_len (st : List Int) (n : Nat) : (St.crIof st n).length = n - 1 := by simp [St.crIof]
theorem crB_next {l : List Nat} {k v : Nat} (h : l[k]? = some v) : St.crB (l.take (k + 1)) = St.crB (l.take k) ++ [UInt8.ofNat v] := by
  rw [List.take_add_one, h]
  simp [St.crB]
theorem ord_cr {l : List UInt8} (hf : St.foldsB l = true) : isOrd ((St.stack l).map St.cellOf) := by
  have hc := St.cr_facts hf
  have hl := stack_len l hf
  refine ⟨?_, fun x hx => ?_, hc.nodup⟩
  · rw [List.length_map, hl]
    exact pow_le6 (St.folds_len hf)
  · rw [List.mem_map] at hx
    obtain ⟨y, hy, rfl⟩ := hx
    rw [List.length_map, hl]
    exact hc.range y hy
theorem stack_in {l : List UInt8} (hf : St.foldsB l = true) : ∀ x ∈ St.stack l, -9223372036854775808 ≤ x ∧ x ≤ 9223372036854775807 := by
  intro x hx
  rw [← marks_map l hf, List.mem_map] at hx
  obtain ⟨p, _, rfl⟩ := hx
  have := mkB_small l p (St.folds_len hf)
  omega

end Go.Proofs.YtjpfbonnohodhaaGreatDoor
