/- How a string is indexed and compared over this program. -/
import Derived.Test.YtnfnmdeiaihgnaaBase
namespace Go.Proofs.Ytnfnmdeiaihgnaa
open Go.RowKit

theorem at_toList (s : ByteArray) (j : Nat) (h : j < s.size) : s.data.toList[j]? = some s[j] := by
  obtain ⟨⟨l⟩⟩ := s
  have h' : j < l.length := h
  simp [List.getElem?_eq_getElem h']
  rfl
theorem toList_len (s : ByteArray) : s.data.toList.length = s.size := rfl
theorem take_more (l : List UInt8) (k : Nat) (x : UInt8) (hx : l[k]? = some x) : l.take (k + 1) = l.take k ++ [x] := by
  rw [List.take_add_one, hx]
  rfl
set_option maxRecDepth 100000 in
/-- Indexing a string: the byte there. -/
theorem index_str (s : ByteArray) (j : Nat) (c : UInt8) (hc : s.data.toList[j]? = some c) (W : World) :
    (Instr.index 9 (.string s) (.int .i64 (j : Int))).run Try.prog W = .ok (.int .u8 (c.toNat : Int)) W := by
  have hlt : j < s.size := by
    have := (List.getElem?_eq_some_iff.1 hc).1
    rwa [toList_len] at this
  rw [at_toList s j hlt] at hc
  injection hc with hc
  rw [run_index_string W _ _ _ _ Try.underlying9, dif_pos ⟨by omega, by omega⟩, ← hc]
  rfl
theorem str_get (s : ByteArray) (j : Nat) (h : j < s.size) : ∃ c, s.data.toList[j]? = some c := ⟨_, at_toList s j h⟩
end Go.Proofs.Ytnfnmdeiaihgnaa
