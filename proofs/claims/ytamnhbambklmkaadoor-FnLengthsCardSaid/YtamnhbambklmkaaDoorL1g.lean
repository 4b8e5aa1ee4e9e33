/- The law of LengthText, and the walk's table out of the row's list. -/
import Derived.Test.YtamnhbambklmkaaDoorDec
import Derived.MakeChecks
import Derived.Lib.LaidTab
namespace Go.Proofs.YtamnhbambklmkaaDoor
open Go.RowKit

theorem gPow : Tryd.prog.globalNamed "internal/strconv.uint64pow10" = some 0 := by kernel_rfl
theorem gPowType : (Tryd.prog.globals[0]?).map (·.type) = some 67 := by kernel_rfl
theorem cellsPow : Tryd.prog.cellsOf 67 = 20 := by kernel_rfl
theorem cellsU64 : Tryd.prog.cellsOf 52 = 1 := by kernel_rfl

theorem tabIs_lt {w : World} {nm : String} {k : IntKind} {zs : List Int} {g : Nat} (h : Lib.TabIs Tryd.prog w nm k zs) (hg : Tryd.prog.globalNamed nm = some g) : g < w.heap.size := by
  unfold Lib.TabIs World.var? at h
  simp only [hg, Option.bind_some] at h
  rcases Nat.lt_or_ge g w.heap.size with hl | hl
  · exact hl
  · rw [Array.getElem?_eq_none hl] at h
    simp at h

set_option maxHeartbeats 1000000 in
theorem w_LengthText (n : Int) (w : World) (hb : -9223372036854775808 ≤ n ∧ n ≤ 9223372036854775807) (htab : Lib.TabIs Tryd.prog w "internal/strconv.uint64pow10" .u64 Lib.pow10Tab) :
    Calls Tryd.prog 4 #[.int .i64 n] w fun e w' => e = .returned (.bool true) ∧ Below w.heap.size w w' := by
  have hlt := tabIs_lt htab gPow
  have HTAB : Hid (∀ w1, Below w.heap.size w w1 → Lib.TabIs Tryd.prog w1 "internal/strconv.uint64pow10" .u64 Lib.pow10Tab) := fun w1 h => tabIs_below htab h gPow hlt
  obtain ⟨s, hs⟩ : ∃ s, s = lenText n := ⟨_, rfl⟩
  have HS := Lib.hid hs
  clear htab hs
  go_enter Tryd.func4, Tryd.ntmps4
  go_wp2_with fail
  refine (specLen_any n _ hb).mono ?_
  rintro e w1 ⟨rfl, hb1⟩
  rw [← HS.out]
  go_wp2_with fail
  refine (implLen_any n _ _ hb (HTAB.out _ hb1) gPow (Nat.lt_of_lt_of_le hlt hb1.size)).mono ?_
  rintro e w2 ⟨rfl, hb2⟩
  rw [← HS.out]
  go_wp2_with fail
  all_goals go_ret
  all_goals exact ⟨rfl, hb1.trans (hb2.mono hb1.size)⟩
end Go.Proofs.YtamnhbambklmkaaDoor
