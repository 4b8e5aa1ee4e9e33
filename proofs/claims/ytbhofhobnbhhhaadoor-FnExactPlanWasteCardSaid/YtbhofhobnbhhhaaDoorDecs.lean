/- Contracts of strconv's decimal numerals. -/
import Derived.Test.YtbhofhobnbhhhaaDoorDcA
import Derived.Test.YtbhofhobnbhhhaaDoorShelf
import Derived.MakeChecks
import Derived.Lib.LaidTab
namespace Go.Proofs.YtbhofhobnbhhhaaDoor
open Go.RowKit

theorem fmt_int (x : Int) (w : World) (h0 : 0 ≤ x) (h1 : x ≤ 1000000000) (htab : Lib.TabIs Tryd.prog w "internal/strconv.uint64pow10" .u64 Lib.pow10Tab) :
    Calls Tryd.prog 94 #[.int .i64 x, .int .i64 10] w fun e w' => e = .returned (.string (dec x.toNat)) ∧ Below w.heap.size w w' := by
  refine (Tryd.strconv_FormatInt_10 x (by omega) (by omega) w htab).mono fun e w' h => ?_
  obtain ⟨he, k, os, hw⟩ := h
  subst hw
  refine ⟨by rw [he]; unfold Lib.itoa; rw [if_neg (by omega)]; rfl, rfl, rfl, rfl, by simp [Go.Sort.grow], fun i hi => ?_⟩
  show (w.heap ++ os)[i]? = _
  rw [Array.getElem?_append_left hi]

theorem tabIs_below {w w' : World} {nm : String} {k : IntKind} {zs : List Int} {B g : Nat} (h : Lib.TabIs Tryd.prog w nm k zs) (hb : Below B w w') (hg : Tryd.prog.globalNamed nm = some g) (hB : g < B) : Lib.TabIs Tryd.prog w' nm k zs := by
  unfold Lib.TabIs World.var? at h ⊢
  simp only [hg, Option.bind_some] at h ⊢
  rw [hb.block g hB]
  exact h

theorem gPow : Tryd.prog.globalNamed "internal/strconv.uint64pow10" = some 3 := by kernel_rfl
theorem gPowType : (Tryd.prog.globals[3]?).map (·.type) = some 190 := by kernel_rfl
theorem cellsPow : Tryd.prog.cellsOf 190 = 20 := by kernel_rfl
theorem cellsU64 : Tryd.prog.cellsOf 169 = 1 := by kernel_rfl

theorem tabIs_lt {w : World} {nm : String} {k : IntKind} {zs : List Int} {g : Nat} (h : Lib.TabIs Tryd.prog w nm k zs) (hg : Tryd.prog.globalNamed nm = some g) : g < w.heap.size := by
  unfold Lib.TabIs World.var? at h
  simp only [hg, Option.bind_some] at h
  rcases Nat.lt_or_ge g w.heap.size with hl | hl
  · exact hl
  · rw [Array.getElem?_eq_none hl] at h
    simp at h

end Go.Proofs.YtbhofhobnbhhhaaDoor
