/- Contract of the program's ReadLength, over what the standard library's tables and errors hold. -/
import Derived.Test.YtbhofhobnbhhhaaDoorReadMath2
import Derived.Test.YtbhofhobnbhhhaaDoorReadSpec

import Derived.Shelf.Strconv.ErrVarParseInt
import Derived.Shelf.Strings.Shaped
import Derived.Lib.AtoiErrMem
namespace Go.Proofs.YtbhofhobnbhhhaaDoor
open Go.RowKit

/-- What the library's variables hold where ReadLength is called. -/
structure Lb (w : World) : Prop where
  tab : Lib.TabIs Tryd.prog w "internal/strconv.uint64pow10" .u64 Lib.pow10Tab
  ml : ∃ m, w.cell? ⟨0, 0, none⟩ = some (.int .i64 m)
  sx : ∃ t p, w.cell? ⟨1, 0, none⟩ = some (.iface t p)
  rg : ∃ t p, w.cell? ⟨2, 0, none⟩ = some (.iface t p)
theorem Lb.lt {w : World} (h : Lb w) : 3 < w.heap.size := tabIs_lt h.tab gPow
theorem Lb.below {w w' : World} (h : Lb w) (hb : Below w.heap.size w w') : Lb w' :=
  ⟨tabIs_below h.tab hb gPow h.lt, h.ml.imp fun _ h => cell_later hb h, h.sx.imp fun _ h => h.imp fun _ h => cell_later hb h, h.rg.imp fun _ h => h.imp fun _ h => cell_later hb h⟩

/-- How ParseInt ends. -/
def ParE (r : Lib.NumEnd Int) (w : World) (e : Ending) (w' : World) : Prop :=
  (∃ v, r = .ok v ∧ e = .returned (.tuple #[.int .i64 v, .nilIface]) ∧ Below w.heap.size w w') ∨
  ((∀ v, r ≠ .ok v) ∧ ∃ x t p, e = .returned (.tuple #[.int .i64 x, .iface t p]) ∧ Below w.heap.size w w')
theorem parse_any (s : ByteArray) (w : World) (h : Lb w) (hs : s.size ≤ 1048576) :
    Calls Tryd.prog 91 #[.string s, .int .i64 10, .int .i64 64] w (ParE (Lib.atoiAll s.data.toList) w) := by
  obtain ⟨t1, p1, h1⟩ := h.sx
  obtain ⟨t2, p2, h2⟩ := h.rg
  have hB := Lib.parseIntB_64 s.data.toList
  rcases hr : Lib.atoiAll s.data.toList with v | _ | _
  · rw [hr] at hB
    refine (Any.strconv_ParseInt_10_at64_ok Tryd.laysC174 s (by omega) v hB w).mono fun e w' h => ?_
    obtain ⟨he, hw⟩ := h
    refine .inl ⟨v, rfl, he, ?_⟩
    rcases hw with rfl | ⟨t, rfl⟩
    · exact Below.refl _ _
    · exact Lib.bytesWorld_below _ _ _
  · rw [hr] at hB
    refine (Any.strconv_ParseInt_10_at64_syntax Tryd.laysC174 s (by omega) hB _ w h1 (.inr ⟨t1, p1, rfl⟩)).mono fun e w' h => ?_
    obtain ⟨N, he, _, _, hb⟩ := h
    exact .inr ⟨(fun v h => by cases h), _, _, _, he, hb⟩
  · rw [hr] at hB
    refine (Any.strconv_ParseInt_10_at64_range Tryd.laysC174 s (by omega) hB _ w h2 (.inr ⟨t2, p2, rfl⟩)).mono fun e w' h => ?_
    obtain ⟨N, he, _, _, hb⟩ := h
    exact .inr ⟨(fun v h => by cases h), _, _, _, he, hb⟩

end Go.Proofs.YtbhofhobnbhhhaaDoor
