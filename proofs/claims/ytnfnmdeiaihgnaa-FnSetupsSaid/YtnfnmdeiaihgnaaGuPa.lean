/- The two parts of a piece. -/
import Derived.Test.YtnfnmdeiaihgnaaGuCc
import Derived.Deep.RegionLaw
namespace Go.Proofs.Ytnfnmdeiaihgnaa
open Go.RowKit
set_option linter.unusedVariables false

theorem cell_other9 {w : World} {g1 o1 g2 o2 : Nat} {v : Value} (h : g1 ≠ g2) : (w.setCell ⟨g2, o2, none⟩ v).cell? ⟨g1, o1, none⟩ = w.cell? ⟨g1, o1, none⟩ :=
  World.cell?_of_block (heap_setCell_other w ⟨g2, o2, none⟩ g1 v h)
theorem Blk.drew9 {w : World} {g : Nat} {cs : Array Value} {t : TypeId} (h : Blk w g cs t) : Blk w.drew g cs t := h
theorem below_set9 {B : Nat} {w W : World} {b : Addr} {v : Value} (h : Below B w W) (hb : B ≤ b.block) : Below B w (W.setCell b v) :=
  ⟨h.os, h.tape, h.output, by have := h.size; simpa using this, fun k hk => (heap_setCell_other W b k v (by omega)).trans (h.block k hk)⟩
section
variable {w W W' : World} {i t : Int} {a : Bool} {G1 G2 : Nat} {c1 c2 : Array Value}
end

end Go.Proofs.Ytnfnmdeiaihgnaa
