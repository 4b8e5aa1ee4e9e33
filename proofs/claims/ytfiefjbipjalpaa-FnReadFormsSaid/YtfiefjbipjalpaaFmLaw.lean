/- Words and contracts that the walks of the exact laws over forms use. -/
import Derived.Test.YtfiefjbipjalpaaFmMk
namespace Go.Proofs.Ytfiefjbipjalpaa
open Go.RowKit

theorem Blk.lcell {w : World} {g : Nat} {f : Fv} {t : TypeId} (h : Blk w g f.cs t) : FCell w g f :=
  ⟨h.cell 0 rfl, h.cell 1 rfl, h.cell 2 rfl, h.cell 3 rfl, h.cell 4 rfl⟩
theorem Fv.le.trans_ {f : Fv} {m m' : Nat} (h : f.le m) (hm : m ≤ m') : f.le m' := ⟨Nat.le_trans h.1 hm, Nat.le_trans h.2.1 hm, Nat.le_trans h.2.2 hm⟩
theorem specIsForm_v (f : Fv) (a b : Int) (v : Bool) (ha : f.a = a) (hb : f.b = b) (B : Nat) (F G H : List Int) (hv : Fm.okB a b F G H = v) (w : World) (h : RF w B f F G H) (hB : B ≤ w.heap.size) (hn : f.le 1048576) (hi64 : i64s F) (hi65 : i64s G) :
    Calls Try.prog 69 #[f.v] w fun e w' => e = .returned (.bool v) ∧ Below w.heap.size w w' := by
  subst ha hb hv
  exact specIsForm_any f B F G H w h hB hn hi64 hi65
theorem implIsForm_v (f : Fv) (a b : Int) (v : Bool) (ha : f.a = a) (hb : f.b = b) (B : Nat) (F G H : List Int) (hv : Fm.okB a b F G H = v) (w : World) (h : RF w B f F G H) (hB : B ≤ w.heap.size) (hn : f.le 1048576) (hi64 : i64s F) (hi65 : i64s G) :
    Calls Try.prog 65 #[f.v] w fun e w' => e = .returned (.bool v) ∧ Below w.heap.size w w' := by
  subst ha hb hv
  exact implIsForm_any f B F G H w h hB hn hi64 hi65
end Go.Proofs.Ytfiefjbipjalpaa
