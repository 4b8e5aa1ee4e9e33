/- The contracts of SchemesFor, over names of their answers. -/
import Derived.Test.YtgplciodddfpbaaFmSj
namespace Go.Proofs.Ytgplciodddfpbaa
open Go.RowKit
theorem specSf_v (f : Fv) (a b : Int) (ha : f.a = a) (hb : f.b = b) (B : Nat) (F G H : List Int) (C : Int) (R : List (List UInt8)) (hC : Fm.sfC a b F G H = C) (hR : Fm.sfR a b F G H = R) (w : World) (h : RF w B f F G H) (hB : B ≤ w.heap.size) (hn : f.le 1048576) (hi64 : i64s F) (hi65 : i64s G) :
    Calls Try.prog 26 #[f.v] w fun e w' => SC w R C e w' := by
  subst hC hR
  exact specSf_any f a b ha hb B F G H w h hB hn hi64 hi65
theorem implSf_v (f : Fv) (a b : Int) (ha : f.a = a) (hb : f.b = b) (B : Nat) (F G H : List Int) (C : Int) (R : List (List UInt8)) (hC : Fm.sfC a b F G H = C) (hR : Fm.sfR a b F G H = R) (w : World) (h : RF w B f F G H) (hB : B ≤ w.heap.size) (hn : f.le 1048576) (hi64 : i64s F) (hi65 : i64s G) :
    Calls Try.prog 25 #[f.v] w fun e w' => SC w R C e w' := by
  subst hC hR
  exact implSf_any f a b ha hb B F G H w h hB hn hi64 hi65
end Go.Proofs.Ytgplciodddfpbaa
