/- A form in memory: its value, the lists that it reads as, its box. No program is called here. -/
import Derived.Test.YtfiefjbipjalpaaFmMath
import Derived.Test.YtfiefjbipjalpaaSpread
namespace Go.Proofs.Ytfiefjbipjalpaa
open Go.RowKit

/-- A form as a value. -/
structure Fv where
  a : Int
  b : Int
  A1 : Option Addr
  n1 : Nat
  c1 : Nat
  A2 : Option Addr
  n2 : Nat
  c2 : Nat
  A3 : Option Addr
  n3 : Nat
  c3 : Nat
abbrev Fv.cs (f : Fv) : Array Value := #[.int .i64 f.a, .int .i64 f.b, .slice f.A1 f.n1 f.c1, .slice f.A2 f.n2 f.c2, .slice f.A3 f.n3 f.c3]
abbrev Fv.v (f : Fv) : Value := .agg #[.int .i64 f.a, .int .i64 f.b, .slice f.A1 f.n1 f.c1, .slice f.A2 f.n2 f.c2, .slice f.A3 f.n3 f.c3]
/-- The three lists are not too long. -/
def Fv.le (f : Fv) (m : Nat) : Prop := f.n1 ≤ m ∧ f.n2 ≤ m ∧ f.n3 ≤ m
def i64s (L : List Int) : Prop := ∀ x ∈ L, -9223372036854775808 ≤ x ∧ x ≤ 9223372036854775807

/-- The form reads as the lists F, G and H; its cells lie below block B. -/
structure RF (w : World) (B : Nat) (f : Fv) (F G H : List Int) : Prop where
  r1 : Rd I w B f.A1 f.n1 F
  r2 : Rd I w B f.A2 f.n2 G
  r3 : Rd I w B f.A3 f.n3 H
section
variable {w w' : World} {B B' lo hi : Nat} {f : Fv} {F G H : List Int}
theorem RF.below (h : RF w B f F G H) (hb : Below B' w w') (hB : B ≤ B') : RF w' B f F G H := ⟨h.r1.below hb hB, h.r2.below hb hB, h.r3.below hb hB⟩
theorem RF.more (h : RF w B f F G H) (hB : B ≤ B') : RF w B' f F G H := ⟨h.r1.more hB, h.r2.more hB, h.r3.more hB⟩
theorem RF.alloc (h : RF w B f F G H) (hB : B ≤ w.heap.size) (o : Obj) : RF (w.alloc o) B f F G H := ⟨h.r1.alloc hB o, h.r2.alloc hB o, h.r3.alloc hB o⟩
theorem RF.q (h : RF w B f F G H) (hq : Q w w') : RF w' B f F G H := ⟨h.r1.q hq, h.r2.q hq, h.r3.q hq⟩
theorem RF.drewN (h : RF w B f F G H) (k : Nat) : RF (w.drewN k) B f F G H := ⟨h.r1.drewN k, h.r2.drewN k, h.r3.drewN k⟩
theorem RF.only (h : RF w B f F G H) (ho : Only lo hi w w') (hB : B ≤ lo) (hs : B ≤ w.heap.size) : RF w' B f F G H := ⟨h.r1.only ho hB hs, h.r2.only ho hB hs, h.r3.only ho hB hs⟩
theorem RF.keep (h : RF w B f F G H) (hk : ∀ p : Addr, p.block < B → w'.cell? p = w.cell? p) : RF w' B f F G H := ⟨h.r1.keep hk, h.r2.keep hk, h.r3.keep hk⟩
theorem RF.len (h : RF w B f F G H) : F.length = f.n1 ∧ G.length = f.n2 ∧ H.length = f.n3 := ⟨h.r1.1, h.r2.1, h.r3.1⟩
end
/-- The box of a form. -/
abbrev FBx (w : World) (g : Nat) (f : Fv) : Prop := Blk w g f.cs 26
structure FCell (w : World) (g : Nat) (f : Fv) : Prop where
  k0 : w.cell? ⟨g, 0, none⟩ = some (.int .i64 f.a)
  k1 : w.cell? ⟨g, 1, none⟩ = some (.int .i64 f.b)
  k2 : w.cell? ⟨g, 2, none⟩ = some (.slice f.A1 f.n1 f.c1)
  k3 : w.cell? ⟨g, 3, none⟩ = some (.slice f.A2 f.n2 f.c2)
  k4 : w.cell? ⟨g, 4, none⟩ = some (.slice f.A3 f.n3 f.c3)
theorem Blk.fcell {w : World} {g : Nat} {f : Fv} (h : FBx w g f) : FCell w g f :=
  ⟨h.cell 0 rfl, h.cell 1 rfl, h.cell 2 rfl, h.cell 3 rfl, h.cell 4 rfl⟩
theorem FBx.new (w : World) (f : Fv) : FBx (w.alloc (.cells f.cs 26)) w.heap.size f := Blk.new _ _ rfl
theorem below_alloc (w : World) (o : Obj) : Below w.heap.size w (w.alloc o) := (Below.refl _ _).alloc (Nat.le_refl _) _
end Go.Proofs.Ytfiefjbipjalpaa
