/- Contracts of l13Draw and DrawSetupOf. -/
import Derived.Test.YtnfnmdeiaihgnaaSrG
import Derived.Test.YtnfnmdeiaihgnaaFoDw
import Derived.Test.YtnfnmdeiaihgnaaGrDw
namespace Go.Proofs.Ytnfnmdeiaihgnaa
open Go.RowKit
set_option linter.unusedVariables false

/-- A sheet, a piece and a scheme are drawn. -/
def DrZ (w : World) (g N C B : Nat) (A : Option Addr) (l : List Int) (e' : Ending) (w' : World) : Prop := ∃ (a b : Int) (x : Pc) (t : ByteArray), e' = .returned (.tuple #[.int .i64 a, .int .i64 b, x.agg, .string t]) ∧ (-1 ≤ a ∧ a ≤ 16) ∧ (-1 ≤ b ∧ b ≤ 16) ∧ x.inR ∧ t.size ≤ 7 ∧ SrcG w' g N C B A l ∧ Only g (g + 1) w w'
set_option maxRecDepth 100000 in
set_option maxHeartbeats 4000000 in
theorem drawZ_any (g N C B : Nat) (A : Option Addr) (l : List Int) (w : World) (hs : SrcG w g N C B A l) (hl : inByte l) (hN : N ≤ 1048576) :
    Calls Try.prog 50 #[.pointer (some ⟨g, 0, none⟩)] w fun e' w' => DrZ w g N C B A l e' w' := by
  have hlt := hs.lt
  have HS0 := Lib.hid (hs.alloc (.cells #[.int .i64 0, .int .i64 0] 25))
  have HK0 := Lib.hid (Blk.new (w := w) (g := w.heap.size) #[.int .i64 0, .int .i64 0] 25 rfl)
  have HO0 : Hid (Only g (g + 1) w (w.alloc (.cells #[.int .i64 0, .int .i64 0] 25))) := Lib.hid ((Only.refl _ _ _).then_alloc _)
  clear hs
  go_enter Try.func50, Try.ntmps50
  go_wp2_with fail
  refine (draw_any g N C B A l _ HS0.out.s HS0.out.c hl HS0.out.b hN).mono ?_
  rintro e w1 ⟨a, b, t, rfl, ha1, ha2, hb1, hb2, ht, hs1, hq1⟩
  have hS1 : SrcG w1 g N C B A l := ⟨hs1, HS0.out.c.only hq1 (by have := HS0.out.b; omega) (by have := HS0.out.b; have := HS0.out.lt; omega), HS0.out.b⟩
  have k1 := HK0.out.moveG hq1 (by omega)
  have HO1 := Lib.hid (HO0.out.trans hq1)
  clear hs1 hq1
  go_wp2_with fail
  refine (drawPc_any g N C B A l w1 hS1.s hS1.c hl hS1.b hN).mono ?_
  rintro e w2 ⟨x, rfl, hx, hs2, hq2⟩
  have hS2 : SrcG w2 g N C B A l := ⟨hs2, hS1.c.only hq2 (by have := hS1.b; omega) (by have := hS1.b; have := hS1.lt; omega), hS1.b⟩
  have k2 := k1.moveG hq2 (by omega)
  have q0 := k2.cell 0 (v := .int .i64 0) rfl
  have q1 := k2.cell 1 (v := .int .i64 0) rfl
  have p0 := k2.free 0
  have p1 := k2.free 1
  have k3 := Blk.set (Blk.set k2 0 (.int .i64 x.w)) 1 (.int .i64 x.h)
  have g0 := k3.cell 0 (v := .int .i64 x.w) rfl
  have g1 := k3.cell 1 (v := .int .i64 x.h) rfl
  have HE := Lib.hid (show DrZ w g N C B A l (.returned (.tuple #[.int .i64 a, .int .i64 b, x.agg, .string t])) ((w2.setCell ⟨w.heap.size, 0, none⟩ (.int .i64 x.w)).setCell ⟨w.heap.size, 1, none⟩ (.int .i64 x.h)) from ⟨a, b, x, t, rfl, ⟨ha1, ha2⟩, ⟨hb1, hb2⟩, hx, ht, (hS2.setS _ hlt).setS _ hlt, only_abv (only_abv (HO1.out.trans hq2) _ (Nat.le_refl _)) _ (Nat.le_refl _)⟩)
  clear hS1 hS2 hs2 hq2 k1 k2 k3 hx
  go_wp2_with fail
  try simp only [Exit.inBlock, Exit.then]
  exact bodyPost_ret (v := .tuple #[.int .i64 a, .int .i64 b, x.agg, .string t]) (by simp [results, Try.results50, go_sem, g0, g1]) rfl HE.out
/-- What DrawSetupOf hands back. -/
def DzF (w : World) (e' : Ending) (w' : World) : Prop := ∃ (a b : Int) (x : Pc) (t : ByteArray), e' = .returned (.tuple #[.int .i64 a, .int .i64 b, x.agg, .string t]) ∧ (-1 ≤ a ∧ a ≤ 16) ∧ (-1 ≤ b ∧ b ≤ 16) ∧ x.inR ∧ t.size ≤ 7 ∧ Below w.heap.size w w'
set_option maxRecDepth 100000 in
set_option maxHeartbeats 4000000 in
theorem DrawZ_any (N C B : Nat) (A : Option Addr) (l : List Int) (w : World) (hc : Rd U w B A N l) (hl : inByte l) (hB : B ≤ w.heap.size) (hN : N ≤ 1048576) :
    Calls Try.prog 13 #[.slice A N C] w fun e' w' => DzF w e' w' := by
  have HK0 := Lib.hid (Blk.new (w := w) (g := w.heap.size) #[.int .i64 0, .int .i64 0] 25 rfl)
  have HB0 := Lib.hid (below_newS w (.cells #[.int .i64 0, .int .i64 0] 25))
  have hc0 := hc.alloc hB (.cells #[.int .i64 0, .int .i64 0] 25)
  have hz0 : (w.alloc (.cells #[.int .i64 0, .int .i64 0] 25)).heap.size = w.heap.size + 1 := by simp
  go_enter Try.func13, Try.ntmps13
  go_wp2_with fail
  refine (l01From_ex N C B A l _ hc0 hl (by omega)).mono ?_
  rintro e w1 ⟨g, rfl, hg, hs1, hb1⟩
  have hc1 := hc0.below hb1 (by omega)
  have z1 := hb1.size
  have k1 := HK0.out.below hb1 HK0.out.lt
  have HB1 := Lib.hid (HB0.out.trans (hb1.mono (by omega)))
  clear hb1
  go_wp2_with fail
  refine (drawZ_any g N C B A l w1 ⟨hs1, hc1, by omega⟩ hl hN).mono ?_
  rintro e w2 ⟨a, b, x, t, rfl, ha, hb, hx, ht, hs2, hq2⟩
  have k2 := k1.moveG hq2 (by omega)
  have q0 := k2.cell 0 (v := .int .i64 0) rfl
  have q1 := k2.cell 1 (v := .int .i64 0) rfl
  have p0 := k2.free 0
  have p1 := k2.free 1
  have k3 := Blk.set (Blk.set k2 0 (.int .i64 x.w)) 1 (.int .i64 x.h)
  have g0 := k3.cell 0 (v := .int .i64 x.w) rfl
  have g1 := k3.cell 1 (v := .int .i64 x.h) rfl
  have HE := Lib.hid (show DzF w (.returned (.tuple #[.int .i64 a, .int .i64 b, x.agg, .string t])) ((w2.setCell ⟨w.heap.size, 0, none⟩ (.int .i64 x.w)).setCell ⟨w.heap.size, 1, none⟩ (.int .i64 x.h)) from ⟨a, b, x, t, rfl, ha, hb, hx, ht, below_setS (below_setS (HB1.out.trans (hq2.below (by omega) (by omega))) _ (Nat.le_refl _)) _ (Nat.le_refl _)⟩)
  clear hs1 hs2 hq2 k1 k2 k3 hx hc0 hc1
  go_wp2_with fail
  try simp only [Exit.inBlock, Exit.then]
  exact bodyPost_ret (v := .tuple #[.int .i64 a, .int .i64 b, x.agg, .string t]) (by simp [results, Try.results13, go_sem, g0, g1]) rfl HE.out
end Go.Proofs.Ytnfnmdeiaihgnaa
