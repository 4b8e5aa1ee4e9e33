/- Contracts of the draws of a piece and of a cut of a list of pieces: what may come, and what the call leaves as it was. -/
import Derived.Test.YtnfnmdeiaihgnaaSrc
import Derived.Test.YtnfnmdeiaihgnaaSgDo
import Derived.Test.YtnfnmdeiaihgnaaGuMath
namespace Go.Proofs.Ytnfnmdeiaihgnaa
open Go.RowKit
set_option linter.unusedVariables false

theorem only_abv {w w' : World} {lo hi k i : Nat} (h : Only lo hi w w') (u : Value) (hk : w.heap.size ≤ k) : Only lo hi w (w'.setCell ⟨k, i, none⟩ u) :=
  ⟨h.os, h.tape, h.output, by simpa using h.size, fun j hj hne => (heap_setCell_other w' ⟨k, i, none⟩ j u (fun e => by have e' : j = k := e; omega)).trans (h.block j hj hne)⟩
theorem Src.abv {w : World} {g N C k i : Nat} {A : Option Addr} (h : Src w g A N C) (u : Value) (hk : g ≠ k) : Src (w.setCell ⟨k, i, none⟩ u) g A N C := by
  obtain ⟨a, s, h1, h2⟩ := h
  exact ⟨a, s, (heap_setCell_other w ⟨k, i, none⟩ g u hk).trans h1, h2⟩
theorem below_newG (w : World) (o : Obj) : Below w.heap.size w (w.alloc o) := (Below.refl _ _).alloc (Nat.le_refl _) o
def Pc.inR (x : Pc) : Prop := -100000 ≤ x.w ∧ x.w ≤ 100000 ∧ -100000 ≤ x.h ∧ x.h ≤ 100000
theorem Pc.inR_ok {x : Pc} (h : Gu.okP x = true) : x.inR := by
  have := Gu.okP_iff.1 h
  unfold Pc.inR
  omega
theorem only_set9 (w : World) (k i : Nat) (u : Value) : Only k (k + 1) w (w.setCell ⟨k, i, none⟩ u) :=
  ⟨rfl, rfl, rfl, by simp, fun j hj hne => heap_setCell_other w ⟨k, i, none⟩ j u (fun e => by have e' : j = k := e; omega)⟩
def DrPc (w : World) (g N C : Nat) (A : Option Addr) (e' : Ending) (w' : World) : Prop := ∃ x : Pc, e' = .returned x.agg ∧ x.inR ∧ Src w' g A N C ∧ Only g (g + 1) w w'
theorem DrPc.mk_ {w w' : World} {g N C : Nat} {A : Option Addr} {a b : Int} (hr : (⟨a, b⟩ : Pc).inR) (hs : Src w' g A N C) (ho : Only g (g + 1) w w') : DrPc w g N C A (.returned (.agg #[.int .i64 a, .int .i64 b])) w' := ⟨⟨a, b⟩, rfl, hr, hs, ho⟩
def DrCt (w : World) (g N C : Nat) (A : Option Addr) (e' : Ending) (w' : World) : Prop := ∃ x : Ct, e' = .returned x.agg ∧ Src w' g A N C ∧ Only g (g + 1) w w'
theorem DrCt.mk_ {w w' : World} {g N C : Nat} {A : Option Addr} {i : Int} {a : Bool} {t : Int} (hs : Src w' g A N C) (ho : Only g (g + 1) w w') : DrCt w g N C A (.returned (.agg #[.int .i64 i, .bool a, .int .i64 t])) w' := ⟨⟨i, a, t⟩, rfl, hs, ho⟩

set_option maxRecDepth 100000 in
set_option maxHeartbeats 8000000 in
theorem drawPc_any (g N C B : Nat) (A : Option Addr) (l : List Int) (w : World) (hs : Src w g A N C) (hc : Rd U w B A N l) (hl : inByte l) (hB : B ≤ g) (hN : N ≤ 1048576) :
    Calls Try.prog 85 #[.pointer (some ⟨g, 0, none⟩)] w fun e' w' => DrPc w g N C A e' w' := by
  have hlt := hs.lt
  go_enter Try.func85, Try.ntmps85
  go_wp2_with fail
  generalize hW : w.alloc (.cells #[.int .i64 0, .int .i64 0] 25) = w0
  have hb0 : Below w.heap.size w w0 := by rw [← hW]; exact (below_newG w (.cells #[.int .i64 0, .int .i64 0] 25))
  have z0 : w0.heap.size = w.heap.size + 1 := by rw [← hW]; simp
  have b0_0 : Blk w0 (w.heap.size) #[.int .i64 0, .int .i64 0] 25 := by rw [← hW]; exact (Blk.new (w := w) (g := w.heap.size) #[.int .i64 0, .int .i64 0] 25 (by simp))
  have hs0 := hs.below hb0 hlt
  have hc0 := hc.below hb0 (by omega)
  have ho0 := Only.of_below hb0 g (g + 1)
  clear hs hc
  have hl0 := hs0.lt
  clear hW hb0
  refine (l01Next_any g N C B A l _ _ hs0 hc0 hl hB hN (by omega)).mono ?_
  rintro e' w1 ⟨v, rfl, v0, v1, v9, hs1, hq1⟩
  have z1 := hq1.size
  have hc1 := hc0.only hq1 (by omega) (by omega)
  have ho1 := ho0.trans hq1
  have b1_0 := b0_0.only hq1 (.inr (by omega))
  have hl1 := hs1.lt
  clear hs0 hc0 ho0 hq1 b0_0
  have v2 : v < 40 := v1 (by decide)
  clear v1 v9
  by_cases hv : v = 0
  · subst hv
    go_wp2_with fail
    refine (pick_lit g N C B A l [0, 1, 20000, 20001] _ _ w1 rfl rfl hs1 hc1 hl hB hN (by simp) (by simp)).mono ?_
    rintro e' w2 ⟨x, rfl, hx, hs2, hq2⟩
    have z2 := hq2.size
    have hc2 := hc1.only hq2 (by omega) (by omega)
    have ho2 := ho1.trans hq2
    have b2_0 := b1_0.only hq2 (.inr (by omega))
    have hl2 := hs2.lt
    clear hs1 hc1 ho1 hq2 b1_0
    go_wp2_with fail
    refine (pick_lit g N C B A l [1, 20000] _ _ w2 rfl rfl hs2 hc2 hl hB hN (by simp) (by simp)).mono ?_
    rintro e' w3 ⟨y, rfl, hy, hs3, hq3⟩
    have z3 := hq3.size
    have hc3 := hc2.only hq3 (by omega) (by omega)
    have ho3 := ho2.trans hq3
    have b3_0 := b2_0.only hq3 (.inr (by omega))
    have hl3 := hs3.lt
    clear hs2 hc2 ho2 hq3 b2_0
    have HR : Hid ((⟨x, y⟩ : Pc).inR) := by simp at hx hy; unfold Pc.inR; show -100000 ≤ x ∧ x ≤ 100000 ∧ -100000 ≤ y ∧ y ≤ 100000; omega
    clear hx hy
    have r0 := b3_0.cell 0 (v := .int .i64 0) rfl
    have r1 := b3_0.cell 1 (v := .int .i64 0) rfl
    have p0 := b3_0.free 0
    have p1 := b3_0.free 1
    have S2 := Lib.hid ((b3_0.set 0 (.int .i64 (x))).set 1 (.int .i64 (y)))
    go_wp2_with fail
    have d0 := S2.out.cell 0 (v := .int .i64 (x)) rfl
    have d1 := S2.out.cell 1 (v := .int .i64 (y)) rfl
    exact bodyPost_ret (v := .agg #[.int .i64 (x), .int .i64 (y)]) (by simp [results, Try.results85, go_sem, d0, d1]) rfl (DrPc.mk_ HR.out ((hs3.abv _ (by omega)).abv _ (by omega)) (only_abv (only_abv ho3 _ (Nat.le_refl _)) _ (Nat.le_refl _)))
  · have hv' : (v == 0) = false := by simpa using hv
    go_wp2_with fail
    refine (l01Next_any g N C B A l _ _ hs1 hc1 hl hB hN (by omega)).mono ?_
    rintro e' w2 ⟨a, rfl, a0, a1, a9, hs2, hq2⟩
    have z2 := hq2.size
    have hc2 := hc1.only hq2 (by omega) (by omega)
    have ho2 := ho1.trans hq2
    have b2_0 := b1_0.only hq2 (.inr (by omega))
    have hl2 := hs2.lt
    clear hs1 hc1 ho1 hq2 b1_0
    have a2 : a < 60 := a1 (by decide)
    clear a1 a9
    have y1 : IntKind.i64.wrap (1 + a) = 1 + a := IntWalk.i64_in _ (by omega)
    go_wp2_with fail
    refine (l01Next_any g N C B A l _ _ hs2 hc2 hl hB hN (by omega)).mono ?_
    rintro e' w3 ⟨b, rfl, b0, b1, b9, hs3, hq3⟩
    have z3 := hq3.size
    have hc3 := hc2.only hq3 (by omega) (by omega)
    have ho3 := ho2.trans hq3
    have b3_0 := b2_0.only hq3 (.inr (by omega))
    have hl3 := hs3.lt
    clear hs2 hc2 ho2 hq3 b2_0
    have b2 : b < 60 := b1 (by decide)
    clear b1 b9
    have y2 : IntKind.i64.wrap (1 + b) = 1 + b := IntWalk.i64_in _ (by omega)
    have HR : Hid ((⟨1 + a, 1 + b⟩ : Pc).inR) := by unfold Pc.inR; show -100000 ≤ 1 + a ∧ 1 + a ≤ 100000 ∧ -100000 ≤ 1 + b ∧ 1 + b ≤ 100000; omega
    have r0 := b3_0.cell 0 (v := .int .i64 0) rfl
    have r1 := b3_0.cell 1 (v := .int .i64 0) rfl
    have p0 := b3_0.free 0
    have p1 := b3_0.free 1
    have S2 := Lib.hid ((b3_0.set 0 (.int .i64 (1 + a))).set 1 (.int .i64 (1 + b)))
    go_wp2_with fail
    have d0 := S2.out.cell 0 (v := .int .i64 (1 + a)) rfl
    have d1 := S2.out.cell 1 (v := .int .i64 (1 + b)) rfl
    exact bodyPost_ret (v := .agg #[.int .i64 (1 + a), .int .i64 (1 + b)]) (by simp [results, Try.results85, go_sem, d0, d1]) rfl (DrPc.mk_ HR.out ((hs3.abv _ (by omega)).abv _ (by omega)) (only_abv (only_abv ho3 _ (Nat.le_refl _)) _ (Nat.le_refl _)))

end Go.Proofs.Ytnfnmdeiaihgnaa
