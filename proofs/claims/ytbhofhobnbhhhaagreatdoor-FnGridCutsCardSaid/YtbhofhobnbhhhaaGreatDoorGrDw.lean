/- Contracts of the draws of a piece and of a cut of a list of pieces: what may come, and what the call leaves as it was. -/
import Derived.Test.YtbhofhobnbhhhaaGreatDoorSrc
import Derived.Test.YtbhofhobnbhhhaaGreatDoorSgDo
import Derived.Test.YtbhofhobnbhhhaaGreatDoorGuMath
namespace Go.Proofs.YtbhofhobnbhhhaaGreatDoor
open Go.RowKit
set_option linter.unusedVariables false

theorem only_abv {w w' : World} {lo hi k i : Nat} (h : Only lo hi w w') (u : Value) (hk : w.heap.size ≤ k) : Only lo hi w (w'.setCell ⟨k, i, none⟩ u) :=
  ⟨h.os, h.tape, h.output, by simpa using h.size, fun j hj hne => (heap_setCell_other w' ⟨k, i, none⟩ j u (fun e => by have e' : j = k := e; omega)).trans (h.block j hj hne)⟩
theorem Src.abv {w : World} {g N C k i : Nat} {A : Option Addr} (h : Src w g A N C) (u : Value) (hk : g ≠ k) : Src (w.setCell ⟨k, i, none⟩ u) g A N C := by
  obtain ⟨a, s, h1, h2⟩ := h
  exact ⟨a, s, (heap_setCell_other w ⟨k, i, none⟩ g u hk).trans h1, h2⟩
theorem below_newG (w : World) (o : Obj) : Below w.heap.size w (w.alloc o) := (Below.refl _ _).alloc (Nat.le_refl _) o
def Pc.inR (x : Pc) : Prop := -100000 ≤ x.w ∧ x.w ≤ 100000 ∧ -100000 ≤ x.h ∧ x.h ≤ 100000
theorem Pc.inR_ok {x : Pc} (h : Gu.okP x = true) : x.inR := by
  have := Gu.okP_iff.1 h
  unfold Pc.inR
  omega
theorem only_set9 (w : World) (k i : Nat) (u : Value) : Only k (k + 1) w (w.setCell ⟨k, i, none⟩ u) :=
  ⟨rfl, rfl, rfl, by simp, fun j hj hne => heap_setCell_other w ⟨k, i, none⟩ j u (fun e => by have e' : j = k := e; omega)⟩
def DrPc (w : World) (g N C : Nat) (A : Option Addr) (e' : Ending) (w' : World) : Prop := ∃ x : Pc, e' = .returned x.agg ∧ x.inR ∧ Src w' g A N C ∧ Only g (g + 1) w w'
theorem DrPc.mk_ {w w' : World} {g N C : Nat} {A : Option Addr} {a b : Int} (hr : (⟨a, b⟩ : Pc).inR) (hs : Src w' g A N C) (ho : Only g (g + 1) w w') : DrPc w g N C A (.returned (.agg #[.int .i64 a, .int .i64 b])) w' := ⟨⟨a, b⟩, rfl, hr, hs, ho⟩
def DrCt (w : World) (g N C : Nat) (A : Option Addr) (e' : Ending) (w' : World) : Prop := ∃ x : Ct, e' = .returned x.agg ∧ Src w' g A N C ∧ Only g (g + 1) w w'
theorem DrCt.mk_ {w w' : World} {g N C : Nat} {A : Option Addr} {i : Int} {a : Bool} {t : Int} (hs : Src w' g A N C) (ho : Only g (g + 1) w w') : DrCt w g N C A (.returned (.agg #[.int .i64 i, .bool a, .int .i64 t])) w' := ⟨⟨i, a, t⟩, rfl, hs, ho⟩

set_option maxRecDepth 100000 in
set_option maxHeartbeats 8000000 in
theorem drawPc_any (g N C B : Nat) (A : Option Addr) (l : List Int) (w : World) (hs : Src w g A N C) (hc : Rd U w B A N l) (hl : inByte l) (hB : B ≤ g) (hN : N ≤ 1048576) :
    Calls Tryz.prog 37 #[.pointer (some ⟨g, 0, none⟩)] w fun e' w' => DrPc w g N C A e' w' := by
  have hlt := hs.lt
  go_enter Tryz.func37, Tryz.ntmps37
  go_wp2_with fail
  generalize hW : w.alloc (.cells #[.int .i64 0, .int .i64 0] 25) = w0
  have hb0 : Below w.heap.size w w0 := by rw [← hW]; exact (below_newG w (.cells #[.int .i64 0, .int .i64 0] 25))
  have z0 : w0.heap.size = w.heap.size + 1 := by rw [← hW]; simp
  have b0_0 : Blk w0 (w.heap.size) #[.int .i64 0, .int .i64 0] 25 := by rw [← hW]; exact (Blk.new (w := w) (g := w.heap.size) #[.int .i64 0, .int .i64 0] 25 (by simp))
  have hs0 := hs.below hb0 hlt
  have hc0 := hc.below hb0 (by omega)
  have ho0 := Only.of_below hb0 g (g + 1)
  clear hs hc
  have hl0 := hs0.lt
  clear hW hb0
  refine (l01Next_any g N C B A l _ _ hs0 hc0 hl hB hN (by omega)).mono ?_
  rintro e' w1 ⟨v, rfl, v0, v1, v9, hs1, hq1⟩
  have z1 := hq1.size
  have hc1 := hc0.only hq1 (by omega) (by omega)
  have ho1 := ho0.trans hq1
  have b1_0 := b0_0.only hq1 (.inr (by omega))
  have hl1 := hs1.lt
  clear hs0 hc0 ho0 hq1 b0_0
  have v2 : v < 40 := v1 (by decide)
  clear v1 v9
  by_cases hv : v = 0
  · subst hv
    go_wp2_with fail
    refine (pick_lit g N C B A l [0, 1, 20000, 20001] _ _ w1 rfl rfl hs1 hc1 hl hB hN (by simp) (by simp)).mono ?_
    rintro e' w2 ⟨x, rfl, hx, hs2, hq2⟩
    have z2 := hq2.size
    have hc2 := hc1.only hq2 (by omega) (by omega)
    have ho2 := ho1.trans hq2
    have b2_0 := b1_0.only hq2 (.inr (by omega))
    have hl2 := hs2.lt
    clear hs1 hc1 ho1 hq2 b1_0
    go_wp2_with fail
    refine (pick_lit g N C B A l [1, 20000] _ _ w2 rfl rfl hs2 hc2 hl hB hN (by simp) (by simp)).mono ?_
    rintro e' w3 ⟨y, rfl, hy, hs3, hq3⟩
    have z3 := hq3.size
    have hc3 := hc2.only hq3 (by omega) (by omega)
    have ho3 := ho2.trans hq3
    have b3_0 := b2_0.only hq3 (.inr (by omega))
    have hl3 := hs3.lt
    clear hs2 hc2 ho2 hq3 b2_0
    have HR : Hid ((⟨x, y⟩ : Pc).inR) := by simp at hx hy; unfold Pc.inR; show -100000 ≤ x ∧ x ≤ 100000 ∧ -100000 ≤ y ∧ y ≤ 100000; omega
    clear hx hy
    have r0 := b3_0.cell 0 (v := .int .i64 0) rfl
    have r1 := b3_0.cell 1 (v := .int .i64 0) rfl
    have p0 := b3_0.free 0
    have p1 := b3_0.free 1
    have S2 := Lib.hid ((b3_0.set 0 (.int .i64 (x))).set 1 (.int .i64 (y)))
    go_wp2_with fail
    have d0 := S2.out.cell 0 (v := .int .i64 (x)) rfl
    have d1 := S2.out.cell 1 (v := .int .i64 (y)) rfl
    exact bodyPost_ret (v := .agg #[.int .i64 (x), .int .i64 (y)]) (by simp [results, Tryz.results37, go_sem, d0, d1]) rfl (DrPc.mk_ HR.out ((hs3.abv _ (by omega)).abv _ (by omega)) (only_abv (only_abv ho3 _ (Nat.le_refl _)) _ (Nat.le_refl _)))
  · have hv' : (v == 0) = false := by simpa using hv
    go_wp2_with fail
    refine (l01Next_any g N C B A l _ _ hs1 hc1 hl hB hN (by omega)).mono ?_
    rintro e' w2 ⟨a, rfl, a0, a1, a9, hs2, hq2⟩
    have z2 := hq2.size
    have hc2 := hc1.only hq2 (by omega) (by omega)
    have ho2 := ho1.trans hq2
    have b2_0 := b1_0.only hq2 (.inr (by omega))
    have hl2 := hs2.lt
    clear hs1 hc1 ho1 hq2 b1_0
    have a2 : a < 60 := a1 (by decide)
    clear a1 a9
    have y1 : IntKind.i64.wrap (1 + a) = 1 + a := IntWalk.i64_in _ (by omega)
    go_wp2_with fail
    refine (l01Next_any g N C B A l _ _ hs2 hc2 hl hB hN (by omega)).mono ?_
    rintro e' w3 ⟨b, rfl, b0, b1, b9, hs3, hq3⟩
    have z3 := hq3.size
    have hc3 := hc2.only hq3 (by omega) (by omega)
    have ho3 := ho2.trans hq3
    have b3_0 := b2_0.only hq3 (.inr (by omega))
    have hl3 := hs3.lt
    clear hs2 hc2 ho2 hq3 b2_0
    have b2 : b < 60 := b1 (by decide)
    clear b1 b9
    have y2 : IntKind.i64.wrap (1 + b) = 1 + b := IntWalk.i64_in _ (by omega)
    have HR : Hid ((⟨1 + a, 1 + b⟩ : Pc).inR) := by unfold Pc.inR; show -100000 ≤ 1 + a ∧ 1 + a ≤ 100000 ∧ -100000 ≤ 1 + b ∧ 1 + b ≤ 100000; omega
    have r0 := b3_0.cell 0 (v := .int .i64 0) rfl
    have r1 := b3_0.cell 1 (v := .int .i64 0) rfl
    have p0 := b3_0.free 0
    have p1 := b3_0.free 1
    have S2 := Lib.hid ((b3_0.set 0 (.int .i64 (1 + a))).set 1 (.int .i64 (1 + b)))
    go_wp2_with fail
    have d0 := S2.out.cell 0 (v := .int .i64 (1 + a)) rfl
    have d1 := S2.out.cell 1 (v := .int .i64 (1 + b)) rfl
    exact bodyPost_ret (v := .agg #[.int .i64 (1 + a), .int .i64 (1 + b)]) (by simp [results, Tryz.results37, go_sem, d0, d1]) rfl (DrPc.mk_ HR.out ((hs3.abv _ (by omega)).abv _ (by omega)) (only_abv (only_abv ho3 _ (Nat.le_refl _)) _ (Nat.le_refl _)))

set_option maxRecDepth 100000 in
set_option maxHeartbeats 8000000 in
theorem drawCt_any (g N C B : Nat) (A : Option Addr) (l : List Int) (lo hi n c : Nat) (A2 : Option Addr) (lp : List Pc) (w : World) (hs : Src w g A N C) (hc : Rd U w B A N l) (hl : inByte l) (hB : B ≤ g) (hN : N ≤ 1048576) (hrow : OwnS Pc.S w lo hi (.slice A2 n c) lp) (hglo : g < lo) (hhi : hi ≤ w.heap.size) (hn : n ≤ 1048576) (hin : ∀ x ∈ lp, x.inR) :
    Calls Tryz.prog 38 #[.pointer (some ⟨g, 0, none⟩), .slice A2 n c] w fun e' w' => DrCt w g N C A e' w' := by
  have HIN := Lib.hid hin
  clear hin
  have hlt := hs.lt
  go_enter Tryz.func38, Tryz.ntmps38
  go_wp2_with fail
  generalize hW : w.alloc (.cells #[.int .i64 0, .bool false, .int .i64 0] 50) = w0
  have hb0 : Below w.heap.size w w0 := by rw [← hW]; exact (below_newG w (.cells #[.int .i64 0, .bool false, .int .i64 0] 50))
  have z0 : w0.heap.size = w.heap.size + 1 := by rw [← hW]; simp
  have b0_0 : Blk w0 (w.heap.size) #[.int .i64 0, .bool false, .int .i64 0] 50 := by rw [← hW]; exact (Blk.new (w := w) (g := w.heap.size) #[.int .i64 0, .bool false, .int .i64 0] 50 (by simp))
  have hs0 := hs.below hb0 hlt
  have hc0 := hc.below hb0 (by omega)
  have ho0 := Only.of_below hb0 g (g + 1)
  clear hs hc
  have r0 := hrow.below hb0 (by omega)
  clear hrow
  have hl0 := hs0.lt
  clear hW hb0
  by_cases hn0 : n = 0
  · subst hn0
    refine (l01Next_any g N C B A l _ _ hs0 hc0 hl hB hN (by omega)).mono ?_
    rintro e' w1 ⟨v, rfl, v0, v1, v9, hs1, hq1⟩
    have z1 := hq1.size
    have hc1 := hc0.only hq1 (by omega) (by omega)
    have ho1 := ho0.trans hq1
    have b1_0 := b0_0.only hq1 (.inr (by omega))
    have r1 := r0.only hq1 (.inr (by omega))
    have hl1 := hs1.lt
    clear hs0 hc0 ho0 hq1 b0_0 r0
    clear v1 v9
    go_wp2_with fail
    refine (l01Next_any g N C B A l _ _ hs1 hc1 hl hB hN (by omega)).mono ?_
    rintro e' w2 ⟨u, rfl, u0, u1, u9, hs2, hq2⟩
    have z2 := hq2.size
    have hc2 := hc1.only hq2 (by omega) (by omega)
    have ho2 := ho1.trans hq2
    have b2_0 := b1_0.only hq2 (.inr (by omega))
    have r2 := r1.only hq2 (.inr (by omega))
    have hl2 := hs2.lt
    clear hs1 hc1 ho1 hq2 b1_0 r1
    have u2 : u < 2 := u1 (by decide)
    clear u1 u9
    by_cases hu : u = 0
    · subst hu
      have bT := Blk.new (w := w2) (g := w2.heap.size) #[.int .i64 v, .bool true, .int .i64 0] 50 rfl
      have bR := b2_0.alloc (.cells #[.int .i64 v, .bool true, .int .i64 0] 50)
      have hbV := below_newG w2 (.cells #[.int .i64 v, .bool true, .int .i64 0] 50)
      have HS := Lib.hid (hs2.below hbV hs2.lt)
      have HO := Lib.hid (ho2.then_below hbV ho2.size)
      clear hbV
      have c0 := bT.cell 0 (v := .int .i64 v) rfl
      have c1 := bT.cell 1 (v := .bool true) rfl
      have c2 := bT.cell 2 (v := .int .i64 0) rfl
      have r0 := bR.cell 0 (v := .int .i64 0) rfl
      have r1 := bR.cell 1 (v := .bool false) rfl
      have r2 := bR.cell 2 (v := .int .i64 0) rfl
      have p0 := bR.free 0
      have p1 := bR.free 1
      have p2 := bR.free 2
      have S3 := Lib.hid (((bR.set 0 (.int .i64 v)).set 1 (.bool true)).set 2 (.int .i64 0))
      clear bR bT
      go_wp2_with fail
      have d0 := S3.out.cell 0 (v := .int .i64 v) rfl
      have d1 := S3.out.cell 1 (v := .bool true) rfl
      have d2 := S3.out.cell 2 (v := .int .i64 0) rfl
      exact bodyPost_ret (v := .agg #[.int .i64 v, .bool true, .int .i64 0]) (by simp [results, Tryz.results38, go_sem, d0, d1, d2]) rfl (DrCt.mk_ (((HS.out.abv _ (by omega)).abv _ (by omega)).abv _ (by omega)) (only_abv (only_abv (only_abv HO.out _ (Nat.le_refl _)) _ (Nat.le_refl _)) _ (Nat.le_refl _)))
    · have hu' : (u == 0) = false := by simpa using hu
      have bT := Blk.new (w := w2) (g := w2.heap.size) #[.int .i64 v, .bool false, .int .i64 0] 50 rfl
      have bR := b2_0.alloc (.cells #[.int .i64 v, .bool false, .int .i64 0] 50)
      have hbV := below_newG w2 (.cells #[.int .i64 v, .bool false, .int .i64 0] 50)
      have HS := Lib.hid (hs2.below hbV hs2.lt)
      have HO := Lib.hid (ho2.then_below hbV ho2.size)
      clear hbV
      have c0 := bT.cell 0 (v := .int .i64 v) rfl
      have c1 := bT.cell 1 (v := .bool false) rfl
      have c2 := bT.cell 2 (v := .int .i64 0) rfl
      have r0 := bR.cell 0 (v := .int .i64 0) rfl
      have r1 := bR.cell 1 (v := .bool false) rfl
      have r2 := bR.cell 2 (v := .int .i64 0) rfl
      have p0 := bR.free 0
      have p1 := bR.free 1
      have p2 := bR.free 2
      have S3 := Lib.hid (((bR.set 0 (.int .i64 v)).set 1 (.bool false)).set 2 (.int .i64 0))
      clear bR bT
      go_wp2_with fail
      have d0 := S3.out.cell 0 (v := .int .i64 v) rfl
      have d1 := S3.out.cell 1 (v := .bool false) rfl
      have d2 := S3.out.cell 2 (v := .int .i64 0) rfl
      exact bodyPost_ret (v := .agg #[.int .i64 v, .bool false, .int .i64 0]) (by simp [results, Tryz.results38, go_sem, d0, d1, d2]) rfl (DrCt.mk_ (((HS.out.abv _ (by omega)).abv _ (by omega)).abv _ (by omega)) (only_abv (only_abv (only_abv HO.out _ (Nat.le_refl _)) _ (Nat.le_refl _)) _ (Nat.le_refl _)))
  · have hn0' : ((n : Int) == 0) = false := by simpa using hn0
    refine (l01Next_any g N C B A l _ _ hs0 hc0 hl hB hN (by omega)).mono ?_
    rintro e' w1 ⟨v, rfl, v0, v1, v9, hs1, hq1⟩
    have z1 := hq1.size
    have hc1 := hc0.only hq1 (by omega) (by omega)
    have ho1 := ho0.trans hq1
    have b1_0 := b0_0.only hq1 (.inr (by omega))
    have r1 := r0.only hq1 (.inr (by omega))
    have hl1 := hs1.lt
    clear hs0 hc0 ho0 hq1 b0_0 r0
    have v2 : v < n := v1 (by omega)
    clear v1 v9
    obtain ⟨k, rfl⟩ : ∃ k : Nat, v = (k : Int) := ⟨v.toNat, by omega⟩
    have hk : k < n := by omega
    go_wp2_with fail
    refine (l01Next_any g N C B A l _ _ hs1 hc1 hl hB hN (by omega)).mono ?_
    rintro e' w2 ⟨u, rfl, u0, u1, u9, hs2, hq2⟩
    have z2 := hq2.size
    have hc2 := hc1.only hq2 (by omega) (by omega)
    have ho2 := ho1.trans hq2
    have b2_0 := b1_0.only hq2 (.inr (by omega))
    have r2 := r1.only hq2 (.inr (by omega))
    have hl2 := hs2.lt
    clear hs1 hc1 ho1 hq2 b1_0 r1
    have u2 : u < 2 := u1 (by decide)
    clear u1 u9
    by_cases hu : u = 0
    · subst hu
      have bT := Blk.new (w := w2) (g := w2.heap.size) #[.int .i64 (k : Int), .bool true, .int .i64 0] 50 rfl
      have e0_ := bT.cell 0 (v := .int .i64 (k : Int)) rfl
      have e1_ := bT.cell 1 (v := .bool true) rfl
      obtain ⟨gr, x0, rfl, q1_, q2_, q3_, hx0, hcl, q4_⟩ := (r2.alloc (.cells #[.int .i64 (k : Int), .bool true, .int .i64 0] 50)).at_Pc hk
      have hR0 := HIN.out x0 (List.mem_of_getElem? hx0)
      have hcw := hcl.1
      have hch := hcl.2
      unfold Pc.inR at hR0
      clear hcl hx0 q4_ q3_ bT
      have es : IntKind.i64.wrap (x0.h - 1) = x0.h - 1 := IntWalk.i64_in _ (by omega)
      go_wp2_with fail
      clear e0_ e1_ hcw hch
      generalize hW : w2.alloc (.cells #[.int .i64 (k : Int), .bool true, .int .i64 0] 50) = w3
      have hb3 : Below w2.heap.size w2 w3 := by rw [← hW]; exact (below_newG w2 (.cells #[.int .i64 (k : Int), .bool true, .int .i64 0] 50))
      have z3 : w3.heap.size = w2.heap.size + 1 := by rw [← hW]; simp
      have b3_0 := b2_0.below hb3 b2_0.lt
      have b3_1 : Blk w3 (w2.heap.size) #[.int .i64 (k : Int), .bool true, .int .i64 0] 50 := by rw [← hW]; exact (Blk.new (w := w2) (g := w2.heap.size) #[.int .i64 (k : Int), .bool true, .int .i64 0] 50 (by simp))
      have hs3 := hs2.below hb3 hs2.lt
      have hc3 := hc2.below hb3 (by omega)
      have ho3 := ho2.then_below hb3 ho2.size
      clear hs2 hc2 ho2
      clear b2_0
      have r3 := r2.below hb3 (by omega)
      clear r2
      have hl3 := hs3.lt
      clear hW hb3
      refine (l01Next_any g N C B A l (x0.h - 1) _ hs3 hc3 hl hB hN (by omega)).mono ?_
      rintro e' w4 ⟨s, rfl, s0, s1, s9, hs4, hq4⟩
      have z4 := hq4.size
      have hc4 := hc3.only hq4 (by omega) (by omega)
      have ho4 := ho3.trans hq4
      have b4_0 := b3_0.only hq4 (.inr (by omega))
      have b4_1 := b3_1.only hq4 (.inr (by omega))
      have r4 := r3.only hq4 (.inr (by omega))
      have hl4 := hs4.lt
      clear hs3 hc3 ho3 hq4 b3_0 b3_1 r3
      have s2 : s ≤ 200000 := by
        rcases Int.lt_or_le (x0.h - 1) 1 with h1 | h1
        · have := s9 (by omega); omega
        · have := s1 h1; omega
      clear s1 s9
      have y1 : IntKind.i64.wrap (1 + s) = 1 + s := IntWalk.i64_in _ (by omega)
      have f0_ := b4_1.cell 2 (v := .int .i64 0) rfl
      have f1_ := b4_1.free 2
      go_wp2_with fail
      have hsA := hs4.abv (k := w2.heap.size) (i := 2) (.int .i64 (1 + s)) (by omega)
      have hqA : Only (w2.heap.size) (w2.heap.size + 1) w4 (w4.setCell ⟨w2.heap.size, 2, none⟩ (.int .i64 (1 + s))) := only_set9 _ _ _ _
      have hcA := hc4.only hqA (by omega) (by omega)
      have hoA := only_abv ho4 (k := w2.heap.size) (i := 2) (.int .i64 (1 + s)) (by omega)
      have b0A := b4_0.other ⟨w2.heap.size, 2, none⟩ (.int .i64 (1 + s)) (by show w.heap.size ≠ w2.heap.size; omega)
      have b1A : Blk (w4.setCell ⟨w2.heap.size, 2, none⟩ (.int .i64 (1 + s))) (w2.heap.size) #[.int .i64 (k : Int), .bool true, .int .i64 (1 + s)] 50 := b4_1.set 2 (.int .i64 (1 + s))
      have zA : (w4.setCell ⟨w2.heap.size, 2, none⟩ (.int .i64 (1 + s))).heap.size = w4.heap.size := by simp
      generalize w4.setCell ⟨w2.heap.size, 2, none⟩ (.int .i64 (1 + s)) = w5 at *
      have hs5 := hsA
      have hc5 := hcA
      have ho5 := hoA
      have b5_0 := b0A
      have b5_1 := b1A
      have z5 := zA
      have hl5 := hs5.lt
      clear hsA hcA hoA b0A b1A hqA zA f0_ f1_ hs4 hc4 ho4 b4_0 b4_1 r4
      refine (l01Next_any g N C B A l _ _ hs5 hc5 hl hB hN (by omega)).mono ?_
      rintro e' w6 ⟨m, rfl, m0, m1, m9, hs6, hq6⟩
      have z6 := hq6.size
      have hc6 := hc5.only hq6 (by omega) (by omega)
      have ho6 := ho5.trans hq6
      have b6_0 := b5_0.only hq6 (.inr (by omega))
      have b6_1 := b5_1.only hq6 (.inr (by omega))
      have hl6 := hs6.lt
      clear hs5 hc5 ho5 hq6 b5_0 b5_1
      have m2 : m < 24 := m1 (by decide)
      clear m1 m9
      by_cases m_0 : m = 0
      · subst m_0
        go_wp2_with fail
        refine (pick_lit g N C B A l [0, x0.h, -1] _ _ w6 rfl rfl hs6 hc6 hl hB hN (by simp) (by simp)).mono ?_
        rintro e' w7 ⟨x9, rfl, hx9, hs7, hq7⟩
        have z7 := hq7.size
        have hc7 := hc6.only hq7 (by omega) (by omega)
        have ho7 := ho6.trans hq7
        have b7_0 := b6_0.only hq7 (.inr (by omega))
        have b7_1 := b6_1.only hq7 (.inr (by omega))
        have hl7 := hs7.lt
        clear hs6 hc6 ho6 hq7 b6_0 b6_1
        clear hx9
        have hne : w.heap.size ≠ w2.heap.size := by omega
        have f0 := b7_1.cell 2 (v := .int .i64 (1 + s)) rfl
        have f1 := b7_1.free 2
        have bT := b7_1.set 2 (.int .i64 x9)
        have bR := b7_0.other ⟨w2.heap.size, 2, none⟩ (.int .i64 x9) hne
        have c0 := bT.cell 0 (v := .int .i64 (k : Int)) rfl
        have c1 := bT.cell 1 (v := .bool true) rfl
        have c2 := bT.cell 2 (v := .int .i64 x9) rfl
        have r0 := bR.cell 0 (v := .int .i64 0) rfl
        have r1 := bR.cell 1 (v := .bool false) rfl
        have r2 := bR.cell 2 (v := .int .i64 0) rfl
        have p0 := bR.free 0
        have p1 := bR.free 1
        have p2 := bR.free 2
        have S3 := Lib.hid (((bR.set 0 (.int .i64 (k : Int))).set 1 (.bool true)).set 2 (.int .i64 x9))
        clear bR bT
        go_wp2_with fail
        have d0 := S3.out.cell 0 (v := .int .i64 (k : Int)) rfl
        have d1 := S3.out.cell 1 (v := .bool true) rfl
        have d2 := S3.out.cell 2 (v := .int .i64 x9) rfl
        exact bodyPost_ret (v := .agg #[.int .i64 (k : Int), .bool true, .int .i64 x9]) (by simp [results, Tryz.results38, go_sem, d0, d1, d2]) rfl (DrCt.mk_ ((((hs7.abv _ (by omega)).abv _ (by omega)).abv _ (by omega)).abv _ (by omega)) (only_abv (only_abv (only_abv (only_abv ho7 _ (by omega)) _ (Nat.le_refl _)) _ (Nat.le_refl _)) _ (Nat.le_refl _)))
      have m_0' : (m == 0) = false := by simpa using m_0
      by_cases m_1 : m = 1
      · subst m_1
        go_wp2_with fail
        refine (pick_lit g N C B A l [-1, (n : Int)] _ _ w6 rfl rfl hs6 hc6 hl hB hN (by simp) (by simp)).mono ?_
        rintro e' w7 ⟨x9, rfl, hx9, hs7, hq7⟩
        have z7 := hq7.size
        have hc7 := hc6.only hq7 (by omega) (by omega)
        have ho7 := ho6.trans hq7
        have b7_0 := b6_0.only hq7 (.inr (by omega))
        have b7_1 := b6_1.only hq7 (.inr (by omega))
        have hl7 := hs7.lt
        clear hs6 hc6 ho6 hq7 b6_0 b6_1
        clear hx9
        have hne : w.heap.size ≠ w2.heap.size := by omega
        have f0 := b7_1.cell 0 (v := .int .i64 (k : Int)) rfl
        have f1 := b7_1.free 0
        have bT := b7_1.set 0 (.int .i64 x9)
        have bR := b7_0.other ⟨w2.heap.size, 0, none⟩ (.int .i64 x9) hne
        have c0 := bT.cell 0 (v := .int .i64 x9) rfl
        have c1 := bT.cell 1 (v := .bool true) rfl
        have c2 := bT.cell 2 (v := .int .i64 (1 + s)) rfl
        have r0 := bR.cell 0 (v := .int .i64 0) rfl
        have r1 := bR.cell 1 (v := .bool false) rfl
        have r2 := bR.cell 2 (v := .int .i64 0) rfl
        have p0 := bR.free 0
        have p1 := bR.free 1
        have p2 := bR.free 2
        have S3 := Lib.hid (((bR.set 0 (.int .i64 x9)).set 1 (.bool true)).set 2 (.int .i64 (1 + s)))
        clear bR bT
        go_wp2_with fail
        have d0 := S3.out.cell 0 (v := .int .i64 x9) rfl
        have d1 := S3.out.cell 1 (v := .bool true) rfl
        have d2 := S3.out.cell 2 (v := .int .i64 (1 + s)) rfl
        exact bodyPost_ret (v := .agg #[.int .i64 x9, .bool true, .int .i64 (1 + s)]) (by simp [results, Tryz.results38, go_sem, d0, d1, d2]) rfl (DrCt.mk_ ((((hs7.abv _ (by omega)).abv _ (by omega)).abv _ (by omega)).abv _ (by omega)) (only_abv (only_abv (only_abv (only_abv ho7 _ (by omega)) _ (Nat.le_refl _)) _ (Nat.le_refl _)) _ (Nat.le_refl _)))
      have m_1' : (m == 1) = false := by simpa using m_1
      have bT := b6_1
      have bR := b6_0
      have c0 := bT.cell 0 (v := .int .i64 (k : Int)) rfl
      have c1 := bT.cell 1 (v := .bool true) rfl
      have c2 := bT.cell 2 (v := .int .i64 (1 + s)) rfl
      have r0 := bR.cell 0 (v := .int .i64 0) rfl
      have r1 := bR.cell 1 (v := .bool false) rfl
      have r2 := bR.cell 2 (v := .int .i64 0) rfl
      have p0 := bR.free 0
      have p1 := bR.free 1
      have p2 := bR.free 2
      have S3 := Lib.hid (((bR.set 0 (.int .i64 (k : Int))).set 1 (.bool true)).set 2 (.int .i64 (1 + s)))
      clear bR bT
      go_wp2_with fail
      have d0 := S3.out.cell 0 (v := .int .i64 (k : Int)) rfl
      have d1 := S3.out.cell 1 (v := .bool true) rfl
      have d2 := S3.out.cell 2 (v := .int .i64 (1 + s)) rfl
      exact bodyPost_ret (v := .agg #[.int .i64 (k : Int), .bool true, .int .i64 (1 + s)]) (by simp [results, Tryz.results38, go_sem, d0, d1, d2]) rfl (DrCt.mk_ (((hs6.abv _ (by omega)).abv _ (by omega)).abv _ (by omega)) (only_abv (only_abv (only_abv ho6 _ (Nat.le_refl _)) _ (Nat.le_refl _)) _ (Nat.le_refl _)))
    · have hu' : (u == 0) = false := by simpa using hu
      have bT := Blk.new (w := w2) (g := w2.heap.size) #[.int .i64 (k : Int), .bool false, .int .i64 0] 50 rfl
      have e0_ := bT.cell 0 (v := .int .i64 (k : Int)) rfl
      have e1_ := bT.cell 1 (v := .bool false) rfl
      obtain ⟨gr, x0, rfl, q1_, q2_, q3_, hx0, hcl, q4_⟩ := (r2.alloc (.cells #[.int .i64 (k : Int), .bool false, .int .i64 0] 50)).at_Pc hk
      have hR0 := HIN.out x0 (List.mem_of_getElem? hx0)
      have hcw := hcl.1
      have hch := hcl.2
      unfold Pc.inR at hR0
      clear hcl hx0 q4_ q3_ bT
      have es : IntKind.i64.wrap (x0.w - 1) = x0.w - 1 := IntWalk.i64_in _ (by omega)
      go_wp2_with fail
      clear e0_ e1_ hcw hch
      generalize hW : w2.alloc (.cells #[.int .i64 (k : Int), .bool false, .int .i64 0] 50) = w3
      have hb3 : Below w2.heap.size w2 w3 := by rw [← hW]; exact (below_newG w2 (.cells #[.int .i64 (k : Int), .bool false, .int .i64 0] 50))
      have z3 : w3.heap.size = w2.heap.size + 1 := by rw [← hW]; simp
      have b3_0 := b2_0.below hb3 b2_0.lt
      have b3_1 : Blk w3 (w2.heap.size) #[.int .i64 (k : Int), .bool false, .int .i64 0] 50 := by rw [← hW]; exact (Blk.new (w := w2) (g := w2.heap.size) #[.int .i64 (k : Int), .bool false, .int .i64 0] 50 (by simp))
      have hs3 := hs2.below hb3 hs2.lt
      have hc3 := hc2.below hb3 (by omega)
      have ho3 := ho2.then_below hb3 ho2.size
      clear hs2 hc2 ho2
      clear b2_0
      have r3 := r2.below hb3 (by omega)
      clear r2
      have hl3 := hs3.lt
      clear hW hb3
      refine (l01Next_any g N C B A l (x0.w - 1) _ hs3 hc3 hl hB hN (by omega)).mono ?_
      rintro e' w4 ⟨s, rfl, s0, s1, s9, hs4, hq4⟩
      have z4 := hq4.size
      have hc4 := hc3.only hq4 (by omega) (by omega)
      have ho4 := ho3.trans hq4
      have b4_0 := b3_0.only hq4 (.inr (by omega))
      have b4_1 := b3_1.only hq4 (.inr (by omega))
      have r4 := r3.only hq4 (.inr (by omega))
      have hl4 := hs4.lt
      clear hs3 hc3 ho3 hq4 b3_0 b3_1 r3
      have s2 : s ≤ 200000 := by
        rcases Int.lt_or_le (x0.w - 1) 1 with h1 | h1
        · have := s9 (by omega); omega
        · have := s1 h1; omega
      clear s1 s9
      have y1 : IntKind.i64.wrap (1 + s) = 1 + s := IntWalk.i64_in _ (by omega)
      have f0_ := b4_1.cell 2 (v := .int .i64 0) rfl
      have f1_ := b4_1.free 2
      go_wp2_with fail
      have hsA := hs4.abv (k := w2.heap.size) (i := 2) (.int .i64 (1 + s)) (by omega)
      have hqA : Only (w2.heap.size) (w2.heap.size + 1) w4 (w4.setCell ⟨w2.heap.size, 2, none⟩ (.int .i64 (1 + s))) := only_set9 _ _ _ _
      have hcA := hc4.only hqA (by omega) (by omega)
      have hoA := only_abv ho4 (k := w2.heap.size) (i := 2) (.int .i64 (1 + s)) (by omega)
      have b0A := b4_0.other ⟨w2.heap.size, 2, none⟩ (.int .i64 (1 + s)) (by show w.heap.size ≠ w2.heap.size; omega)
      have b1A : Blk (w4.setCell ⟨w2.heap.size, 2, none⟩ (.int .i64 (1 + s))) (w2.heap.size) #[.int .i64 (k : Int), .bool false, .int .i64 (1 + s)] 50 := b4_1.set 2 (.int .i64 (1 + s))
      have zA : (w4.setCell ⟨w2.heap.size, 2, none⟩ (.int .i64 (1 + s))).heap.size = w4.heap.size := by simp
      generalize w4.setCell ⟨w2.heap.size, 2, none⟩ (.int .i64 (1 + s)) = w5 at *
      have hs5 := hsA
      have hc5 := hcA
      have ho5 := hoA
      have b5_0 := b0A
      have b5_1 := b1A
      have z5 := zA
      have hl5 := hs5.lt
      clear hsA hcA hoA b0A b1A hqA zA f0_ f1_ hs4 hc4 ho4 b4_0 b4_1 r4
      refine (l01Next_any g N C B A l _ _ hs5 hc5 hl hB hN (by omega)).mono ?_
      rintro e' w6 ⟨m, rfl, m0, m1, m9, hs6, hq6⟩
      have z6 := hq6.size
      have hc6 := hc5.only hq6 (by omega) (by omega)
      have ho6 := ho5.trans hq6
      have b6_0 := b5_0.only hq6 (.inr (by omega))
      have b6_1 := b5_1.only hq6 (.inr (by omega))
      have hl6 := hs6.lt
      clear hs5 hc5 ho5 hq6 b5_0 b5_1
      have m2 : m < 24 := m1 (by decide)
      clear m1 m9
      by_cases m_0 : m = 0
      · subst m_0
        go_wp2_with fail
        refine (pick_lit g N C B A l [0, x0.w, -1] _ _ w6 rfl rfl hs6 hc6 hl hB hN (by simp) (by simp)).mono ?_
        rintro e' w7 ⟨x9, rfl, hx9, hs7, hq7⟩
        have z7 := hq7.size
        have hc7 := hc6.only hq7 (by omega) (by omega)
        have ho7 := ho6.trans hq7
        have b7_0 := b6_0.only hq7 (.inr (by omega))
        have b7_1 := b6_1.only hq7 (.inr (by omega))
        have hl7 := hs7.lt
        clear hs6 hc6 ho6 hq7 b6_0 b6_1
        clear hx9
        have hne : w.heap.size ≠ w2.heap.size := by omega
        have f0 := b7_1.cell 2 (v := .int .i64 (1 + s)) rfl
        have f1 := b7_1.free 2
        have bT := b7_1.set 2 (.int .i64 x9)
        have bR := b7_0.other ⟨w2.heap.size, 2, none⟩ (.int .i64 x9) hne
        have c0 := bT.cell 0 (v := .int .i64 (k : Int)) rfl
        have c1 := bT.cell 1 (v := .bool false) rfl
        have c2 := bT.cell 2 (v := .int .i64 x9) rfl
        have r0 := bR.cell 0 (v := .int .i64 0) rfl
        have r1 := bR.cell 1 (v := .bool false) rfl
        have r2 := bR.cell 2 (v := .int .i64 0) rfl
        have p0 := bR.free 0
        have p1 := bR.free 1
        have p2 := bR.free 2
        have S3 := Lib.hid (((bR.set 0 (.int .i64 (k : Int))).set 1 (.bool false)).set 2 (.int .i64 x9))
        clear bR bT
        go_wp2_with fail
        have d0 := S3.out.cell 0 (v := .int .i64 (k : Int)) rfl
        have d1 := S3.out.cell 1 (v := .bool false) rfl
        have d2 := S3.out.cell 2 (v := .int .i64 x9) rfl
        exact bodyPost_ret (v := .agg #[.int .i64 (k : Int), .bool false, .int .i64 x9]) (by simp [results, Tryz.results38, go_sem, d0, d1, d2]) rfl (DrCt.mk_ ((((hs7.abv _ (by omega)).abv _ (by omega)).abv _ (by omega)).abv _ (by omega)) (only_abv (only_abv (only_abv (only_abv ho7 _ (by omega)) _ (Nat.le_refl _)) _ (Nat.le_refl _)) _ (Nat.le_refl _)))
      have m_0' : (m == 0) = false := by simpa using m_0
      by_cases m_1 : m = 1
      · subst m_1
        go_wp2_with fail
        refine (pick_lit g N C B A l [-1, (n : Int)] _ _ w6 rfl rfl hs6 hc6 hl hB hN (by simp) (by simp)).mono ?_
        rintro e' w7 ⟨x9, rfl, hx9, hs7, hq7⟩
        have z7 := hq7.size
        have hc7 := hc6.only hq7 (by omega) (by omega)
        have ho7 := ho6.trans hq7
        have b7_0 := b6_0.only hq7 (.inr (by omega))
        have b7_1 := b6_1.only hq7 (.inr (by omega))
        have hl7 := hs7.lt
        clear hs6 hc6 ho6 hq7 b6_0 b6_1
        clear hx9
        have hne : w.heap.size ≠ w2.heap.size := by omega
        have f0 := b7_1.cell 0 (v := .int .i64 (k : Int)) rfl
        have f1 := b7_1.free 0
        have bT := b7_1.set 0 (.int .i64 x9)
        have bR := b7_0.other ⟨w2.heap.size, 0, none⟩ (.int .i64 x9) hne
        have c0 := bT.cell 0 (v := .int .i64 x9) rfl
        have c1 := bT.cell 1 (v := .bool false) rfl
        have c2 := bT.cell 2 (v := .int .i64 (1 + s)) rfl
        have r0 := bR.cell 0 (v := .int .i64 0) rfl
        have r1 := bR.cell 1 (v := .bool false) rfl
        have r2 := bR.cell 2 (v := .int .i64 0) rfl
        have p0 := bR.free 0
        have p1 := bR.free 1
        have p2 := bR.free 2
        have S3 := Lib.hid (((bR.set 0 (.int .i64 x9)).set 1 (.bool false)).set 2 (.int .i64 (1 + s)))
        clear bR bT
        go_wp2_with fail
        have d0 := S3.out.cell 0 (v := .int .i64 x9) rfl
        have d1 := S3.out.cell 1 (v := .bool false) rfl
        have d2 := S3.out.cell 2 (v := .int .i64 (1 + s)) rfl
        exact bodyPost_ret (v := .agg #[.int .i64 x9, .bool false, .int .i64 (1 + s)]) (by simp [results, Tryz.results38, go_sem, d0, d1, d2]) rfl (DrCt.mk_ ((((hs7.abv _ (by omega)).abv _ (by omega)).abv _ (by omega)).abv _ (by omega)) (only_abv (only_abv (only_abv (only_abv ho7 _ (by omega)) _ (Nat.le_refl _)) _ (Nat.le_refl _)) _ (Nat.le_refl _)))
      have m_1' : (m == 1) = false := by simpa using m_1
      have bT := b6_1
      have bR := b6_0
      have c0 := bT.cell 0 (v := .int .i64 (k : Int)) rfl
      have c1 := bT.cell 1 (v := .bool false) rfl
      have c2 := bT.cell 2 (v := .int .i64 (1 + s)) rfl
      have r0 := bR.cell 0 (v := .int .i64 0) rfl
      have r1 := bR.cell 1 (v := .bool false) rfl
      have r2 := bR.cell 2 (v := .int .i64 0) rfl
      have p0 := bR.free 0
      have p1 := bR.free 1
      have p2 := bR.free 2
      have S3 := Lib.hid (((bR.set 0 (.int .i64 (k : Int))).set 1 (.bool false)).set 2 (.int .i64 (1 + s)))
      clear bR bT
      go_wp2_with fail
      have d0 := S3.out.cell 0 (v := .int .i64 (k : Int)) rfl
      have d1 := S3.out.cell 1 (v := .bool false) rfl
      have d2 := S3.out.cell 2 (v := .int .i64 (1 + s)) rfl
      exact bodyPost_ret (v := .agg #[.int .i64 (k : Int), .bool false, .int .i64 (1 + s)]) (by simp [results, Tryz.results38, go_sem, d0, d1, d2]) rfl (DrCt.mk_ (((hs6.abv _ (by omega)).abv _ (by omega)).abv _ (by omega)) (only_abv (only_abv (only_abv ho6 _ (Nat.le_refl _)) _ (Nat.le_refl _)) _ (Nat.le_refl _)))
end Go.Proofs.YtbhofhobnbhhhaaGreatDoor
