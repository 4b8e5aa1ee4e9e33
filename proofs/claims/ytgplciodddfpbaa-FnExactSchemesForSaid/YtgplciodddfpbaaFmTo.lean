/- Contracts of the helpers of the exact laws at a form: its size, a copy of it, two equal forms, marks in its lists. -/
import Derived.Test.YtgplciodddfpbaaFmIm
import Derived.Test.YtgplciodddfpbaaMark
namespace Go.Proofs.Ytgplciodddfpbaa
open Go.RowKit

/-- The form's lists are the call's own, each in blocks of its own. -/
structure OF (w : World) (lo hi : Nat) (f : Fv) (F G H : List Int) : Prop where
  of_ : ∃ m1 m2, lo ≤ m1 ∧ m1 ≤ m2 ∧ m2 ≤ hi ∧ Own I w lo m1 2 (.slice f.A1 f.n1 f.c1) F ∧ Own I w m1 m2 2 (.slice f.A2 f.n2 f.c2) G ∧ Own I w m2 hi 2 (.slice f.A3 f.n3 f.c3) H
/-- The form's lists are the call's own. -/
structure SF (w : World) (lo hi : Nat) (f : Fv) (F G H : List Int) : Prop where
  o1 : Own I w lo hi 2 (.slice f.A1 f.n1 f.c1) F
  o2 : Own I w lo hi 2 (.slice f.A2 f.n2 f.c2) G
  o3 : Own I w lo hi 2 (.slice f.A3 f.n3 f.c3) H
section
variable {w w' : World} {lo hi lo' hi' B : Nat} {f : Fv} {F G H : List Int}
theorem OF.sf (h : OF w lo hi f F G H) : SF w lo hi f F G H := by
  obtain ⟨⟨m1, m2, h1, h2, h3, o1, o2, o3⟩⟩ := h
  exact ⟨o1.mono (Nat.le_refl _) (by omega), o2.mono h1 h3, o3.mono (by omega) (Nat.le_refl _)⟩
theorem SF.rf (h : SF w lo hi f F G H) : RF w hi f F G H := ⟨h.o1.rd, h.o2.rd, h.o3.rd⟩
theorem OF.rf (h : OF w lo hi f F G H) : RF w hi f F G H := h.sf.rf
theorem SF.mono (h : SF w lo hi f F G H) (h1 : lo' ≤ lo) (h2 : hi ≤ hi') : SF w lo' hi' f F G H := ⟨h.o1.mono h1 h2, h.o2.mono h1 h2, h.o3.mono h1 h2⟩
theorem OF.mono (h : OF w lo hi f F G H) (h1 : lo' ≤ lo) (h2 : hi ≤ hi') : OF w lo' hi' f F G H := by
  obtain ⟨⟨m1, m2, q1, q2, q3, o1, o2, o3⟩⟩ := h
  exact ⟨⟨m1, m2, by omega, q2, by omega, o1.mono h1 (Nat.le_refl _), o2, o3.mono (Nat.le_refl _) h2⟩⟩
theorem SF.below (h : SF w lo hi f F G H) (hb : Below B w w') (hB : hi ≤ B) : SF w' lo hi f F G H := ⟨h.o1.below hb hB, h.o2.below hb hB, h.o3.below hb hB⟩
theorem OF.below (h : OF w lo hi f F G H) (hb : Below B w w') (hB : hi ≤ B) : OF w' lo hi f F G H := by
  obtain ⟨⟨m1, m2, q1, q2, q3, o1, o2, o3⟩⟩ := h
  exact ⟨⟨m1, m2, q1, q2, q3, o1.below hb (by omega), o2.below hb (by omega), o3.below hb hB⟩⟩
theorem SF.q (h : SF w lo hi f F G H) (hq : Q w w') : SF w' lo hi f F G H := ⟨h.o1.q hq, h.o2.q hq, h.o3.q hq⟩
theorem OF.q (h : OF w lo hi f F G H) (hq : Q w w') : OF w' lo hi f F G H := by
  obtain ⟨⟨m1, m2, q1, q2, q3, o1, o2, o3⟩⟩ := h
  exact ⟨⟨m1, m2, q1, q2, q3, o1.q hq, o2.q hq, o3.q hq⟩⟩
theorem OF.drewN (h : OF w lo hi f F G H) (k : Nat) : OF (w.drewN k) lo hi f F G H := h.q (Q.drewN w k)
theorem SF.drewN (h : SF w lo hi f F G H) (k : Nat) : SF (w.drewN k) lo hi f F G H := h.q (Q.drewN w k)
theorem SF.alloc (h : SF w lo hi f F G H) (o : Obj) : SF (w.alloc o) lo hi f F G H := ⟨h.o1.alloc o, h.o2.alloc o, h.o3.alloc o⟩
theorem OF.alloc (h : OF w lo hi f F G H) (o : Obj) : OF (w.alloc o) lo hi f F G H := by
  obtain ⟨⟨m1, m2, q1, q2, q3, o1, o2, o3⟩⟩ := h
  exact ⟨⟨m1, m2, q1, q2, q3, o1.alloc o, o2.alloc o, o3.alloc o⟩⟩
theorem SF.only (h : SF w lo hi f F G H) (ho : Only lo' hi' w w') (hB : hi ≤ lo' ∨ hi' ≤ lo) : SF w' lo hi f F G H := ⟨h.o1.only ho hB, h.o2.only ho hB, h.o3.only ho hB⟩
theorem OF.only (h : OF w lo hi f F G H) (ho : Only lo' hi' w w') (hB : hi ≤ lo' ∨ hi' ≤ lo) : OF w' lo hi f F G H := by
  obtain ⟨⟨m1, m2, q1, q2, q3, o1, o2, o3⟩⟩ := h
  exact ⟨⟨m1, m2, q1, q2, q3, o1.only ho (by omega), o2.only ho (by omega), o3.only ho (by omega)⟩⟩
theorem SF.len (h : SF w lo hi f F G H) : F.length = f.n1 ∧ G.length = f.n2 ∧ H.length = f.n3 := h.rf.len
theorem OF.len (h : OF w lo hi f F G H) : F.length = f.n1 ∧ G.length = f.n2 ∧ H.length = f.n3 := h.rf.len
end
/-- The empty form. -/
abbrev fv0 : Fv := ⟨0, 0, none, 0, 0, none, 0, 0, none, 0, 0⟩
theorem OF.zero (w : World) (lo hi : Nat) (h : lo ≤ hi) : OF w lo hi fv0 [] [] [] := ⟨⟨lo, lo, Nat.le_refl _, Nat.le_refl _, h, Own.nil_, Own.nil_, Own.nil_⟩⟩
theorem SF.zero (w : World) (lo hi : Nat) : SF w lo hi fv0 [] [] [] := ⟨Own.nil_, Own.nil_, Own.nil_⟩
/-- A form and a code are handed back: by the program, by the model. -/
def FC (w : World) (a b : Int) (F G H : List Int) (C : Int) (e : Ending) (w' : World) : Prop :=
  ∃ f : Fv, (f.a = a ∧ f.b = b) ∧ e = .returned (.tuple #[f.v, .int .i64 C]) ∧ OF w' w.heap.size w'.heap.size f F G H ∧ f.le 64 ∧ Below w.heap.size w w'
def SC5 (w : World) (a b : Int) (F G H : List Int) (C : Int) (e : Ending) (w' : World) : Prop :=
  ∃ f : Fv, (f.a = a ∧ f.b = b) ∧ e = .returned (.tuple #[f.v, .int .i64 C]) ∧ SF w' w.heap.size w'.heap.size f F G H ∧ f.le 64 ∧ Below w.heap.size w w'

theorem szInt64S_any (A : Option Addr) (n c : Nat) (q : Int) (w : World) (hq : 0 ≤ q ∧ q ≤ 1048576) (hn : n ≤ 9223372036854775807) :
    Calls Try.prog 80 #[.slice A n c, .int .i64 q] w fun e w' => e = .returned (.int .i64 (if (n : Int) ≤ q then q - n else -1)) ∧ w = w' := by
  by_cases h : (n : Int) ≤ q
  · have HI : Hid ((if (n : Int) ≤ q then q - n else -1) = q - n) := if_pos h
    rw [HI.out]
    go_enter Try.func80, Try.ntmps80
    go_wp2
    go_ret
    exact ⟨rfl, rfl⟩
  · have HI : Hid ((if (n : Int) ≤ q then q - n else -1) = -1) := if_neg h
    rw [HI.out]
    have h' : q < n := by omega
    clear h
    go_enter Try.func80, Try.ntmps80
    go_wp2
    go_ret
    exact ⟨rfl, rfl⟩


def szR (n1 n2 n3 : Nat) : Int := if (n1 : Int) + n2 + n3 ≤ 1048576 then 1048576 - n1 - n2 - n3 else -1
set_option maxRecDepth 100000 in
set_option maxHeartbeats 1000000 in
theorem szForm_any (f : Fv) (w : World) (hn : f.n1 ≤ 9223372036854775807 ∧ f.n2 ≤ 9223372036854775807 ∧ f.n3 ≤ 9223372036854775807) (q : Int) (hq : szR f.n1 f.n2 f.n3 = q) :
    Calls Try.prog 36 #[f.v, .int .i64 1048576] w fun e w' => e = .returned (.int .i64 q) ∧ Below w.heap.size w w' := by
  obtain ⟨a, b, A1, n1, c1, A2, n2, c2, A3, n3, c3⟩ := f
  obtain ⟨m1, m2, m3⟩ := hn
  simp only at m1 m2 m3 hq ⊢
  have hB0 := below_alloc w (.cells (Fv.cs ⟨a, b, A1, n1, c1, A2, n2, c2, A3, n3, c3⟩) 51)
  go_enter Try.func36, Try.ntmps36
  go_wp2_with fail
  refine (szInt64S_any _ _ _ _ _ (by omega) m1).mono ?_
  rintro e _ ⟨rfl, rfl⟩
  by_cases q1 : (n1 : Int) ≤ 1048576
  rotate_left
  · have HE : Hid (-1 = q) := Lib.hid (by rw [← hq]; unfold szR; rw [if_neg (by omega)])
    have hv : Hid ((if (n1 : Int) ≤ 1048576 then 1048576 - (n1 : Int) else -1) = -1) := Lib.hid (if_neg q1)
    rw [hv.out]
    clear q1 hq
    go_wp2_with fail
    go_ret
    exact ⟨ret_i HE.out, hB0⟩
  have hv : Hid ((if (n1 : Int) ≤ 1048576 then 1048576 - (n1 : Int) else -1) = 1048576 - (n1 : Int)) := Lib.hid (if_pos q1)
  rw [hv.out]
  obtain ⟨r1, hr1⟩ : ∃ r1, r1 = 1048576 - (n1 : Int) := ⟨_, rfl⟩
  rw [← hr1]
  have b1 : 0 ≤ r1 ∧ r1 ≤ 1048576 := by omega
  have HR1 := Lib.hid hr1
  have HQ := Lib.hid hq
  clear hr1 hv q1 hq
  go_wp2_with fail
  refine (szInt64S_any _ _ _ _ _ b1 m2).mono ?_
  rintro e _ ⟨rfl, rfl⟩
  by_cases q2 : (n2 : Int) ≤ r1
  rotate_left
  · have HE : Hid (-1 = q) := Lib.hid (by have := HR1.out; rw [← HQ.out]; unfold szR; rw [if_neg (by omega)])
    have hv : Hid ((if (n2 : Int) ≤ r1 then r1 - (n2 : Int) else -1) = -1) := Lib.hid (if_neg q2)
    rw [hv.out]
    clear q2
    go_wp2_with fail
    go_ret
    exact ⟨ret_i HE.out, hB0⟩
  have hv2 : Hid ((if (n2 : Int) ≤ r1 then r1 - (n2 : Int) else -1) = r1 - (n2 : Int)) := Lib.hid (if_pos q2)
  rw [hv2.out]
  obtain ⟨r2, hr2⟩ : ∃ r2, r2 = r1 - (n2 : Int) := ⟨_, rfl⟩
  rw [← hr2]
  have b2 : 0 ≤ r2 ∧ r2 ≤ 1048576 := by omega
  have HR2 := Lib.hid hr2
  clear hr2 hv2 q2
  go_wp2_with fail
  refine (szInt64S_any _ _ _ _ _ b2 m3).mono ?_
  rintro e _ ⟨rfl, rfl⟩
  by_cases q3 : (n3 : Int) ≤ r2
  rotate_left
  · have HE : Hid (-1 = q) := Lib.hid (by have := HR1.out; have := HR2.out; rw [← HQ.out]; unfold szR; rw [if_neg (by omega)])
    have hv : Hid ((if (n3 : Int) ≤ r2 then r2 - (n3 : Int) else -1) = -1) := Lib.hid (if_neg q3)
    rw [hv.out]
    clear q3
    go_wp2_with fail
    go_ret
    exact ⟨ret_i HE.out, hB0⟩
  have hv3 : Hid ((if (n3 : Int) ≤ r2 then r2 - (n3 : Int) else -1) = r2 - (n3 : Int)) := Lib.hid (if_pos q3)
  rw [hv3.out]
  have HE : Hid (r2 - (n3 : Int) = q) := Lib.hid (by have := HR1.out; have := HR2.out; rw [← HQ.out]; unfold szR; rw [if_pos (by omega)]; omega)
  have b3 : 0 ≤ r2 - (n3 : Int) := by omega
  clear q3 hv3
  go_wp2_with fail
  go_ret
  exact ⟨ret_i HE.out, hB0⟩

set_option maxRecDepth 100000 in
set_option maxHeartbeats 1000000 in
theorem eqForm_true (f f' : Fv) (ha : f'.a = f.a) (hb : f'.b = f.b) (B B' : Nat) (F G H : List Int) (w : World) (h : RF w B f F G H) (h' : RF w B' f' F G H) (hB : B ≤ w.heap.size) (hB' : B' ≤ w.heap.size) (hn : f.le 1048576) :
    Calls Try.prog 38 #[f.v, f'.v] w fun e w' => e = .returned (.bool true) ∧ Below w.heap.size w w' := by
  obtain ⟨a, b, A1, n1, c1, A2, n2, c2, A3, n3, c3⟩ := f
  obtain ⟨a', b', A1', n1', c1', A2', n2', c2', A3', n3', c3'⟩ := f'
  obtain ⟨e1, e2, e3⟩ := h.len
  obtain ⟨e1', e2', e3'⟩ := h'.len
  simp only at ha hb e1 e2 e3 e1' e2' e3'
  subst ha hb
  obtain rfl : n1' = n1 := by omega
  obtain rfl : n2' = n2 := by omega
  obtain rfl : n3' = n3 := by omega
  obtain ⟨l1, l2, l3⟩ := hn
  simp only at l1 l2 l3
  have hB0 : Below w.heap.size w ((w.alloc (.cells (Fv.cs ⟨a', b', A1, n1', c1, A2, n2', c2, A3, n3', c3⟩) 28)).alloc (.cells (Fv.cs ⟨a', b', A1', n1', c1', A2', n2', c2', A3', n3', c3'⟩) 28)) := ((Below.refl _ _).alloc (Nat.le_refl _) _).alloc (by simp) _
  have hr := h.below hB0 hB
  have hr' := h'.below hB0 hB'
  obtain ⟨r1, r2, r3⟩ := hr
  obtain ⟨s1, s2, s3⟩ := hr'
  simp only at r1 r2 r3 s1 s2 s3
  have HB0 := Lib.hid hB0
  clear h h' e1 e2 e3 e1' e2' e3' hB0
  go_enter Try.func38, Try.ntmps38
  go_wp2_with fail
  refine (eqInt64S_true _ _ _ _ _ _ _ _ _ r1 s1 l1).mono ?_
  rintro e _ ⟨rfl, q1, rfl⟩
  go_wp2_with fail
  refine (eqInt64S_true _ _ _ _ _ _ _ _ _ (r2.drewN _) (s2.drewN _) l2).mono ?_
  rintro e _ ⟨rfl, q2, rfl⟩
  go_wp2_with fail
  refine (eqInt64S_true _ _ _ _ _ _ _ _ _ (r3.drewN _) (s3.drewN _) l3).mono ?_
  rintro e _ ⟨rfl, q3, rfl⟩
  go_wp2_with fail
  go_ret
  exact ⟨rfl, below_drewN' HB0.out _⟩

/-- A copy of a form, with blocks of its own. -/
def ToP (w : World) (f : Fv) (F G H : List Int) (e : Ending) (w' : World) : Prop :=
  ∃ g1 g2 g3, e = .returned (Fv.v ⟨f.a, f.b, some ⟨g1, 0, none⟩, f.n1, f.n1, some ⟨g2, 0, none⟩, f.n2, f.n2, some ⟨g3, 0, none⟩, f.n3, f.n3⟩) ∧
    OF w' w.heap.size w'.heap.size ⟨f.a, f.b, some ⟨g1, 0, none⟩, f.n1, f.n1, some ⟨g2, 0, none⟩, f.n2, f.n2, some ⟨g3, 0, none⟩, f.n3, f.n3⟩ F G H ∧ Below w.heap.size w w'
theorem Own.put {α : Type} {enc : α → Value} {w : World} {lo hi g i : Nat} {e : TypeId} {v : Value} {l : List α} (h : Own enc w lo hi e v l) (u : Value) (hg : g < lo ∨ hi ≤ g) : Own enc (w.setCell ⟨g, i, none⟩ u) lo hi e v l :=
  h.other _ _ (fun hh => by have := h.lt g hh; omega)
set_option maxRecDepth 100000 in
set_option maxHeartbeats 4000000 in
theorem toForm_any (f : Fv) (B : Nat) (F G H : List Int) (w : World) (h : RF w B f F G H) (hB : B ≤ w.heap.size) (hn : f.le 1048576) :
    Calls Try.prog 37 #[f.v] w fun e w' => ToP w f F G H e w' := by
  obtain ⟨a, b, A1, n1, c1, A2, n2, c2, A3, n3, c3⟩ := f
  obtain ⟨l1, l2, l3⟩ := hn
  simp only at l1 l2 l3 ⊢
  go_enter Try.func37, Try.ntmps37
  go_wp2_with fail
  generalize hW0 : ((w.alloc (.cells (Fv.cs ⟨a, b, A1, n1, c1, A2, n2, c2, A3, n3, c3⟩) 51)).alloc (.cells (Fv.cs fv0) 28)).alloc (.cells (Fv.cs ⟨a, b, none, 0, 0, none, 0, 0, none, 0, 0⟩) 28) = W0
  have z0 : W0.heap.size = w.heap.size + 3 := by rw [← hW0]; simp
  have bA : Blk W0 w.heap.size (Fv.cs ⟨a, b, A1, n1, c1, A2, n2, c2, A3, n3, c3⟩) 51 := by rw [← hW0]; exact ((Blk.new _ _ rfl).alloc _).alloc _
  have bR : Blk W0 (w.heap.size + 1) (Fv.cs fv0) 28 := by rw [← hW0]; exact (Blk.new _ _ (by simp)).alloc _
  have bO : Blk W0 (w.heap.size + 1 + 1) (Fv.cs ⟨a, b, none, 0, 0, none, 0, 0, none, 0, 0⟩) 28 := by rw [← hW0]; exact Blk.new _ _ (by simp)
  have hB0 : Below w.heap.size w W0 := by rw [← hW0]; exact (((Below.refl _ _).alloc (Nat.le_refl _) _).alloc (by simp) _).alloc (by simp; omega) _
  have hr0 := h.below hB0 hB
  have h2 := h
  obtain ⟨r1, r2, r3⟩ := hr0
  simp only at r1 r2 r3
  clear hW0 h
  refine (toInt64S_any A1 n1 c1 B F _ r1 (by omega) l1).mono ?_
  rintro e w1 ⟨g1, rfl, o1, hb1⟩
  have z1 := hb1.size
  have bA1 := bA.below hb1 (by omega)
  have bR1 := bR.below hb1 (by omega)
  have bO1 := bO.below hb1 (by omega)
  have d1 := bA1.cell 3 (v := .slice A2 n2 c2) rfl
  have x2 := bO1.cell 2 (v := .slice none 0 0) rfl
  have y2 := bO1.free 2
  have r2a := r2.below hb1 (by omega)
  have r3a := r3.below hb1 (by omega)
  have o1a := o1.put (.slice (some ⟨g1, 0, none⟩) n1 n1) (g := w.heap.size + 1 + 1) (i := 2) (.inl (by omega))
  have bO2 := bO1.set 2 (.slice (some ⟨g1, 0, none⟩) n1 n1)
  have bR2 := bR1.other ⟨w.heap.size + 1 + 1, 2, none⟩ (.slice (some ⟨g1, 0, none⟩) n1 n1) (by show w.heap.size + 1 ≠ w.heap.size + 1 + 1; omega)
  have bA2 := bA1.other ⟨w.heap.size + 1 + 1, 2, none⟩ (.slice (some ⟨g1, 0, none⟩) n1 n1) (by show w.heap.size ≠ w.heap.size + 1 + 1; omega)
  have hB1 : Below w.heap.size w (w1.setCell ⟨w.heap.size + 1 + 1, 2, none⟩ (.slice (some ⟨g1, 0, none⟩) n1 n1)) := (hB0.trans (hb1.mono (by omega))).setCell (by show w.heap.size ≤ w.heap.size + 1 + 1; omega) _
  have r2b := h2.r2.below hB1 hB
  have r3b := h2.r3.below hB1 hB
  simp only at r2b r3b
  clear r2a r3a r1 r2 r3
  go_wp2_with fail
  generalize hv2 : w1.setCell ⟨w.heap.size + 1 + 1, 2, none⟩ (.slice (some ⟨g1, 0, none⟩) n1 n1) = v1 at o1a bO2 bR2 bA2 hB1 r2b r3b ⊢
  have zv1 : v1.heap.size = w1.heap.size := by rw [← hv2]; simp
  clear hv2 bA1 bR1 bO1 d1 x2 y2 bA bR bO hb1
  refine (toInt64S_any A2 n2 c2 B G _ r2b (by omega) l2).mono ?_
  rintro e w2 ⟨g2, rfl, o2, hb2⟩
  have z2 := hb2.size
  have bA3 := bA2.below hb2 (by omega)
  have bR3 := bR2.below hb2 (by omega)
  have bO3 := bO2.below hb2 (by omega)
  have o1b := o1a.below hb2 (by omega)
  have d1 := bA3.cell 4 (v := .slice A3 n3 c3) rfl
  have x2 := bO3.cell 3 (v := .slice none 0 0) rfl
  have y2 := bO3.free 3
  have o1c := o1b.put (.slice (some ⟨g2, 0, none⟩) n2 n2) (g := w.heap.size + 1 + 1) (i := 3) (.inl (by omega))
  have o2a := o2.put (.slice (some ⟨g2, 0, none⟩) n2 n2) (g := w.heap.size + 1 + 1) (i := 3) (.inl (by omega))
  have bO4 := bO3.set 3 (.slice (some ⟨g2, 0, none⟩) n2 n2)
  have bR4 := bR3.other ⟨w.heap.size + 1 + 1, 3, none⟩ (.slice (some ⟨g2, 0, none⟩) n2 n2) (by show w.heap.size + 1 ≠ w.heap.size + 1 + 1; omega)
  have hB2 : Below w.heap.size w (w2.setCell ⟨w.heap.size + 1 + 1, 3, none⟩ (.slice (some ⟨g2, 0, none⟩) n2 n2)) := (hB1.trans (hb2.mono (by omega))).setCell (by show w.heap.size ≤ w.heap.size + 1 + 1; omega) _
  have r3c := h2.r3.below hB2 hB
  simp only at r3c
  clear r2b r3b
  go_wp2_with fail
  generalize hv2 : w2.setCell ⟨w.heap.size + 1 + 1, 3, none⟩ (.slice (some ⟨g2, 0, none⟩) n2 n2) = v2 at o1c o2a bO4 bR4 hB2 r3c ⊢
  have zv2 : v2.heap.size = w2.heap.size := by rw [← hv2]; simp
  clear hv2 bA3 bR3 bO3 d1 x2 y2 hb2 bA2 bR2 bO2 o1b o1a o2
  refine (toInt64S_any A3 n3 c3 B H _ r3c (by omega) l3).mono ?_
  rintro e w3 ⟨g3, rfl, o3, hb3⟩
  have z3 := hb3.size
  have bR5 := bR4.below hb3 (by omega)
  have bO5 := bO4.below hb3 (by omega)
  have o1d := o1c.below hb3 (by omega)
  have o2b := o2a.below hb3 (by omega)
  have x0 := bO5.cell 0 (v := .int .i64 a) rfl
  have x1 := bO5.cell 1 (v := .int .i64 b) rfl
  have x2 := bO5.cell 2 (v := .slice (some ⟨g1, 0, none⟩) n1 n1) rfl
  have x3 := bO5.cell 3 (v := .slice (some ⟨g2, 0, none⟩) n2 n2) rfl
  have x4 := bO5.cell 4 (v := .slice none 0 0) rfl
  have y4 := bO5.free 4
  have u0 := bR5.cell 0 (v := .int .i64 0) rfl
  have u1 := bR5.cell 1 (v := .int .i64 0) rfl
  have u2 := bR5.cell 2 (v := .slice none 0 0) rfl
  have u3 := bR5.cell 3 (v := .slice none 0 0) rfl
  have u4 := bR5.cell 4 (v := .slice none 0 0) rfl
  have t0 := bR5.free 0
  have t1 := bR5.free 1
  have t2 := bR5.free 2
  have t3 := bR5.free 3
  have t4 := bR5.free 4
  clear bO4 bR4 o1c o2a
  go_wp2_with fail
  have s4 := ((((((bR5.other ⟨w.heap.size + 1 + 1, 4, none⟩ (.slice (some ⟨g3, 0, none⟩) n3 n3) (by show w.heap.size + 1 ≠ w.heap.size + 1 + 1; omega)).set 0 (.int .i64 a)).set 1 (.int .i64 b)).set 2 (.slice (some ⟨g1, 0, none⟩) n1 n1)).set 3 (.slice (some ⟨g2, 0, none⟩) n2 n2)).set 4 (.slice (some ⟨g3, 0, none⟩) n3 n3))
  have d0 := s4.cell 0 (v := .int .i64 a) rfl
  have d1 := s4.cell 1 (v := .int .i64 b) rfl
  have d2 := s4.cell 2 (v := .slice (some ⟨g1, 0, none⟩) n1 n1) rfl
  have d3 := s4.cell 3 (v := .slice (some ⟨g2, 0, none⟩) n2 n2) rfl
  have d4 := s4.cell 4 (v := .slice (some ⟨g3, 0, none⟩) n3 n3) rfl
  have HS : ∀ {v : Value} {l : List Int} {lo hi : Nat}, Own I w3 lo hi 2 v l → w.heap.size + 1 + 1 < lo → Own I ((((((w3.setCell ⟨w.heap.size + 1 + 1, 4, none⟩ (.slice (some ⟨g3, 0, none⟩) n3 n3)).setCell ⟨w.heap.size + 1, 0, none⟩ (.int .i64 a)).setCell ⟨w.heap.size + 1, 1, none⟩ (.int .i64 b)).setCell ⟨w.heap.size + 1, 2, none⟩ (.slice (some ⟨g1, 0, none⟩) n1 n1)).setCell ⟨w.heap.size + 1, 3, none⟩ (.slice (some ⟨g2, 0, none⟩) n2 n2)).setCell ⟨w.heap.size + 1, 4, none⟩ (.slice (some ⟨g3, 0, none⟩) n3 n3)) lo hi 2 v l := fun ho hlt =>
    (((((ho.put _ (.inl (by omega))).put _ (.inl (by omega))).put _ (.inl (by omega))).put _ (.inl (by omega))).put _ (.inl (by omega))).put _ (.inl (by omega))
  refine bodyPost_ret (v := Fv.v ⟨a, b, some ⟨g1, 0, none⟩, n1, n1, some ⟨g2, 0, none⟩, n2, n2, some ⟨g3, 0, none⟩, n3, n3⟩) (by simp [results, Try.results37, go_sem, d0, d1, d2, d3, d4]) rfl ⟨g1, g2, g3, rfl, ⟨⟨w1.heap.size, w2.heap.size, by omega, by omega, by simp; omega, ?_, ?_, ?_⟩⟩, ?_⟩
  · exact HS (o1d.mono (lo' := W0.heap.size) (by omega) (Nat.le_refl _)) (by omega) |>.mono (by omega) (Nat.le_refl _)
  · exact HS (o2b.mono (lo' := v1.heap.size) (by omega) (Nat.le_refl _)) (by omega) |>.mono (by omega) (Nat.le_refl _)
  · exact HS (o3.mono (lo' := v2.heap.size) (by omega) (Nat.le_refl _)) (by omega) |>.mono (by omega) (by simp)
  · exact ((((((hB2.trans (hb3.mono (by omega))).setCell (by show w.heap.size ≤ w.heap.size + 1 + 1; omega) _).setCell (by show w.heap.size ≤ w.heap.size + 1; omega) _).setCell (by show w.heap.size ≤ w.heap.size + 1; omega) _).setCell (by show w.heap.size ≤ w.heap.size + 1; omega) _).setCell (by show w.heap.size ≤ w.heap.size + 1; omega) _).setCell (by show w.heap.size ≤ w.heap.size + 1; omega) _
end Go.Proofs.Ytgplciodddfpbaa
