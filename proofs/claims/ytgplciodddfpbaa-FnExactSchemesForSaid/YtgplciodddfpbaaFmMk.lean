/- Contracts of the helpers of the exact laws at a form: marks in its lists. -/
import Derived.Test.YtgplciodddfpbaaFmTo
namespace Go.Proofs.Ytgplciodddfpbaa
open Go.RowKit

theorem only_wide {w w' : World} {lo hi lo' hi' : Nat} (h : Only lo hi w w') (h1 : lo' ≤ lo) (h2 : hi ≤ hi') : Only lo' hi' w w' := ⟨h.os, h.tape, h.output, h.size, fun k hk hne => h.block k hk (by omega)⟩
set_option maxRecDepth 100000 in
set_option maxHeartbeats 2000000 in
theorem markForm_any (f : Fv) (lo hi : Nat) (q : Int) (F G H : List Int) (w : World) (h : OF w lo hi f F G H) (hhi : hi ≤ w.heap.size) (hn : f.le 1048576) (h0 : 0 ≤ q) (h1 : q ≤ 1048577) :
    Calls Try.prog 39 #[f.v, .int .i64 q] w fun e w' => e = .returned (.int .i64 (q + f.n1 + f.n2 + f.n3)) ∧ OF w' lo hi f (marks f.n1 q) (marks f.n2 (q + f.n1)) (marks f.n3 (q + f.n1 + f.n2)) ∧ Only lo hi w w' := by
  obtain ⟨a, b, A1, n1, c1, A2, n2, c2, A3, n3, c3⟩ := f
  obtain ⟨l1, l2, l3⟩ := hn
  simp only at l1 l2 l3 ⊢
  have hB0 := below_alloc w (.cells (Fv.cs ⟨a, b, A1, n1, c1, A2, n2, c2, A3, n3, c3⟩) 28)
  have bA := Blk.new (w := w) (g := w.heap.size) (Fv.cs ⟨a, b, A1, n1, c1, A2, n2, c2, A3, n3, c3⟩) 28 rfl
  obtain ⟨⟨m1, m2, q1, q2, q3, p1, p2, p3⟩⟩ := h.alloc (.cells (Fv.cs ⟨a, b, A1, n1, c1, A2, n2, c2, A3, n3, c3⟩) 28)
  have HO := Lib.hid (Only.of_below hB0 lo hi)
  simp only at p1 p2 p3
  have k2 := bA.cell 2 (v := .slice A1 n1 c1) rfl
  have bAa := bA
  generalize hW : w.alloc (.cells (Fv.cs ⟨a, b, A1, n1, c1, A2, n2, c2, A3, n3, c3⟩) 28) = W0 at *
  have HBA := Lib.hid bAa
  clear hB0 bA bAa h
  go_enter Try.func39, Try.ntmps39
  go_wp2_with fail
  refine (markInt64S_any A1 n1 c1 lo m1 q F _ p1 l1 h0 (by omega)).mono ?_
  rintro e w1 ⟨rfl, p1a, u1⟩
  have HO1 := Lib.hid (HO.out.trans (only_wide u1 (Nat.le_refl _) (show m1 ≤ hi by omega)))
  have p2a := p2.only u1 (.inr (by omega))
  have p3a := p3.only u1 (.inr (by omega))
  have b1 := HBA.out.only u1 (.inr (by omega))
  have k3 := b1.cell 3 (v := .slice A2 n2 c2) rfl
  have HB1 := Lib.hid b1
  clear u1 p1 p2 p3 b1 k2
  go_wp2_with fail
  refine (markInt64S_any A2 n2 c2 m1 m2 (q + n1) G _ p2a l2 (by omega) (by omega)).mono ?_
  rintro e w2 ⟨rfl, p2b, u2⟩
  have HO2 := Lib.hid (HO1.out.trans (only_wide u2 (show lo ≤ m1 by omega) (show m2 ≤ hi by omega)))
  have p1b := p1a.only u2 (.inl (by omega))
  have p3b := p3a.only u2 (.inr (by omega))
  have b2 := HB1.out.only u2 (.inr (by omega))
  have k4 := b2.cell 4 (v := .slice A3 n3 c3) rfl
  clear u2 p1a p2a p3a b2 k3
  go_wp2_with fail
  refine (markInt64S_any A3 n3 c3 m2 hi (q + n1 + n2) H _ p3b l3 (by omega) (by omega)).mono ?_
  rintro e w3 ⟨rfl, p3c, u3⟩
  have HO3 := Lib.hid (HO2.out.trans (only_wide u3 (show lo ≤ m2 by omega) (Nat.le_refl _)))
  have p1c := p1b.only u3 (.inl (by omega))
  have p2c := p2b.only u3 (.inl (by omega))
  clear u3 p1b p2b p3b k4
  go_wp2_with fail
  go_ret
  exact ⟨rfl, ⟨⟨m1, m2, q1, q2, q3, p1c, p2c, p3c⟩⟩, HO3.out⟩

set_option maxRecDepth 100000 in
set_option maxHeartbeats 2000000 in
theorem heldForm_any (f : Fv) (B : Nat) (q : Int) (w : World) (h : RF w B f (marks f.n1 q) (marks f.n2 (q + f.n1)) (marks f.n3 (q + f.n1 + f.n2))) (hB : B ≤ w.heap.size) (hn : f.le 1048576) (h0 : 0 ≤ q) (h1 : q ≤ 1048577) :
    Calls Try.prog 40 #[f.v, .int .i64 q] w fun e w' => e = .returned (.int .i64 (q + f.n1 + f.n2 + f.n3)) ∧ Below w.heap.size w w' := by
  obtain ⟨a, b, A1, n1, c1, A2, n2, c2, A3, n3, c3⟩ := f
  obtain ⟨l1, l2, l3⟩ := hn
  simp only at l1 l2 l3 h ⊢
  have HB0 := Lib.hid (below_alloc w (.cells (Fv.cs ⟨a, b, A1, n1, c1, A2, n2, c2, A3, n3, c3⟩) 28))
  have hr := h.below HB0.out hB
  obtain ⟨r1, r2, r3⟩ := hr
  simp only at r1 r2 r3
  clear h
  go_enter Try.func40, Try.ntmps40
  go_wp2_with fail
  refine (heldInt64S_any A1 n1 c1 B q _ r1 l1 h0 (by omega)).mono ?_
  rintro e _ ⟨rfl, rfl⟩
  go_wp2_with fail
  refine (heldInt64S_any A2 n2 c2 B (q + n1) _ r2 l2 (by omega) (by omega)).mono ?_
  rintro e _ ⟨rfl, rfl⟩
  go_wp2_with fail
  refine (heldInt64S_any A3 n3 c3 B (q + n1 + n2) _ r3 l3 (by omega) (by omega)).mono ?_
  rintro e _ ⟨rfl, rfl⟩
  go_wp2_with fail
  go_ret
  exact ⟨rfl, HB0.out⟩
end Go.Proofs.Ytgplciodddfpbaa
