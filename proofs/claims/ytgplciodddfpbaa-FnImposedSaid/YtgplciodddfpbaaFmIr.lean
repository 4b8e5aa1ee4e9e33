/- Contract of the model's ImposeSheet. -/
import Derived.Test.YtgplciodddfpbaaFmIq
namespace Go.Proofs.Ytgplciodddfpbaa
open Go.RowKit

set_option maxRecDepth 100000 in
set_option maxHeartbeats 2000000 in
theorem specIp_any (a b : Int) (s : ByteArray) (u0 u1 C : Int) (L1 L2 L3 : List Int) (hR : Fm.ipR a b s.data.toList = (u0, u1, L1, L2, L3, C)) (hs : s.size ≤ 1048577) (w : World) :
    Calls Try.prog 12 #[.int .i64 a, .int .i64 b, .string s] w fun e w' => SC5 w u0 u1 L1 L2 L3 C e w' := by
  have HR := Lib.hid hR
  obtain ⟨D, hD⟩ : ∃ D, Fo.code a b s.data.toList = D := ⟨_, rfl⟩
  have hch : ∀ W, Calls Try.prog 50 #[.int .i64 a, .int .i64 b, .string s] W fun e w' => e = .returned (.int .i64 D) ∧ W = w' := fun W => by rw [← hD]; exact specCode_any a b s W hs
  have bR := Blk.new (w := w) (g := w.heap.size) (Fv.cs fv0) 28 rfl
  have hB0 := below_alloc w (.cells (Fv.cs fv0) 28)
  have HD := Lib.hid hD
  clear hR hD
  go_enter Try.func12, Try.ntmps12
  go_wp2_with fail
  generalize hW : w.alloc (.cells (Fv.cs fv0) 28) = W0 at bR hB0 ⊢
  have zW : W0.heap.size = w.heap.size + 1 := by rw [← hW]; simp
  clear hW
  refine (hch _).mono ?_
  rintro e _ ⟨rfl, rfl⟩
  by_cases h0 : D = 0
  rotate_left
  · have hD12 : D = 1 ∨ D = 2 := by
      have := HD.out
      unfold Fo.code at this
      split at this
      · split at this <;> omega
      · omega
    clear h0 hch
    rcases hD12 with rfl | rfl
    · skip
      obtain ⟨rfl, rfl, rfl, rfl, rfl, rfl⟩ := Fm.ip_bad HR.out HD.out (by decide)
      have s4 := bR.put5 fv0
      obtain ⟨x0, x1, x2, x3, x4⟩ := bR.lcell
      simp only at x0 x1 x2 x3 x4
      obtain ⟨y0, y1, y2, y3, y4⟩ := bR.freeF
      have HS4 := Lib.hid s4
      have HBW := Lib.hid (hB0)
      clear s4
      go_wp2_with fail
      obtain ⟨e0, e1, e2, e3, e4⟩ := HS4.out.lcell
      exact bodyPost_ret (v := .tuple #[Fv.v fv0, .int .i64 1]) (by simp [results, Try.results12, go_sem, e0, e1, e2, e3, e4]) rfl (SC5.mk_ fv0 rfl rfl (SF.zero _ w.heap.size w.heap.size) (Nat.le_refl _) (by have := HBW.out.size; simpa using this) fv0_le (below_put5 HBW.out fv0 (Nat.le_refl _)))
    · skip
      obtain ⟨rfl, rfl, rfl, rfl, rfl, rfl⟩ := Fm.ip_bad HR.out HD.out (by decide)
      have s4 := bR.put5 fv0
      obtain ⟨x0, x1, x2, x3, x4⟩ := bR.lcell
      simp only at x0 x1 x2 x3 x4
      obtain ⟨y0, y1, y2, y3, y4⟩ := bR.freeF
      have HS4 := Lib.hid s4
      have HBW := Lib.hid (hB0)
      clear s4
      go_wp2_with fail
      obtain ⟨e0, e1, e2, e3, e4⟩ := HS4.out.lcell
      exact bodyPost_ret (v := .tuple #[Fv.v fv0, .int .i64 2]) (by simp [results, Try.results12, go_sem, e0, e1, e2, e3, e4]) rfl (SC5.mk_ fv0 rfl rfl (SF.zero _ w.heap.size w.heap.size) (Nat.le_refl _) (by have := HBW.out.size; simpa using this) fv0_le (below_put5 HBW.out fv0 (Nat.le_refl _)))
  subst h0
  have hsc := Fo.code_zero HD.out
  obtain ⟨N, hN⟩ : ∃ N : Nat, 2 ^ s.size = N := ⟨_, rfl⟩
  have h6 := (Fo.scheme_len hsc).1
  rw [toList_len] at h6
  have N64 : N ≤ 64 := by rw [← hN]; exact pow_le6' h6
  have hg := Fm.ip_good HR.out HD.out
  rw [toList_len, hN] at hg
  obtain ⟨hu0, hu1, hL1, hL2, hL3, rfl⟩ := hg
  obtain rfl : a = u0 := hu0.symm
  obtain rfl : b = u1 := hu1.symm
  subst hL1 hL2 hL3
  have hcall := l05Form_any a b s W0 hsc N hN
  have HBR := Lib.hid bR
  have HB0 := Lib.hid hB0
  clear hsc hN bR hB0 hch h6
  go_wp2_with fail
  refine hcall.mono ?_
  rintro e w1 ⟨g1, g2, g3, rfl, oF, hb1⟩
  have z1 := hb1.size
  have bR1 := HBR.out.below hb1 (by omega)
  have HB1 := Lib.hid (HB0.out.trans (hb1.mono (by omega)))
  have HOF := Lib.hid oF
  have s4 := bR1.put5 ⟨a, b, some ⟨g1, 0, none⟩, N, N, some ⟨g2, 0, none⟩, N, N, some ⟨g3, 0, none⟩, N, N⟩
  obtain ⟨x0, x1, x2, x3, x4⟩ := bR1.lcell
  simp only at x0 x1 x2 x3 x4
  obtain ⟨y0, y1, y2, y3, y4⟩ := bR1.freeF
  have HS4 := Lib.hid s4
  clear s4 bR1 oF hb1 hcall
  go_wp2_with fail
  obtain ⟨e0, e1, e2, e3, e4⟩ := HS4.out.lcell
  simp only at e0 e1 e2 e3 e4
  exact bodyPost_ret (v := .tuple #[Fv.v ⟨a, b, some ⟨g1, 0, none⟩, N, N, some ⟨g2, 0, none⟩, N, N, some ⟨g3, 0, none⟩, N, N⟩, .int .i64 0]) (by simp [results, Try.results12, go_sem, e0, e1, e2, e3, e4]) rfl (SC5.mk_ ⟨a, b, some ⟨g1, 0, none⟩, N, N, some ⟨g2, 0, none⟩, N, N, some ⟨g3, 0, none⟩, N, N⟩ rfl rfl (HOF.out.put5 ⟨a, b, some ⟨g1, 0, none⟩, N, N, some ⟨g2, 0, none⟩, N, N, some ⟨g3, 0, none⟩, N, N⟩ (.inl (by omega))) (by omega) (by simp) ⟨show N ≤ _ by omega, show N ≤ _ by omega, show N ≤ _ by omega⟩ (below_put5 HB1.out ⟨a, b, some ⟨g1, 0, none⟩, N, N, some ⟨g2, 0, none⟩, N, N, some ⟨g3, 0, none⟩, N, N⟩ (Nat.le_refl _)))
end Go.Proofs.Ytgplciodddfpbaa
