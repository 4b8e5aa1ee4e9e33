/- The walk of the law FnImposed, out of the contracts. -/
import Derived.Test.YtgplciodddfpbaaFmDy
import Derived.Test.YtgplciodddfpbaaFmIz
import Derived.Test.YtgplciodddfpbaaFmSi
import Derived.Test.YtgplciodddfpbaaFmRd
import Derived.Test.YtgplciodddfpbaaFmLk
import Derived.Deep.RegionHeld3
namespace Go.Proofs.Ytgplciodddfpbaa
open Go.RowKit

theorem le_big {f : Fv} (h : f.le 64) : f.le 1048576 := ⟨Nat.le_trans h.1 (by decide), Nat.le_trans h.2.1 (by decide), Nat.le_trans h.2.2 (by decide)⟩
set_option maxRecDepth 100000 in
set_option maxHeartbeats 8000000 in
theorem w_FnImposed (A : Option Addr) (N C : Nat) (l : List Int) (w : World) (h : Rd U w w.heap.size A N l) (hl : inByte l) :
    Calls Try.prog 3 #[.slice A N C] w fun e w' => e = .returned (.bool true) ∧ Below w.heap.size w w' := by
  by_cases hN : N ≤ 4096
  · have HF : Hid (decide (4096 < N) = false) := decide_eq_false (by omega)
    go_enter Try.func3, Try.ntmps3
    go_wp2_with fail
    refine (big_any A N C _).mono ?_
    rintro e _ ⟨rfl, rfl⟩
    rw [HF.out]
    go_wp2_with fail
    refine (DrawIm_any N C w.heap.size A l w h hl (Nat.le_refl _) (by omega)).mono ?_
    rintro e w1 ⟨a, b, t, rfl, _, _, _, _, ht, hbw0⟩
    have hz0 := hbw0.size
    obtain ⟨u0, u1, L1, L2, L3, D, hR⟩ : ∃ u0 u1 L1 L2 L3 D, Fm.ipR a b t.data.toList = (u0, u1, L1, L2, L3, D) := ⟨_, _, _, _, _, _, rfl⟩
    have HR := Lib.hid hR
    clear hR
    go_wp2_with fail
    refine (implIp_any a b t u0 u1 D L1 L2 L3 HR.out (by omega) w1).mono ?_
    rintro e w2 ⟨f, ⟨fa, fb⟩, rfl, ro, hle, hb⟩
    obtain ⟨u0, u1, A1, n1, c1, A2, n2, c2, A3, n3, c3⟩ := f
    simp only at fa fb
    subst fa fb
    have HL6 := Lib.hid hle
    clear hle
    have hz1 := hb.size
    have hbw1 := hbw0.trans (hb.mono (by omega))
    clear hbw0 hb
    have ro2 := ro.rf
    have b6_2 := FBx.new w2 ⟨u0, u1, A1, n1, c1, A2, n2, c2, A3, n3, c3⟩
    have R6_2 := Lib.hid (ro2.alloc (by omega) (.cells (Fv.cs ⟨u0, u1, A1, n1, c1, A2, n2, c2, A3, n3, c3⟩) 28))
    have hbw2 := hbw1.alloc (by omega) (.cells (Fv.cs ⟨u0, u1, A1, n1, c1, A2, n2, c2, A3, n3, c3⟩) 28)
    clear hbw1
    clear ro ro2
    go_wp2_with fail
    generalize hV : w2.alloc (.cells (Fv.cs ⟨u0, u1, A1, n1, c1, A2, n2, c2, A3, n3, c3⟩) 28) = x2 at b6_2 R6_2 hbw2  ⊢
    have zx2 : x2.heap.size = w2.heap.size + 1 := by rw [← hV]; simp
    clear hV
    refine (specIp_any a b t u0 u1 D L1 L2 L3 HR.out (by omega) x2).mono ?_
    rintro e w3 ⟨f, ⟨fa, fb⟩, rfl, ro, hle, hb⟩
    obtain ⟨t0, t1, B1, m1, d1, B2, m2, d2, B3, m3, d3⟩ := f
    simp only at fa fb
    subst fa fb
    clear hle
    have hz3 := hb.size
    have b6_3 := b6_2.below hb (by omega)
    clear b6_2
    have R6_3 := Lib.hid (R6_2.out.below hb (by omega))
    have hbw3 := hbw2.trans (hb.mono (by omega))
    clear hbw2 hb
    have ro2 := ro.rf
    have eL68 : Hid (n1 = m1 ∧ n2 = m2 ∧ n3 = m3) := Lib.hid (by have h1 := R6_3.out.len; have h2 := ro2.len; simp only at h1 h2; exact ⟨by omega, by omega, by omega⟩)
    have b6_4 := b6_3.alloc (.cells (Fv.cs ⟨t0, t1, B1, m1, d1, B2, m2, d2, B3, m3, d3⟩) 28)
    clear b6_3
    have b8_4 := FBx.new w3 ⟨t0, t1, B1, m1, d1, B2, m2, d2, B3, m3, d3⟩
    have R6_4 := Lib.hid (R6_3.out.alloc (by omega) (.cells (Fv.cs ⟨t0, t1, B1, m1, d1, B2, m2, d2, B3, m3, d3⟩) 28))
    have R8_4 := Lib.hid (ro2.alloc (by omega) (.cells (Fv.cs ⟨t0, t1, B1, m1, d1, B2, m2, d2, B3, m3, d3⟩) 28))
    have hbw4 := hbw3.alloc (by omega) (.cells (Fv.cs ⟨t0, t1, B1, m1, d1, B2, m2, d2, B3, m3, d3⟩) 28)
    clear hbw3
    clear ro ro2
    go_wp2_with fail
    generalize hV : w3.alloc (.cells (Fv.cs ⟨t0, t1, B1, m1, d1, B2, m2, d2, B3, m3, d3⟩) 28) = x3 at b6_4 b8_4 R6_4 R8_4 hbw4  ⊢
    have zx3 : x3.heap.size = w3.heap.size + 1 := by rw [← hV]; simp
    clear hV
    refine (DrawSh_any N C w.heap.size A l x3 (h.below hbw4 (Nat.le_refl _)) hl (by omega) (by omega)).mono ?_
    rintro e w4 ⟨f, F, G, H, y, rfl, _, gn, gr, gy, ro, hb⟩
    obtain ⟨ga, gb, D1, g1, e1, D2, g2, e2, D3, g3, e3⟩ := f
    simp only at gn
    have HGL : Hid ((⟨ga, gb, D1, g1, e1, D2, g2, e2, D3, g3, e3⟩ : Fv).le 1048576) := Lib.hid ⟨show g1 ≤ _ by omega, show g2 ≤ _ by omega, show g3 ≤ _ by omega⟩
    have HGR := Lib.hid gr
    have HGY := Lib.hid gy
    clear gn gr gy
    have hz5 := hb.size
    have b6_5 := b6_4.below hb (by omega)
    clear b6_4
    have b8_5 := b8_4.below hb (by omega)
    clear b8_4
    have R6_5 := Lib.hid (R6_4.out.below hb (by omega))
    have R8_5 := Lib.hid (R8_4.out.below hb (by omega))
    have hbw5 := hbw4.trans (hb.mono (by omega))
    clear hbw4 hb
    have ro2 := ro.rf
    have b6_6 := b6_5.alloc (.cells (Fv.cs ⟨ga, gb, D1, g1, e1, D2, g2, e2, D3, g3, e3⟩) 28)
    clear b6_5
    have b8_6 := b8_5.alloc (.cells (Fv.cs ⟨ga, gb, D1, g1, e1, D2, g2, e2, D3, g3, e3⟩) 28)
    clear b8_5
    have bg_6 := FBx.new w4 ⟨ga, gb, D1, g1, e1, D2, g2, e2, D3, g3, e3⟩
    have R6_6 := Lib.hid (R6_5.out.alloc (by omega) (.cells (Fv.cs ⟨ga, gb, D1, g1, e1, D2, g2, e2, D3, g3, e3⟩) 28))
    have R8_6 := Lib.hid (R8_5.out.alloc (by omega) (.cells (Fv.cs ⟨ga, gb, D1, g1, e1, D2, g2, e2, D3, g3, e3⟩) 28))
    have Rg_6 := Lib.hid (ro2.alloc (by omega) (.cells (Fv.cs ⟨ga, gb, D1, g1, e1, D2, g2, e2, D3, g3, e3⟩) 28))
    have hbw6 := hbw5.alloc (by omega) (.cells (Fv.cs ⟨ga, gb, D1, g1, e1, D2, g2, e2, D3, g3, e3⟩) 28)
    clear hbw5
    clear ro ro2
    obtain ⟨s0, s1, M1, M2, M3, E, hT⟩ : ∃ s0 s1 M1 M2 M3 E, Fm.shR ga gb F G H y = (s0, s1, M1, M2, M3, E) := ⟨_, _, _, _, _, _, rfl⟩
    have HT := Lib.hid hT
    clear hT
    obtain ⟨k0, k1, k2, k3, k4⟩ := bg_6.lcell
    simp only at k0 k1 k2 k3 k4
    go_wp2_with fail
    generalize hV : w4.alloc (.cells (Fv.cs ⟨ga, gb, D1, g1, e1, D2, g2, e2, D3, g3, e3⟩) 28) = x4 at b6_6 b8_6 bg_6 R6_6 R8_6 Rg_6 hbw6 k0 k1 k2 k3 k4 ⊢
    have zx4 : x4.heap.size = w4.heap.size + 1 := by rw [← hV]; simp
    clear hV
    refine (implSh_any ⟨ga, gb, D1, g1, e1, D2, g2, e2, D3, g3, e3⟩ ga gb rfl rfl w4.heap.size F G H y s0 s1 E M1 M2 M3 HT.out x4 Rg_6.out (by omega) HGL.out HGR.out.1.i64 HGR.out.2.1.i64).mono ?_
    rintro e w5 ⟨f, ⟨fa, fb⟩, rfl, ro, hle, hb⟩
    obtain ⟨x0, x1, X1, p1, a1, X2, p2, a2, X3, p3, a3⟩ := f
    simp only at fa fb
    subst fa fb
    have HLX := Lib.hid hle
    clear hle
    clear k0 k1 k2 k3 k4
    have hz7 := hb.size
    have b6_7 := b6_6.below hb (by omega)
    clear b6_6
    have b8_7 := b8_6.below hb (by omega)
    clear b8_6
    have bg_7 := bg_6.below hb (by omega)
    clear bg_6
    have R6_7 := Lib.hid (R6_6.out.below hb (by omega))
    have R8_7 := Lib.hid (R8_6.out.below hb (by omega))
    have Rg_7 := Lib.hid (Rg_6.out.below hb (by omega))
    have hbw7 := hbw6.trans (hb.mono (by omega))
    clear hbw6 hb
    have ro2 := ro.rf
    have b6_8 := b6_7.alloc (.cells (Fv.cs ⟨x0, x1, X1, p1, a1, X2, p2, a2, X3, p3, a3⟩) 28)
    clear b6_7
    have b8_8 := b8_7.alloc (.cells (Fv.cs ⟨x0, x1, X1, p1, a1, X2, p2, a2, X3, p3, a3⟩) 28)
    clear b8_7
    have bg_8 := bg_7.alloc (.cells (Fv.cs ⟨x0, x1, X1, p1, a1, X2, p2, a2, X3, p3, a3⟩) 28)
    clear bg_7
    have bx_8 := FBx.new w5 ⟨x0, x1, X1, p1, a1, X2, p2, a2, X3, p3, a3⟩
    have R6_8 := Lib.hid (R6_7.out.alloc (by omega) (.cells (Fv.cs ⟨x0, x1, X1, p1, a1, X2, p2, a2, X3, p3, a3⟩) 28))
    have R8_8 := Lib.hid (R8_7.out.alloc (by omega) (.cells (Fv.cs ⟨x0, x1, X1, p1, a1, X2, p2, a2, X3, p3, a3⟩) 28))
    have Rg_8 := Lib.hid (Rg_7.out.alloc (by omega) (.cells (Fv.cs ⟨x0, x1, X1, p1, a1, X2, p2, a2, X3, p3, a3⟩) 28))
    have Rx_8 := Lib.hid (ro2.alloc (by omega) (.cells (Fv.cs ⟨x0, x1, X1, p1, a1, X2, p2, a2, X3, p3, a3⟩) 28))
    have hbw8 := hbw7.alloc (by omega) (.cells (Fv.cs ⟨x0, x1, X1, p1, a1, X2, p2, a2, X3, p3, a3⟩) 28)
    clear hbw7
    clear ro ro2
    obtain ⟨k0, k1, k2, k3, k4⟩ := bg_8.lcell
    simp only at k0 k1 k2 k3 k4
    go_wp2_with fail
    generalize hV : w5.alloc (.cells (Fv.cs ⟨x0, x1, X1, p1, a1, X2, p2, a2, X3, p3, a3⟩) 28) = x5 at b6_8 b8_8 bg_8 bx_8 R6_8 R8_8 Rg_8 Rx_8 hbw8 k0 k1 k2 k3 k4 ⊢
    have zx5 : x5.heap.size = w5.heap.size + 1 := by rw [← hV]; simp
    clear hV
    refine (specSh_any ⟨ga, gb, D1, g1, e1, D2, g2, e2, D3, g3, e3⟩ ga gb rfl rfl w4.heap.size F G H y x0 x1 E M1 M2 M3 HT.out x5 Rg_8.out (by omega) HGL.out HGR.out.1.i64 HGR.out.2.1.i64).mono ?_
    rintro e w6 ⟨f, ⟨fa, fb⟩, rfl, ro, hle, hb⟩
    obtain ⟨s0, s1, S1, q1, h1, S2, q2, h2, S3, q3, h3⟩ := f
    simp only at fa fb
    subst fa fb
    clear hle
    clear k0 k1 k2 k3 k4
    have hz9 := hb.size
    have b6_9 := b6_8.below hb (by omega)
    clear b6_8
    have b8_9 := b8_8.below hb (by omega)
    clear b8_8
    have bg_9 := bg_8.below hb (by omega)
    clear bg_8
    have bx_9 := bx_8.below hb (by omega)
    clear bx_8
    have R6_9 := Lib.hid (R6_8.out.below hb (by omega))
    have R8_9 := Lib.hid (R8_8.out.below hb (by omega))
    have Rg_9 := Lib.hid (Rg_8.out.below hb (by omega))
    have Rx_9 := Lib.hid (Rx_8.out.below hb (by omega))
    have hbw9 := hbw8.trans (hb.mono (by omega))
    clear hbw8 hb
    have ro2 := ro.rf
    have eLXS : Hid (p1 = q1 ∧ p2 = q2 ∧ p3 = q3) := Lib.hid (by have h1 := Rx_9.out.len; have h2 := ro2.len; simp only at h1 h2; exact ⟨by omega, by omega, by omega⟩)
    have b6_10 := b6_9.alloc (.cells (Fv.cs ⟨s0, s1, S1, q1, h1, S2, q2, h2, S3, q3, h3⟩) 28)
    clear b6_9
    have b8_10 := b8_9.alloc (.cells (Fv.cs ⟨s0, s1, S1, q1, h1, S2, q2, h2, S3, q3, h3⟩) 28)
    clear b8_9
    have bg_10 := bg_9.alloc (.cells (Fv.cs ⟨s0, s1, S1, q1, h1, S2, q2, h2, S3, q3, h3⟩) 28)
    clear bg_9
    have bx_10 := bx_9.alloc (.cells (Fv.cs ⟨s0, s1, S1, q1, h1, S2, q2, h2, S3, q3, h3⟩) 28)
    clear bx_9
    have bs_10 := FBx.new w6 ⟨s0, s1, S1, q1, h1, S2, q2, h2, S3, q3, h3⟩
    have R6_10 := Lib.hid (R6_9.out.alloc (by omega) (.cells (Fv.cs ⟨s0, s1, S1, q1, h1, S2, q2, h2, S3, q3, h3⟩) 28))
    have R8_10 := Lib.hid (R8_9.out.alloc (by omega) (.cells (Fv.cs ⟨s0, s1, S1, q1, h1, S2, q2, h2, S3, q3, h3⟩) 28))
    have Rg_10 := Lib.hid (Rg_9.out.alloc (by omega) (.cells (Fv.cs ⟨s0, s1, S1, q1, h1, S2, q2, h2, S3, q3, h3⟩) 28))
    have Rx_10 := Lib.hid (Rx_9.out.alloc (by omega) (.cells (Fv.cs ⟨s0, s1, S1, q1, h1, S2, q2, h2, S3, q3, h3⟩) 28))
    have Rs_10 := Lib.hid (ro2.alloc (by omega) (.cells (Fv.cs ⟨s0, s1, S1, q1, h1, S2, q2, h2, S3, q3, h3⟩) 28))
    have hbw10 := hbw9.alloc (by omega) (.cells (Fv.cs ⟨s0, s1, S1, q1, h1, S2, q2, h2, S3, q3, h3⟩) 28)
    clear hbw9
    clear ro ro2
    obtain ⟨xx6, hV⟩ : ∃ xx6, w6.alloc (.cells (Fv.cs ⟨s0, s1, S1, q1, h1, S2, q2, h2, S3, q3, h3⟩) 28) = xx6 := ⟨_, rfl⟩
    have zx6 : xx6.heap.size = w6.heap.size + 1 := by rw [← hV]; simp
    rw [hV] at b6_10 b8_10 bg_10 bx_10 bs_10 R6_10 R8_10 Rg_10 Rx_10 Rs_10 hbw10
    have hv0 : Below xx6.heap.size xx6 xx6.drew := below_drewN' (Below.refl _ _) 1
    have hno : ∀ V, Below xx6.heap.size xx6 V → V.cell? ⟨w2.heap.size, 0, none⟩ = some (.int .i64 t0) ∧ V.cell? ⟨w2.heap.size, 1, none⟩ = some (.int .i64 t1) ∧ V.cell? ⟨w2.heap.size, 2, none⟩ = some (.slice A1 n1 c1) ∧ V.cell? ⟨w2.heap.size, 3, none⟩ = some (.slice A2 n2 c2) ∧ V.cell? ⟨w2.heap.size, 4, none⟩ = some (.slice A3 n3 c3) ∧ V.cell? ⟨w3.heap.size, 0, none⟩ = some (.int .i64 t0) ∧ V.cell? ⟨w3.heap.size, 1, none⟩ = some (.int .i64 t1) ∧ V.cell? ⟨w3.heap.size, 2, none⟩ = some (.slice B1 m1 d1) ∧ V.cell? ⟨w3.heap.size, 3, none⟩ = some (.slice B2 m2 d2) ∧ V.cell? ⟨w3.heap.size, 4, none⟩ = some (.slice B3 m3 d3) ∧ V.cell? ⟨w4.heap.size, 0, none⟩ = some (.int .i64 ga) ∧ V.cell? ⟨w4.heap.size, 1, none⟩ = some (.int .i64 gb) ∧ V.cell? ⟨w4.heap.size, 2, none⟩ = some (.slice D1 g1 e1) ∧ V.cell? ⟨w4.heap.size, 3, none⟩ = some (.slice D2 g2 e2) ∧ V.cell? ⟨w4.heap.size, 4, none⟩ = some (.slice D3 g3 e3) ∧ V.cell? ⟨w5.heap.size, 0, none⟩ = some (.int .i64 s0) ∧ V.cell? ⟨w5.heap.size, 1, none⟩ = some (.int .i64 s1) ∧ V.cell? ⟨w5.heap.size, 2, none⟩ = some (.slice X1 p1 a1) ∧ V.cell? ⟨w5.heap.size, 3, none⟩ = some (.slice X2 p2 a2) ∧ V.cell? ⟨w5.heap.size, 4, none⟩ = some (.slice X3 p3 a3) ∧ V.cell? ⟨w6.heap.size, 0, none⟩ = some (.int .i64 s0) ∧ V.cell? ⟨w6.heap.size, 1, none⟩ = some (.int .i64 s1) ∧ V.cell? ⟨w6.heap.size, 2, none⟩ = some (.slice S1 q1 h1) ∧ V.cell? ⟨w6.heap.size, 3, none⟩ = some (.slice S2 q2 h2) ∧ V.cell? ⟨w6.heap.size, 4, none⟩ = some (.slice S3 q3 h3) := fun V hV => by
      have i6 := (b6_10.below hV (by omega)).lcell
      have i8 := (b8_10.below hV (by omega)).lcell
      have ig := (bg_10.below hV (by omega)).lcell
      have ix := (bx_10.below hV (by omega)).lcell
      have is := (bs_10.below hV (by omega)).lcell
      exact ⟨i6.k0, i6.k1, i6.k2, i6.k3, i6.k4, i8.k0, i8.k1, i8.k2, i8.k3, i8.k4, ig.k0, ig.k1, ig.k2, ig.k3, ig.k4, ix.k0, ix.k1, ix.k2, ix.k3, ix.k4, is.k0, is.k1, is.k2, is.k3, is.k4⟩
    have hS0 := hno _ hv0
    have HC1 : ∀ V, Below xx6.heap.size xx6 V → Calls Try.prog 16 #[Fv.v ⟨t0, t1, A1, n1, c1, A2, n2, c2, A3, n3, c3⟩, Fv.v ⟨t0, t1, B1, m1, d1, B2, m2, d2, B3, m3, d3⟩] V fun e w' => e = .returned (.bool true) ∧ Below V.heap.size V w' := fun V hV => likeForms_true ⟨t0, t1, A1, n1, c1, A2, n2, c2, A3, n3, c3⟩ ⟨t0, t1, B1, m1, d1, B2, m2, d2, B3, m3, d3⟩ rfl rfl eL68.out.1 eL68.out.2.1 eL68.out.2.2 w2.heap.size w3.heap.size L1 L2 L3 V (R6_10.out.below hV (by omega)) (R8_10.out.below hV (by omega)) (by have := hV.size; omega) (by have := hV.size; omega) (le_big HL6.out)
    have HC2 : ∀ V, Below xx6.heap.size xx6 V → Calls Try.prog 16 #[Fv.v ⟨s0, s1, X1, p1, a1, X2, p2, a2, X3, p3, a3⟩, Fv.v ⟨s0, s1, S1, q1, h1, S2, q2, h2, S3, q3, h3⟩] V fun e w' => e = .returned (.bool true) ∧ Below V.heap.size V w' := fun V hV => likeForms_true ⟨s0, s1, X1, p1, a1, X2, p2, a2, X3, p3, a3⟩ ⟨s0, s1, S1, q1, h1, S2, q2, h2, S3, q3, h3⟩ rfl rfl eLXS.out.1 eLXS.out.2.1 eLXS.out.2.2 w5.heap.size w6.heap.size M1 M2 M3 V (Rx_10.out.below hV (by omega)) (Rs_10.out.below hV (by omega)) (by have := hV.size; omega) (by have := hV.size; omega) (le_big HLX.out)
    obtain ⟨ok, hok⟩ : ∃ ok, Fm.okB ga gb F G H = ok := ⟨_, rfl⟩
    have HC3 : ∀ V, Below xx6.heap.size xx6 V → Calls Try.prog 17 #[Fv.v ⟨ga, gb, D1, g1, e1, D2, g2, e2, D3, g3, e3⟩] V fun e w' => e = .returned (.bool ok) ∧ Below V.heap.size V w' := fun V hV => hok ▸ implIsForm_any ⟨ga, gb, D1, g1, e1, D2, g2, e2, D3, g3, e3⟩ w4.heap.size F G H V (Rg_10.out.below hV (by omega)) (by have := hV.size; omega) HGL.out HGR.out.1.i64 HGR.out.2.1.i64
    have HC4 : ∀ V, Below xx6.heap.size xx6 V → Calls Try.prog 18 #[Fv.v ⟨ga, gb, D1, g1, e1, D2, g2, e2, D3, g3, e3⟩] V fun e w' => e = .returned (.bool ok) ∧ Below V.heap.size V w' := fun V hV => hok ▸ specIsForm_any ⟨ga, gb, D1, g1, e1, D2, g2, e2, D3, g3, e3⟩ w4.heap.size F G H V (Rg_10.out.below hV (by omega)) (by have := hV.size; omega) HGL.out HGR.out.1.i64 HGR.out.2.1.i64
    have HNO := Lib.hid hno
    have hB1 : (!ok == ok) = false := by cases ok <;> rfl
    have hB2 : (ok == ok) = true := by cases ok <;> rfl
    clear hok
    subst hV
    go_wp2_with fail
    go_region_held3 (fun V => V.cell? ⟨w2.heap.size, 0, none⟩ = some (.int .i64 t0) ∧ V.cell? ⟨w2.heap.size, 1, none⟩ = some (.int .i64 t1) ∧ V.cell? ⟨w2.heap.size, 2, none⟩ = some (.slice A1 n1 c1) ∧ V.cell? ⟨w2.heap.size, 3, none⟩ = some (.slice A2 n2 c2) ∧ V.cell? ⟨w2.heap.size, 4, none⟩ = some (.slice A3 n3 c3) ∧ V.cell? ⟨w3.heap.size, 0, none⟩ = some (.int .i64 t0) ∧ V.cell? ⟨w3.heap.size, 1, none⟩ = some (.int .i64 t1) ∧ V.cell? ⟨w3.heap.size, 2, none⟩ = some (.slice B1 m1 d1) ∧ V.cell? ⟨w3.heap.size, 3, none⟩ = some (.slice B2 m2 d2) ∧ V.cell? ⟨w3.heap.size, 4, none⟩ = some (.slice B3 m3 d3) ∧ V.cell? ⟨w4.heap.size, 0, none⟩ = some (.int .i64 ga) ∧ V.cell? ⟨w4.heap.size, 1, none⟩ = some (.int .i64 gb) ∧ V.cell? ⟨w4.heap.size, 2, none⟩ = some (.slice D1 g1 e1) ∧ V.cell? ⟨w4.heap.size, 3, none⟩ = some (.slice D2 g2 e2) ∧ V.cell? ⟨w4.heap.size, 4, none⟩ = some (.slice D3 g3 e3) ∧ V.cell? ⟨w5.heap.size, 0, none⟩ = some (.int .i64 s0) ∧ V.cell? ⟨w5.heap.size, 1, none⟩ = some (.int .i64 s1) ∧ V.cell? ⟨w5.heap.size, 2, none⟩ = some (.slice X1 p1 a1) ∧ V.cell? ⟨w5.heap.size, 3, none⟩ = some (.slice X2 p2 a2) ∧ V.cell? ⟨w5.heap.size, 4, none⟩ = some (.slice X3 p3 a3) ∧ V.cell? ⟨w6.heap.size, 0, none⟩ = some (.int .i64 s0) ∧ V.cell? ⟨w6.heap.size, 1, none⟩ = some (.int .i64 s1) ∧ V.cell? ⟨w6.heap.size, 2, none⟩ = some (.slice S1 q1 h1) ∧ V.cell? ⟨w6.heap.size, 3, none⟩ = some (.slice S2 q2 h2) ∧ V.cell? ⟨w6.heap.size, 4, none⟩ = some (.slice S3 q3 h3))
      (first | with_reducible exact hS0 | with_reducible exact hS4 | with_reducible exact hS3 | with_reducible exact hS2 | with_reducible exact hS1)
      (first
        | (go_at_call 18; with_reducible refine (HC4 _ hv3).mono ?_; rintro e v4 ⟨rfl, hb4⟩; have hv4 := hv3.trans (hb4.mono hv3.size); have hS4 := hno _ hv4)
        | (go_at_call 17; with_reducible refine (HC3 _ hv2).mono ?_; rintro e v3 ⟨rfl, hb3⟩; have hv3 := hv2.trans (hb3.mono hv2.size); have hS3 := hno _ hv3)
        | (go_at_call 16; with_reducible refine (HC2 _ hv1).mono ?_; rintro e v2 ⟨rfl, hb2⟩; have hv2 := hv1.trans (hb2.mono hv1.size); have hS2 := hno _ hv2)
        | (go_at_call 16; with_reducible refine (HC1 _ hv0).mono ?_; rintro e v1 ⟨rfl, hb1⟩; have hv1 := hv0.trans (hb1.mono hv0.size); have hS1 := hno _ hv1))
    have hzv := hv4.size
    have b6v := b6_10.below hv4 (by omega)
    have R6v := Lib.hid (R6_10.out.below hv4 (by omega))
    have hbwv := hbw10.trans (hv4.mono (by omega))
    have hw2v : w2.heap.size < v4.heap.size := by omega
    have hwv : w.heap.size ≤ w2.heap.size := by omega
    clear HC1 HC2 HC3 HC4 HNO hno hS0 hS1 hS2 hS3 hS4 hb1 hb2 hb3 hb4 hv0 hv1 hv2 hv3 hv4 hzv zx6 hbw10 b6_10 b8_10 bg_10 bx_10 bs_10
    have hD012 : D = 0 ∨ D = 1 ∨ D = 2 := by
      have hh := HR.out
      unfold Fm.ipR at hh
      split at hh
      · exact .inl (tup6 hh).2.2.2.2.2.symm
      · have h1 := (tup6 hh).2.2.2.2.2
        unfold Fo.code at h1
        split at h1
        · split at h1
          · exact .inl h1.symm
          · exact .inr (.inr h1.symm)
        · exact .inr (.inl h1.symm)
    rcases hD012 with rfl | rfl | rfl
    rotate_left
    · go_wp2_with fail
      go_ret
      exact ⟨rfl, hbwv⟩
    · go_wp2_with fail
      go_ret
      exact ⟨rfl, hbwv⟩
    obtain ⟨eu0, eu1, IM⟩ := Fm.im_all HR.out
    subst eu0 eu1
    have HIM := Lib.hid IM
    clear IM
    obtain ⟨j0, j1, j2, j3, j4⟩ := b6v.lcell
    simp only at j0 j1 j2 j3 j4
    go_wp2_with fail
    refine (implRi_any ⟨t0, t1, A1, n1, c1, A2, n2, c2, A3, n3, c3⟩ _ _ rfl rfl w2.heap.size L1 L2 L3 t 0 true HIM.out.code0 HIM.out.ri v4 R6v.out (by omega) (le_big HL6.out) HIM.out.n1.i64 HIM.out.n2.i64 (by omega)).mono ?_
    rintro e v5 ⟨rfl, hb⟩
    clear j0 j1 j2 j3 j4
    have hz11 := hb.size
    have b6_11 := b6v.below hb (by omega)
    clear b6v
    have R6_11 := Lib.hid (R6v.out.below hb (by omega))
    have hbw11 := hbwv.trans (hb.mono (by omega))
    clear hbwv hb
    obtain ⟨j0, j1, j2, j3, j4⟩ := b6_11.lcell
    simp only at j0 j1 j2 j3 j4
    go_wp2_with fail
    refine (implRe_any ⟨t0, t1, A1, n1, c1, A2, n2, c2, A3, n3, c3⟩ _ _ rfl rfl w2.heap.size L1 L2 L3 t 0 _ HIM.out.code0 rfl v5 R6_11.out (by omega) (le_big HL6.out) HIM.out.n1.i64 HIM.out.n2.i64 (by omega)).mono ?_
    rintro e v6 ⟨AR, nr, cr, rfl, oR, hnr, hb⟩
    clear j0 j1 j2 j3 j4
    have HRd := Lib.hid oR.rd
    have hnrl : Hid (nr = 2 * 2 ^ t.data.toList.length) := Lib.hid (by have h1 := oR.rd.1; rw [HIM.out.rlen] at h1; exact h1.symm)
    clear oR hnr
    have hz12 := hb.size
    have b6_12 := b6_11.below hb (by omega)
    clear b6_11
    have R6_12 := Lib.hid (R6_11.out.below hb (by omega))
    have hbw12 := hbw11.trans (hb.mono (by omega))
    clear hbw11 hb
    obtain ⟨j0, j1, j2, j3, j4⟩ := b6_12.lcell
    simp only at j0 j1 j2 j3 j4
    go_wp2_with fail
    refine (implSh_any ⟨t0, t1, A1, n1, c1, A2, n2, c2, A3, n3, c3⟩ _ _ rfl rfl w2.heap.size L1 L2 L3 16 _ _ 0 _ _ _ HIM.out.sh v6 R6_12.out (by omega) (le_big HL6.out) HIM.out.n1.i64 HIM.out.n2.i64).mono ?_
    rintro e v7 ⟨f, ⟨fa, fb⟩, rfl, ro, hle, hb⟩
    obtain ⟨y0, y1, Y1, r1, yc1, Y2, r2, yc2, Y3, r3, yc3⟩ := f
    simp only at fa fb
    subst fa fb
    have HLY := Lib.hid hle
    clear hle
    clear j0 j1 j2 j3 j4
    have HRd7 := Lib.hid (HRd.out.below hb (Nat.le_refl _))
    have hz13 := hb.size
    have b6_13 := b6_12.below hb (by omega)
    clear b6_12
    have R6_13 := Lib.hid (R6_12.out.below hb (by omega))
    have hbw13 := hbw12.trans (hb.mono (by omega))
    clear hbw12 hb
    have ro2 := ro.rf
    have b6_14 := b6_13.alloc (.cells (Fv.cs ⟨y0, y1, Y1, r1, yc1, Y2, r2, yc2, Y3, r3, yc3⟩) 28)
    clear b6_13
    have by_14 := FBx.new v7 ⟨y0, y1, Y1, r1, yc1, Y2, r2, yc2, Y3, r3, yc3⟩
    have R6_14 := Lib.hid (R6_13.out.alloc (by omega) (.cells (Fv.cs ⟨y0, y1, Y1, r1, yc1, Y2, r2, yc2, Y3, r3, yc3⟩) 28))
    have Ry_14 := Lib.hid (ro2.alloc (by omega) (.cells (Fv.cs ⟨y0, y1, Y1, r1, yc1, Y2, r2, yc2, Y3, r3, yc3⟩) 28))
    have hbw14 := hbw13.alloc (by omega) (.cells (Fv.cs ⟨y0, y1, Y1, r1, yc1, Y2, r2, yc2, Y3, r3, yc3⟩) 28)
    clear hbw13
    clear ro ro2
    have HRd8 := Lib.hid (HRd7.out.alloc (by omega) (.cells (Fv.cs ⟨y0, y1, Y1, r1, yc1, Y2, r2, yc2, Y3, r3, yc3⟩) 28))
    obtain ⟨k0, k1, k2, k3, k4⟩ := by_14.lcell
    simp only at k0 k1 k2 k3 k4
    go_wp2_with fail
    generalize hV : v7.alloc (.cells (Fv.cs ⟨y0, y1, Y1, r1, yc1, Y2, r2, yc2, Y3, r3, yc3⟩) 28) = x7 at b6_14 by_14 R6_14 Ry_14 hbw14 HRd8 k0 k1 k2 k3 k4 ⊢
    have zx7 : x7.heap.size = v7.heap.size + 1 := by rw [← hV]; simp
    clear hV
    refine (implRi_any ⟨y0, y1, Y1, r1, yc1, Y2, r2, yc2, Y3, r3, yc3⟩ _ _ rfl rfl v7.heap.size _ _ L3 t 0 true HIM.out.code1 HIM.out.ri1 x7 Ry_14.out (by omega) (le_big HLY.out) HIM.out.n3.i64 HIM.out.n4.i64 (by omega)).mono ?_
    rintro e v8 ⟨rfl, hb⟩
    clear k0 k1 k2 k3 k4
    have HRd9 := Lib.hid (HRd8.out.below hb (by omega))
    have hz15 := hb.size
    have b6_15 := b6_14.below hb (by omega)
    clear b6_14
    have by_15 := by_14.below hb (by omega)
    clear by_14
    have R6_15 := Lib.hid (R6_14.out.below hb (by omega))
    have Ry_15 := Lib.hid (Ry_14.out.below hb (by omega))
    have hbw15 := hbw14.trans (hb.mono (by omega))
    clear hbw14 hb
    obtain ⟨M, hM⟩ : ∃ M, 2 ^ t.data.toList.length = M := ⟨_, rfl⟩
    have har := HIM.out.area
    have hsm := HIM.out.small
    have hsd := HIM.out.sides
    have hnr2 := hnrl.out
    rw [hM] at har hsm hnr2
    have HAT : Hid (∀ i : Nat, i < nr → (Fm.reR y0 y1 L1 L2 L3 t.data.toList)[i]? = some ((i : Int) + 1)) := Lib.hid fun i hi => HIM.out.rat i (by rw [hM]; omega)
    have hnr128 : nr ≤ 128 := by omega
    have e1 : IntKind.i64.wrap (2 * y0) = 2 * y0 := IntWalk.i64_in _ (by omega)
    have e2 : 2 * y0 * y1 = (nr : Int) := by rw [Int.mul_assoc, har]; omega
    have e3 : IntKind.i64.wrap (nr : Int) = (nr : Int) := IntWalk.i64_in _ (by omega)
    have HOK := Lib.hid HIM.out.ok
    obtain ⟨LR, hLR⟩ : ∃ LR, Fm.reR y0 y1 L1 L2 L3 t.data.toList = LR := ⟨_, rfl⟩
    rw [hLR] at HAT HRd9
    have hi2 := HIM.out.n1.i64
    have hi3 := HIM.out.n2.i64
    have HI23 := Lib.hid (And.intro hi2 hi3)
    have hbz : v7.heap.size ≤ v8.heap.size := by omega
    have hbz6 : w2.heap.size < v8.heap.size := by omega
    clear hM har hsm hsd hnr2 hLR hi2 hi3
    go_wp2_with fail
    go_loopw [24] (fun i wr => ∃ k : Nat, k ≤ nr ∧ i = .int .i64 k ∧ Q v8 wr) (fun i _ => nr - (intOf i).toNat)
    case atStart => exact ⟨0, Nat.zero_le _, rfl, Q.refl _⟩
    case round =>
      obtain ⟨k, hk, rfl, hq⟩ := hrel
      by_cases hlt : k < nr
      · obtain ⟨bb, oo, x, rfl, hbB, hx, hc⟩ := (HRd9.out.q hq).at_ hlt
        have hxk := HAT.out k hlt
        rw [hx] at hxk
        obtain rfl : x = (k : Int) + 1 := by injection hxk
        clear hx hxk
        have e4 : IntKind.i64.wrap ((k : Int) + 1) = (k : Int) + 1 := IntWalk.i64_in _ (by omega)
        go_wp2_with fail
        go_roundw
        case rel => exact ⟨k + 1, by omega, by go_num, hq.more 0⟩
        case measure => simp [intOf]; omega
      · obtain rfl : k = nr := by omega
        have b6q := b6_15.q hq
        obtain ⟨j0, j1, j2, j3, j4⟩ := b6q.lcell
        simp only at j0 j1 j2 j3 j4
        have hisf := implIsForm_any ⟨y0, y1, A1, n1, c1, A2, n2, c2, A3, n3, c3⟩ w2.heap.size L1 L2 L3 wr (R6_15.out.q hq) (by have := hq.size; omega) (le_big HL6.out) HI23.out.1 HI23.out.2
        simp only at hisf
        rw [HOK.out] at hisf
        have HBQ := Lib.hid (hbw15.trans (hq.below w.heap.size))
        have hqz : w.heap.size ≤ wr.heap.size := by have := hq.size; omega
        go_wp2_with fail
        refine hisf.mono ?_
        rintro e vz ⟨rfl, hbz9⟩
        have HBZ := Lib.hid (HBQ.out.trans (hbz9.mono hqz))
        clear hbz9 hisf
        go_wp2_with fail
        go_ret
        exact ⟨rfl, HBZ.out⟩
  · have HF : Hid (decide (4096 < N) = true) := decide_eq_true (by omega)
    go_enter Try.func3, Try.ntmps3
    go_wp2_with fail
    refine (big_any A N C _).mono ?_
    rintro e _ ⟨rfl, rfl⟩
    rw [HF.out]
    go_wp2_with fail
    go_ret
    exact ⟨rfl, Below.refl _ _⟩
end Go.Proofs.Ytgplciodddfpbaa
