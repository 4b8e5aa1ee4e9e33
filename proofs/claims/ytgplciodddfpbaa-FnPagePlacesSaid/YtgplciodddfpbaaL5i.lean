/- The walk of the law FnPagePlaces, out of the contracts. -/
import Derived.Test.YtgplciodddfpbaaFmDx
import Derived.Test.YtgplciodddfpbaaFmTm
import Derived.Test.YtgplciodddfpbaaFmTi
import Derived.Test.YtgplciodddfpbaaFmLk
namespace Go.Proofs.Ytgplciodddfpbaa
open Go.RowKit

theorem le_big {f : Fv} (h : f.le 64) : f.le 1048576 := ⟨Nat.le_trans h.1 (by decide), Nat.le_trans h.2.1 (by decide), Nat.le_trans h.2.2 (by decide)⟩
theorem big5_any (A : Option Addr) (N C : Nat) (w : World) :
    Calls Try.prog 9 #[.slice A N C] w fun e w' => e = .returned (.bool (decide (4096 < N))) ∧ w = w' := big_any A N C w
set_option maxRecDepth 100000 in
set_option maxHeartbeats 8000000 in
theorem w_FnPagePlaces (A : Option Addr) (N C : Nat) (l : List Int) (w : World) (h : Rd U w w.heap.size A N l) (hl : inByte l) :
    Calls Try.prog 5 #[.slice A N C] w fun e w' => e = .returned (.bool true) ∧ Below w.heap.size w w' := by
  by_cases hN : N ≤ 4096
  · have HF : Hid (decide (4096 < N) = false) := decide_eq_false (by omega)
    go_enter Try.func5, Try.ntmps5
    go_wp2_with fail
    refine (big_any A N C _).mono ?_
    rintro e _ ⟨rfl, rfl⟩
    rw [HF.out]
    go_wp2_with fail
    refine (DrawPl_any N C w.heap.size A l w h hl (Nat.le_refl _) (by omega)).mono ?_
    rintro e w1 ⟨f, F, G, H, p, rfl, ha, hn, hr, hp, hsf, hb1⟩
    have hz1 := hb1.size
    obtain ⟨fa, fb, A1, n1, c1, A2, n2, c2, A3, n3, c3⟩ := f
    simp only at ha hn
    have HAA := Lib.hid ha
    have HNN := Lib.hid hn
    have HRR := Lib.hid hr
    have HLE : Hid ((⟨fa, fb, A1, n1, c1, A2, n2, c2, A3, n3, c3⟩ : Fv).le 1048576) := Lib.hid ⟨show n1 ≤ _ by omega, show n2 ≤ _ by omega, show n3 ≤ _ by omega⟩
    have bE := FBx.new w1 ⟨fa, fb, A1, n1, c1, A2, n2, c2, A3, n3, c3⟩
    have hbv := hb1.alloc hz1 (.cells (Fv.cs ⟨fa, fb, A1, n1, c1, A2, n2, c2, A3, n3, c3⟩) 28)
    have HSF := Lib.hid (hsf.alloc (.cells (Fv.cs ⟨fa, fb, A1, n1, c1, A2, n2, c2, A3, n3, c3⟩) 28))
    have hw := h.below hbv (Nat.le_refl _)
    obtain ⟨j0, j1, j2, j3, j4⟩ := bE.lcell
    simp only at j0 j1 j2 j3 j4
    obtain ⟨v0, v1, v2, v3, hv⟩ : ∃ v0 v1 v2 v3, Fm.plR fa fb F G H p = (v0, v1, v2, v3) := ⟨_, _, _, _, rfl⟩
    have HV := Lib.hid hv
    have HPP := Lib.hid hp
    clear ha hn hr hsf hb1 hv hp
    go_wp2_with fail
    generalize hV : w1.alloc (.cells (Fv.cs ⟨fa, fb, A1, n1, c1, A2, n2, c2, A3, n3, c3⟩) 28) = x1 at bE hbv HSF hw j0 j1 j2 j3 j4 ⊢
    have zx1 : x1.heap.size = w1.heap.size + 1 := by rw [← hV]; simp
    clear hV
    refine (implPlace_any ⟨fa, fb, A1, n1, c1, A2, n2, c2, A3, n3, c3⟩ fa fb p v0 v1 v2 v3 rfl rfl w1.heap.size F G H HV.out x1 HSF.out.rf (by omega) HLE.out HRR.out.1.i64 HRR.out.2.1.i64).mono ?_
    rintro e w2 ⟨rfl, hb2⟩
    have hz2 := hb2.size
    have bE2 := bE.below hb2 (by omega)
    have HSF2 := Lib.hid (HSF.out.below hb2 (by omega))
    have hbw2 := hbv.trans (hb2.mono (by omega))
    clear j0 j1 j2 j3 j4 hb2 bE hbv
    obtain ⟨j0, j1, j2, j3, j4⟩ := bE2.lcell
    simp only at j0 j1 j2 j3 j4
    go_wp2_with fail
    refine (specPlace_any ⟨fa, fb, A1, n1, c1, A2, n2, c2, A3, n3, c3⟩ fa fb p v0 v1 v2 v3 rfl rfl w1.heap.size F G H HV.out w2 HSF2.out.rf (by omega) HLE.out HRR.out.1.i64 HRR.out.2.1.i64).mono ?_
    rintro e w3 ⟨rfl, hb3⟩
    have hz3 := hb3.size
    have bE3 := bE2.below hb3 (by omega)
    have HSF3 := Lib.hid (HSF2.out.below hb3 (by omega))
    have hbw3 := hbw2.trans (hb3.mono (by omega))
    clear j0 j1 j2 j3 j4 hb3 bE2 hbw2
    go_wp2_with fail
    refine (DrawTn_any N C w.heap.size A l w3 (h.below hbw3 (Nat.le_refl _)) hl (by omega) (by omega)).mono ?_
    rintro e w4 ⟨g, F', G', H', rfl, ga, gn, gr, gsf, hb4⟩
    have hz4 := hb4.size
    obtain ⟨ha, hb, D1, m1, d1, D2, m2, d2, D3, m3, d3⟩ := g
    simp only at ga gn
    have HGN := Lib.hid gn
    have HGR := Lib.hid gr
    have HGL : Hid ((⟨ha, hb, D1, m1, d1, D2, m2, d2, D3, m3, d3⟩ : Fv).le 1048576) := Lib.hid ⟨show m1 ≤ _ by omega, show m2 ≤ _ by omega, show m3 ≤ _ by omega⟩
    have bE4 := bE3.below hb4 (by omega)
    have HSF4 := Lib.hid (HSF3.out.below hb4 (by omega))
    have hbw4 := hbw3.trans (hb4.mono (by omega))
    have bG := FBx.new w4 ⟨ha, hb, D1, m1, d1, D2, m2, d2, D3, m3, d3⟩
    have bE5 := bE4.alloc (.cells (Fv.cs ⟨ha, hb, D1, m1, d1, D2, m2, d2, D3, m3, d3⟩) 28)
    have HSF5 := Lib.hid (HSF4.out.alloc (.cells (Fv.cs ⟨ha, hb, D1, m1, d1, D2, m2, d2, D3, m3, d3⟩) 28))
    have HGF := Lib.hid (gsf.alloc (.cells (Fv.cs ⟨ha, hb, D1, m1, d1, D2, m2, d2, D3, m3, d3⟩) 28))
    have hbw5 := hbw4.alloc (by omega) (.cells (Fv.cs ⟨ha, hb, D1, m1, d1, D2, m2, d2, D3, m3, d3⟩) 28)
    obtain ⟨k0, k1, k2, k3, k4⟩ := bG.lcell
    simp only at k0 k1 k2 k3 k4
    obtain ⟨u0, u1, L1, L2, L3, D, hT⟩ : ∃ u0 u1 L1 L2 L3 D, Fm.tnR ha hb F' G' H' = (u0, u1, L1, L2, L3, D) := ⟨_, _, _, _, _, _, rfl⟩
    have HT := Lib.hid hT
    have hD01 : D = 0 ∨ D = 1 := by
      cases hk : Fm.okB ha hb F' G' H'
      · exact .inr (Fm.tn_bad hT hk).2.2.2.2.2
      · exact .inl (Fm.tn_good hT hk).2.2.2.2.2
    clear ga gn gr gsf hb4 bE3 bE4 hbw3 hbw4 hT
    go_wp2_with fail
    generalize hV : w4.alloc (.cells (Fv.cs ⟨ha, hb, D1, m1, d1, D2, m2, d2, D3, m3, d3⟩) 28) = x4 at bG bE5 HSF5 HGF hbw5 k0 k1 k2 k3 k4 ⊢
    have zx4 : x4.heap.size = w4.heap.size + 1 := by rw [← hV]; simp
    clear hV
    refine (implTn_any ⟨ha, hb, D1, m1, d1, D2, m2, d2, D3, m3, d3⟩ ha hb rfl rfl w4.heap.size F' G' H' u0 u1 D L1 L2 L3 HT.out x4 HGF.out.rf (by omega) HGL.out HGR.out.1.i64 HGR.out.2.1.i64).mono ?_
    rintro e w6 ⟨r, ⟨ra, rb⟩, rfl, ro, rl, hb6⟩
    have hz6 := hb6.size
    obtain ⟨r0, r1, E1, e1, x1', E2, e2, x2', E3, e3, x3'⟩ := r
    simp only at ra rb
    subst ra rb
    have bE6 := bE5.below hb6 (by omega)
    have HSF6 := Lib.hid (HSF5.out.below hb6 (by omega))
    have bG6 := bG.below hb6 (by omega)
    have HGF6 := Lib.hid (HGF.out.below hb6 (by omega))
    have hbw6 := hbw5.trans (hb6.mono (by omega))
    have bR6 := FBx.new w6 ⟨r0, r1, E1, e1, x1', E2, e2, x2', E3, e3, x3'⟩
    have bE7 := bE6.alloc (.cells (Fv.cs ⟨r0, r1, E1, e1, x1', E2, e2, x2', E3, e3, x3'⟩) 28)
    have bG7 := bG6.alloc (.cells (Fv.cs ⟨r0, r1, E1, e1, x1', E2, e2, x2', E3, e3, x3'⟩) 28)
    have HSF7 := Lib.hid (HSF6.out.alloc (.cells (Fv.cs ⟨r0, r1, E1, e1, x1', E2, e2, x2', E3, e3, x3'⟩) 28))
    have HGF7 := Lib.hid (HGF6.out.alloc (.cells (Fv.cs ⟨r0, r1, E1, e1, x1', E2, e2, x2', E3, e3, x3'⟩) 28))
    have HRO := Lib.hid (ro.alloc (.cells (Fv.cs ⟨r0, r1, E1, e1, x1', E2, e2, x2', E3, e3, x3'⟩) 28))
    have hbw7 := hbw6.alloc (by omega) (.cells (Fv.cs ⟨r0, r1, E1, e1, x1', E2, e2, x2', E3, e3, x3'⟩) 28)
    have HRL := Lib.hid rl
    clear k0 k1 k2 k3 k4 hb6 bE5 bE6 bG bG6 hbw5 hbw6 ro rl
    obtain ⟨k0, k1, k2, k3, k4⟩ := bG7.lcell
    simp only at k0 k1 k2 k3 k4
    go_wp2_with fail
    generalize hV : w6.alloc (.cells (Fv.cs ⟨r0, r1, E1, e1, x1', E2, e2, x2', E3, e3, x3'⟩) 28) = x6 at bE7 bG7 bR6 HSF7 HGF7 HRO hbw7 k0 k1 k2 k3 k4 ⊢
    have zx6 : x6.heap.size = w6.heap.size + 1 := by rw [← hV]; simp
    clear hV
    refine (specTn_any ⟨ha, hb, D1, m1, d1, D2, m2, d2, D3, m3, d3⟩ ha hb rfl rfl w4.heap.size F' G' H' r0 r1 D L1 L2 L3 HT.out x6 HGF7.out.rf (by omega) HGL.out HGR.out.1.i64 HGR.out.2.1.i64).mono ?_
    rintro e w8 ⟨q, ⟨qa, qb⟩, rfl, qo, ql, hb8⟩
    have hz8 := hb8.size
    obtain ⟨q0, q1, Z1, z1, y1', Z2, z2, y2', Z3, z3, y3'⟩ := q
    simp only at qa qb
    subst qa qb
    have eLEN : Hid (e1 = z1 ∧ e2 = z2 ∧ e3 = z3) := Lib.hid (by
      have h1 := HRO.out.len
      have h2 := qo.len
      simp only at h1 h2
      exact ⟨by omega, by omega, by omega⟩)
    have bE8 := (bE7.below hb8 (by omega)).alloc (.cells (Fv.cs ⟨q0, q1, Z1, z1, y1', Z2, z2, y2', Z3, z3, y3'⟩) 28)
    have bG8 := (bG7.below hb8 (by omega)).alloc (.cells (Fv.cs ⟨q0, q1, Z1, z1, y1', Z2, z2, y2', Z3, z3, y3'⟩) 28)
    have bR8 := (bR6.below hb8 (by omega)).alloc (.cells (Fv.cs ⟨q0, q1, Z1, z1, y1', Z2, z2, y2', Z3, z3, y3'⟩) 28)
    have bQ8 := FBx.new w8 ⟨q0, q1, Z1, z1, y1', Z2, z2, y2', Z3, z3, y3'⟩
    have HSF8 := Lib.hid ((HSF7.out.below hb8 (by omega)).alloc (.cells (Fv.cs ⟨q0, q1, Z1, z1, y1', Z2, z2, y2', Z3, z3, y3'⟩) 28))
    have HGF8 := Lib.hid ((HGF7.out.below hb8 (by omega)).alloc (.cells (Fv.cs ⟨q0, q1, Z1, z1, y1', Z2, z2, y2', Z3, z3, y3'⟩) 28))
    have HRO8 := Lib.hid ((HRO.out.below hb8 (by omega)).alloc (.cells (Fv.cs ⟨q0, q1, Z1, z1, y1', Z2, z2, y2', Z3, z3, y3'⟩) 28))
    have HQO8 := Lib.hid (qo.alloc (.cells (Fv.cs ⟨q0, q1, Z1, z1, y1', Z2, z2, y2', Z3, z3, y3'⟩) 28))
    have hbw8 := (hbw7.trans (hb8.mono (by omega))).alloc (by omega) (.cells (Fv.cs ⟨q0, q1, Z1, z1, y1', Z2, z2, y2', Z3, z3, y3'⟩) 28)
    clear k0 k1 k2 k3 k4 hb8 bE7 bG7 bR6 hbw7 qo ql
    obtain ⟨k0, k1, k2, k3, k4⟩ := bR8.lcell
    obtain ⟨s0, s1, s2, s3, s4⟩ := bQ8.lcell
    simp only at k0 k1 k2 k3 k4 s0 s1 s2 s3 s4
    go_wp2_with fail
    generalize hV : w8.alloc (.cells (Fv.cs ⟨q0, q1, Z1, z1, y1', Z2, z2, y2', Z3, z3, y3'⟩) 28) = x8 at bE8 bG8 bR8 bQ8 HSF8 HGF8 HRO8 HQO8 hbw8 k0 k1 k2 k3 k4 s0 s1 s2 s3 s4 ⊢
    have zx8 : x8.heap.size = w8.heap.size + 1 := by rw [← hV]; simp
    clear hV
    have hv3 : v3 = 0 ∨ v3 = 1 ∨ v3 = 4 := by
      have := HV.out
      unfold Fm.plR Fm.place at this
      split at this
      · split at this
        · injection this with _ this; injection this with _ this; injection this with _ this; omega
        · split at this
          · injection this with _ this; injection this with _ this; injection this with _ this; omega
          · injection this with _ this; injection this with _ this; injection this with _ this; omega
      · injection this with _ this; injection this with _ this; injection this with _ this; omega
    clear k0 k1 k2 k3 k4 s0 s1 s2 s3 s4
    refine (likeForms_true ⟨q0, q1, E1, e1, x1', E2, e2, x2', E3, e3, x3'⟩ ⟨q0, q1, Z1, z1, y1', Z2, z2, y2', Z3, z3, y3'⟩ rfl rfl eLEN.out.1 eLEN.out.2.1 eLEN.out.2.2 w6.heap.size w8.heap.size L1 L2 L3 x8 HRO8.out.rf HQO8.out.rf (by omega) (by omega) (le_big HRL.out)).mono ?_
    rintro e w9 ⟨rfl, hb9⟩
    have hz9 := hb9.size
    have bE9 := bE8.below hb9 (by omega)
    have bG9 := bG8.below hb9 (by omega)
    have bR9 := bR8.below hb9 (by omega)
    have HSF9 := Lib.hid (HSF8.out.below hb9 (by omega))
    have HGF9 := Lib.hid (HGF8.out.below hb9 (by omega))
    have HRO9 := Lib.hid (HRO8.out.below hb9 (by omega))
    have hbw9 := hbw8.trans (hb9.mono (by omega))
    clear hb9 bE8 bG8 bR8 bQ8 hbw8
    rcases hD01 with rfl | rfl
    · obtain ⟨k0, k1, k2, k3, k4⟩ := bR9.lcell
      simp only at k0 k1 k2 k3 k4
      obtain ⟨eq0, eq1, hok, hback⟩ := Fm.tn_twice HT.out rfl
      have HOK := Lib.hid hok
      have HBK := Lib.hid hback
      have HIL : Hid (i64s L1 ∧ i64s L2) := Lib.hid (by
        cases hk : Fm.okB ha hb F' G' H'
        · have := (Fm.tn_bad HT.out hk).2.2.2.2.2
          omega
        · obtain ⟨_, _, h1, h2, _, _⟩ := Fm.tn_good HT.out hk
          rw [h1, h2]
          exact ⟨HGR.out.2.1.i64, HGR.out.1.i64⟩)
      clear hok hback eq0 eq1
      go_wp2_with fail
      refine (implTn_any ⟨q0, q1, E1, e1, x1', E2, e2, x2', E3, e3, x3'⟩ q0 q1 rfl rfl w6.heap.size L1 L2 L3 ha hb 0 F' G' H' HBK.out w9 HRO9.out.rf (by omega) (le_big HRL.out) HIL.out.1 HIL.out.2).mono ?_
      rintro e wa ⟨sv, ⟨sa, sb⟩, rfl, so, sl, hba⟩
      have hza := hba.size
      obtain ⟨sv0, sv1, S1, n1', t1', S2, n2', t2', S3, n3', t3'⟩ := sv
      simp only at sa sb
      subst sa sb
      have eLEN2 : Hid (n1' = m1 ∧ n2' = m2 ∧ n3' = m3) := Lib.hid (by
        have h1 := so.len
        have h2 := HGF9.out.len
        simp only at h1 h2
        exact ⟨by omega, by omega, by omega⟩)
      have bEa := (bE9.below hba (by omega)).alloc (.cells (Fv.cs ⟨sv0, sv1, S1, n1', t1', S2, n2', t2', S3, n3', t3'⟩) 28)
      have bGa := (bG9.below hba (by omega)).alloc (.cells (Fv.cs ⟨sv0, sv1, S1, n1', t1', S2, n2', t2', S3, n3', t3'⟩) 28)
      have bRa := (bR9.below hba (by omega)).alloc (.cells (Fv.cs ⟨sv0, sv1, S1, n1', t1', S2, n2', t2', S3, n3', t3'⟩) 28)
      have bSa := FBx.new wa ⟨sv0, sv1, S1, n1', t1', S2, n2', t2', S3, n3', t3'⟩
      have HSFa := Lib.hid ((HSF9.out.below hba (by omega)).alloc (.cells (Fv.cs ⟨sv0, sv1, S1, n1', t1', S2, n2', t2', S3, n3', t3'⟩) 28))
      have HGFa := Lib.hid ((HGF9.out.below hba (by omega)).alloc (.cells (Fv.cs ⟨sv0, sv1, S1, n1', t1', S2, n2', t2', S3, n3', t3'⟩) 28))
      have HROa := Lib.hid ((HRO9.out.below hba (by omega)).alloc (.cells (Fv.cs ⟨sv0, sv1, S1, n1', t1', S2, n2', t2', S3, n3', t3'⟩) 28))
      have HSOa := Lib.hid (so.alloc (.cells (Fv.cs ⟨sv0, sv1, S1, n1', t1', S2, n2', t2', S3, n3', t3'⟩) 28))
      have hbwa := (hbw9.trans (hba.mono (by omega))).alloc (by omega) (.cells (Fv.cs ⟨sv0, sv1, S1, n1', t1', S2, n2', t2', S3, n3', t3'⟩) 28)
      have HSL := Lib.hid sl
      clear k0 k1 k2 k3 k4 hba bE9 bG9 bR9 hbw9 so sl
      obtain ⟨k0, k1, k2, k3, k4⟩ := bGa.lcell
      obtain ⟨s0, s1, s2, s3, s4⟩ := bSa.lcell
      simp only at k0 k1 k2 k3 k4 s0 s1 s2 s3 s4
      go_wp2_with fail
      generalize hV : wa.alloc (.cells (Fv.cs ⟨sv0, sv1, S1, n1', t1', S2, n2', t2', S3, n3', t3'⟩) 28) = xa at bEa bGa bRa bSa HSFa HGFa HROa HSOa hbwa k0 k1 k2 k3 k4 s0 s1 s2 s3 s4 ⊢
      have zxa : xa.heap.size = wa.heap.size + 1 := by rw [← hV]; simp
      clear hV
      refine (likeForms_true ⟨sv0, sv1, S1, n1', t1', S2, n2', t2', S3, n3', t3'⟩ ⟨sv0, sv1, D1, m1, d1, D2, m2, d2, D3, m3, d3⟩ rfl rfl eLEN2.out.1 eLEN2.out.2.1 eLEN2.out.2.2 wa.heap.size w4.heap.size F' G' H' xa HSOa.out.rf HGFa.out.rf (by omega) (by omega) (le_big HSL.out)).mono ?_
      rintro e wb ⟨rfl, hbb⟩
      have hzb := hbb.size
      have bEb := bEa.below hbb (by omega)
      have bRb := bRa.below hbb (by omega)
      have HSFb := Lib.hid (HSFa.out.below hbb (by omega))
      have HROb := Lib.hid (HROa.out.below hbb (by omega))
      have hbwb := hbwa.trans (hbb.mono (by omega))
      clear k0 k1 k2 k3 k4 s0 s1 s2 s3 s4 hbb bEa bGa bRa bSa hbwa
      obtain ⟨k0, k1, k2, k3, k4⟩ := bRb.lcell
      simp only at k0 k1 k2 k3 k4
      have hisf := implIsForm_any ⟨q0, q1, E1, e1, x1', E2, e2, x2', E3, e3, x3'⟩ w6.heap.size L1 L2 L3 wb HROb.out.rf (by omega) (le_big HRL.out) HIL.out.1 HIL.out.2
      simp only at hisf
      rw [HOK.out] at hisf
      go_wp2_with fail
      refine hisf.mono ?_
      rintro e wc ⟨rfl, hbc⟩
      have hzc := hbc.size
      have bEc := bEb.below hbc (by omega)
      have HSFc := HSFb.out.below hbc (by omega)
      have hbwc := hbwb.trans (hbc.mono (by omega))
      clear k0 k1 k2 k3 k4 hisf hbc bEb bRb hbwb
      have HBV := Lib.hid hbwc
      have HSV := Lib.hid HSFc
      have HBE := Lib.hid bEc
      rcases hv3 with rfl | rfl | rfl
      · obtain ⟨W, n, k, eW, W1, W8, n64, lF, lG, hk, x0, xW, y0, y64, yw0, yw64, hcase⟩ := Fm.place_at HV.out
        subst eW
        obtain ⟨jf0, jf1, jf2, jf3, jf4⟩ := HBE.out.lcell
        simp only at jf0 jf1 jf2 jf3 jf4
        have hln := HSV.out.len
        simp only at hln
        obtain ⟨R, hR⟩ : ∃ R, v2 * (W : Int) = R := ⟨_, rfl⟩
        rw [hR] at hcase yw0 yw64
        have e1 : IntKind.i64.wrap R = R := IntWalk.i64_in _ (by omega)
        have e2 : IntKind.i64.wrap (k : Int) = (k : Int) := IntWalk.i64_in _ (by omega)
        have e3 : IntKind.i64.wrap (R + (W : Int)) = R + (W : Int) := IntWalk.i64_in _ (by omega)
        have e4 : IntKind.i64.wrap (R + (W : Int) - 1) = R + (W : Int) - 1 := IntWalk.i64_in _ (by omega)
        rcases hcase with ⟨rfl, hkk, hx⟩ | ⟨rfl, hkk, hx⟩
        · have hk1 : k < n1 := by omega
          obtain ⟨b, o, x, hA, _, hx', hc⟩ := HSV.out.o1.rd.at_ (k := k) hk1
          simp only at hA
          subst hA
          obtain rfl : x = p := by rw [hx] at hx'; injection hx' with hx'; exact hx'.symm
          clear hln hx hx' lF lG
          go_wp2_with fail
          go_ret
          exact ⟨rfl, HBV.out⟩
        · have hk1 : k < n2 := by omega
          obtain ⟨b, o, x, hA, _, hx', hc⟩ := HSV.out.o2.rd.at_ (k := k) hk1
          simp only at hA
          subst hA
          obtain rfl : x = p := by rw [hx] at hx'; injection hx' with hx'; exact hx'.symm
          clear hln hx hx' lF lG
          go_wp2_with fail
          go_ret
          exact ⟨rfl, HBV.out⟩
      · go_wp2_with fail
        go_ret
        exact ⟨rfl, HBV.out⟩
      · go_wp2_with fail
        go_ret
        exact ⟨rfl, HBV.out⟩
    · have HSFd := HSF9.out
      clear bG9 bR9
      have HBV := Lib.hid hbw9
      have HSV := Lib.hid HSFd
      have HBE := Lib.hid bE9
      rcases hv3 with rfl | rfl | rfl
      · obtain ⟨W, n, k, eW, W1, W8, n64, lF, lG, hk, x0, xW, y0, y64, yw0, yw64, hcase⟩ := Fm.place_at HV.out
        subst eW
        obtain ⟨jf0, jf1, jf2, jf3, jf4⟩ := HBE.out.lcell
        simp only at jf0 jf1 jf2 jf3 jf4
        have hln := HSV.out.len
        simp only at hln
        obtain ⟨R, hR⟩ : ∃ R, v2 * (W : Int) = R := ⟨_, rfl⟩
        rw [hR] at hcase yw0 yw64
        have e1 : IntKind.i64.wrap R = R := IntWalk.i64_in _ (by omega)
        have e2 : IntKind.i64.wrap (k : Int) = (k : Int) := IntWalk.i64_in _ (by omega)
        have e3 : IntKind.i64.wrap (R + (W : Int)) = R + (W : Int) := IntWalk.i64_in _ (by omega)
        have e4 : IntKind.i64.wrap (R + (W : Int) - 1) = R + (W : Int) - 1 := IntWalk.i64_in _ (by omega)
        rcases hcase with ⟨rfl, hkk, hx⟩ | ⟨rfl, hkk, hx⟩
        · have hk1 : k < n1 := by omega
          obtain ⟨b, o, x, hA, _, hx', hc⟩ := HSV.out.o1.rd.at_ (k := k) hk1
          simp only at hA
          subst hA
          obtain rfl : x = p := by rw [hx] at hx'; injection hx' with hx'; exact hx'.symm
          clear hln hx hx' lF lG
          go_wp2_with fail
          go_ret
          exact ⟨rfl, HBV.out⟩
        · have hk1 : k < n2 := by omega
          obtain ⟨b, o, x, hA, _, hx', hc⟩ := HSV.out.o2.rd.at_ (k := k) hk1
          simp only at hA
          subst hA
          obtain rfl : x = p := by rw [hx] at hx'; injection hx' with hx'; exact hx'.symm
          clear hln hx hx' lF lG
          go_wp2_with fail
          go_ret
          exact ⟨rfl, HBV.out⟩
      · go_wp2_with fail
        go_ret
        exact ⟨rfl, HBV.out⟩
      · go_wp2_with fail
        go_ret
        exact ⟨rfl, HBV.out⟩
  · have HF : Hid (decide (4096 < N) = true) := decide_eq_true (by omega)
    go_enter Try.func5, Try.ntmps5
    go_wp2_with fail
    refine (big_any A N C _).mono ?_
    rintro e _ ⟨rfl, rfl⟩
    rw [HF.out]
    go_wp2_with fail
    go_ret
    exact ⟨rfl, Below.refl _ _⟩
end Go.Proofs.Ytgplciodddfpbaa
