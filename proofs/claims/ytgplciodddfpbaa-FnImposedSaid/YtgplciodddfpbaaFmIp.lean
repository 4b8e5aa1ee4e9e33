/- Contract of the program's ImposeSheet. -/
import Derived.Test.YtgplciodddfpbaaFmSh
namespace Go.Proofs.Ytgplciodddfpbaa
open Go.RowKit

namespace Fm
/-- What ImposeSheet answers. -/
def ipR (a b : Int) (s : List UInt8) : Int × Int × List Int × List Int × List Int × Int :=
  if Fo.code a b s = 0 then (a, b, imF a (2 ^ s.length) (LVs s) (2 ^ s.length), imB a (2 ^ s.length) (LVs s) (2 ^ s.length), imH a (2 ^ s.length) (LVs s) (2 ^ s.length), 0) else (0, 0, [], [], [], Fo.code a b s)
theorem ip_bad {a b C : Int} {s : List UInt8} {u0 u1 v : Int} {L1 L2 L3 : List Int} (hR : ipR a b s = (u0, u1, L1, L2, L3, C)) (hv : Fo.code a b s = v) (h0 : v ≠ 0) : u0 = 0 ∧ u1 = 0 ∧ L1 = [] ∧ L2 = [] ∧ L3 = [] ∧ C = v := by
  unfold ipR at hR
  rw [hv, if_neg h0] at hR
  obtain ⟨h1, h2, h3, h4, h5, h6⟩ := tup6 hR
  exact ⟨h1.symm, h2.symm, h3.symm, h4.symm, h5.symm, h6.symm⟩
theorem ip_good {a b C : Int} {s : List UInt8} {u0 u1 : Int} {L1 L2 L3 : List Int} (hR : ipR a b s = (u0, u1, L1, L2, L3, C)) (hv : Fo.code a b s = 0) : u0 = a ∧ u1 = b ∧ L1 = imF a (2 ^ s.length) (LVs s) (2 ^ s.length) ∧ L2 = imB a (2 ^ s.length) (LVs s) (2 ^ s.length) ∧ L3 = imH a (2 ^ s.length) (LVs s) (2 ^ s.length) ∧ C = 0 := by
  unfold ipR at hR
  rw [hv, if_pos rfl] at hR
  obtain ⟨h1, h2, h3, h4, h5, h6⟩ := tup6 hR
  exact ⟨h1.symm, h2.symm, h3.symm, h4.symm, h5.symm, h6.symm⟩
theorem imF_zero (w : Int) (n : Nat) (lv : List Lv) : imF w n lv 0 = List.replicate n 0 := rfl
theorem imB_zero (w : Int) (n : Nat) (lv : List Lv) : imB w n lv 0 = List.replicate n 0 := rfl
theorem imH_zero (w : Int) (n : Nat) (lv : List Lv) : imH w n lv 0 = List.replicate n 0 := rfl
end Fm

theorem Own.cellAt {w : World} {lo hi g n c k : Nat} {l : List Int} (h : Own I w lo hi 2 (.slice (some ⟨g, 0, none⟩) n c) l) (hk : k < n) : ∃ x, w.cell? ⟨g, k, none⟩ = some (I x) ∧ w.frozen? ⟨g, k, none⟩ = false ∧ lo ≤ g ∧ g < hi := by
  obtain ⟨g', x, hg, h1, h2, _, _, hc, hf⟩ := h.at_ hk
  injection hg with hg
  injection hg with hg _ _
  subst hg
  exact ⟨x, hc, hf, h1, h2⟩
set_option maxRecDepth 100000 in
set_option maxHeartbeats 2000000 in
theorem implIp_any (a b : Int) (s : ByteArray) (u0 u1 C : Int) (L1 L2 L3 : List Int) (hR : Fm.ipR a b s.data.toList = (u0, u1, L1, L2, L3, C)) (hs : s.size ≤ 1048577) (w : World) :
    Calls Try.prog 11 #[.int .i64 a, .int .i64 b, .string s] w fun e w' => FC w u0 u1 L1 L2 L3 C e w' := by
  have HR := Lib.hid hR
  obtain ⟨D, hD⟩ : ∃ D, Fo.code a b s.data.toList = D := ⟨_, rfl⟩
  have hch : ∀ W, Calls Try.prog 46 #[.int .i64 a, .int .i64 b, .string s] W fun e w' => e = .returned (.int .i64 D) ∧ W = w' := fun W => by rw [← hD]; exact checkScheme_any a b s W hs
  have bR := Blk.new (w := w) (g := w.heap.size) (Fv.cs fv0) 28 rfl
  have hB0 := below_alloc w (.cells (Fv.cs fv0) 28)
  have HD := Lib.hid hD
  clear hR hD
  go_enter Try.func11, Try.ntmps11
  go_wp2_with fail
  generalize hW : w.alloc (.cells (Fv.cs fv0) 28) = W0 at bR hB0 ⊢
  have zW : W0.heap.size = w.heap.size + 1 := by rw [← hW]; simp
  clear hW
  refine (hch _).mono ?_
  rintro e _ ⟨rfl, rfl⟩
  by_cases h0 : D = 0
  rotate_left
  · have hD12 : D = 1 ∨ D = 2 := by
      have := HD.out
      unfold Fo.code at this
      split at this
      · split at this <;> omega
      · omega
    clear h0
    rcases hD12 with rfl | rfl
    · clear hch
      obtain ⟨rfl, rfl, rfl, rfl, rfl, rfl⟩ := Fm.ip_bad HR.out HD.out (by decide)
      have s4 := bR.put5 fv0
      obtain ⟨x0, x1, x2, x3, x4⟩ := bR.lcell
      simp only at x0 x1 x2 x3 x4
      obtain ⟨y0, y1, y2, y3, y4⟩ := bR.freeF
      have HS4 := Lib.hid s4
      have HBW := Lib.hid (hB0)
      clear s4
      go_wp2_with fail
      obtain ⟨e0, e1, e2, e3, e4⟩ := HS4.out.lcell
      exact bodyPost_ret (v := .tuple #[Fv.v fv0, .int .i64 1]) (by simp [results, Try.results11, go_sem, e0, e1, e2, e3, e4]) rfl (FC.mk_ fv0 rfl rfl (OF.zero _ _ _ (Nat.le_refl _)) (Nat.le_refl _) (by have := HBW.out.size; simpa using this) fv0_le (below_put5 HBW.out fv0 (Nat.le_refl _)))
    · clear hch
      obtain ⟨rfl, rfl, rfl, rfl, rfl, rfl⟩ := Fm.ip_bad HR.out HD.out (by decide)
      have s4 := bR.put5 fv0
      obtain ⟨x0, x1, x2, x3, x4⟩ := bR.lcell
      simp only at x0 x1 x2 x3 x4
      obtain ⟨y0, y1, y2, y3, y4⟩ := bR.freeF
      have HS4 := Lib.hid s4
      have HBW := Lib.hid (hB0)
      clear s4
      go_wp2_with fail
      obtain ⟨e0, e1, e2, e3, e4⟩ := HS4.out.lcell
      exact bodyPost_ret (v := .tuple #[Fv.v fv0, .int .i64 2]) (by simp [results, Try.results11, go_sem, e0, e1, e2, e3, e4]) rfl (FC.mk_ fv0 rfl rfl (OF.zero _ _ _ (Nat.le_refl _)) (Nat.le_refl _) (by have := HBW.out.size; simpa using this) fv0_le (below_put5 HBW.out fv0 (Nat.le_refl _)))
  subst h0
  have hsc := Fo.code_zero HD.out
  have HSC := Lib.hid hsc
  have h6 := (Fo.scheme_len hsc).1
  rw [toList_len] at h6
  obtain ⟨N, hN⟩ : ∃ N : Nat, 2 ^ s.size = N := ⟨_, rfl⟩
  have hab := Fm.scheme_cells hsc
  rw [toList_len, hN] at hab
  have N64 : N ≤ 64 := by rw [← hN]; exact pow_le6' h6
  have HS := Lib.hid (Fm.scheme_sheet hsc)
  have HAB := Lib.hid hab
  have hg := Fm.ip_good HR.out HD.out
  rw [toList_len, hN] at hg
  obtain ⟨hu0, hu1, hL1, hL2, hL3, rfl⟩ := hg
  obtain rfl : a = u0 := hu0.symm
  obtain rfl : b = u1 := hu1.symm
  have HN := Lib.hid hN
  have HBR := Lib.hid bR
  have HB0 := Lib.hid hB0
  subst hL1 hL2 hL3
  clear hsc hab hN bR hB0 hch
  go_wp2_with fail
  refine (emptyForm_any a b N _ HAB.out N64).mono ?_
  rintro e w2 ⟨g1, g2, g3, rfl, oE, hb2⟩
  have z2 := hb2.size
  obtain ⟨⟨m1, m2, s1, s2, s3, o1, o2, o3⟩⟩ := oE
  simp only at o1 o2 o3
  have bE := FBx.new w2 ⟨a, b, some ⟨g1, 0, none⟩, N, N, some ⟨g2, 0, none⟩, N, N, some ⟨g3, 0, none⟩, N, N⟩
  have bR2 := (HBR.out.below hb2 (by omega)).alloc (.cells (Fv.cs ⟨a, b, some ⟨g1, 0, none⟩, N, N, some ⟨g2, 0, none⟩, N, N, some ⟨g3, 0, none⟩, N, N⟩) 28)
  have o1a := o1.alloc (.cells (Fv.cs ⟨a, b, some ⟨g1, 0, none⟩, N, N, some ⟨g2, 0, none⟩, N, N, some ⟨g3, 0, none⟩, N, N⟩) 28)
  have o2a := o2.alloc (.cells (Fv.cs ⟨a, b, some ⟨g1, 0, none⟩, N, N, some ⟨g2, 0, none⟩, N, N, some ⟨g3, 0, none⟩, N, N⟩) 28)
  have o3a := o3.alloc (.cells (Fv.cs ⟨a, b, some ⟨g1, 0, none⟩, N, N, some ⟨g2, 0, none⟩, N, N, some ⟨g3, 0, none⟩, N, N⟩) 28)
  have hB2 := (HB0.out.trans (hb2.mono (by omega))).alloc (by omega) (.cells (Fv.cs ⟨a, b, some ⟨g1, 0, none⟩, N, N, some ⟨g2, 0, none⟩, N, N, some ⟨g3, 0, none⟩, N, N⟩) 28)
  clear hb2 o1 o2 o3
  go_wp2_with fail
  generalize hV : w2.alloc (.cells (Fv.cs ⟨a, b, some ⟨g1, 0, none⟩, N, N, some ⟨g2, 0, none⟩, N, N, some ⟨g3, 0, none⟩, N, N⟩) 28) = v2 at bE bR2 o1a o2a o3a hB2 ⊢
  have zv : v2.heap.size = w2.heap.size + 1 := by rw [← hV]; simp
  clear hV
  refine (leavesOf_any s _ h6).mono ?_
  rintro e w3 ⟨gL, nL, rfl, oL, hb3⟩
  have z3 := hb3.size
  obtain rfl : nL = N := by
    have := oL.rd.1
    rw [LVs_len, toList_len, HN.out] at this
    exact this.symm
  have HBE := Lib.hid (bE.below hb3 (by omega))
  have HBR3 := Lib.hid (bR2.below hb3 (by omega))
  have HB3 := Lib.hid (hB2.trans (hb3.mono (by omega)))
  have HOL := Lib.hid oL
  have hgL := oL.lt gL rfl
  have o1b := o1a.below hb3 (by omega)
  have o2b := o2a.below hb3 (by omega)
  have o3b := o3a.below hb3 (by omega)
  obtain ⟨LO, hLO⟩ : ∃ LO, W0.heap.size = LO := ⟨_, rfl⟩
  rw [hLO] at o1b s1
  clear bE bR2 o1a o2a o3a hB2 hb3 oL
  go_wp2_with fail
  go_loopw [10, 12, 13, 14, 15, 30] (fun p _ _ _ _ i wr => ∃ k : Nat, k ≤ nL ∧ i = .int .i64 k ∧ p = .int .i64 (2 * (k : Int) + 1) ∧ Own I wr LO m1 2 (slN g1 nL) (Fm.imF a nL (LVs s.data.toList) k) ∧ Own I wr m1 m2 2 (slN g2 nL) (Fm.imB a nL (LVs s.data.toList) k) ∧ Own I wr m2 w2.heap.size 2 (slN g3 nL) (Fm.imH a nL (LVs s.data.toList) k) ∧ Hid (Only LO w2.heap.size w3 wr)) (fun _ _ _ _ _ i _ => nL - (intOf i).toNat)
  case atStart => exact ⟨0, Nat.zero_le _, rfl, rfl, by rw [Fm.imF_zero]; exact o1b, by rw [Fm.imB_zero]; exact o2b, by rw [Fm.imH_zero]; exact o3b, Lib.hid (Only.refl _ _ _)⟩
  case round =>
    clear o1b o2b o3b
    obtain ⟨k, hk, rfl, rfl, o1, o2, o3, HO⟩ := hrel
    have hz := HO.out.size
    by_cases hlt : k < nL
    · obtain ⟨bL, oL', v, hA, hbB, hv, q0, q1, q2, q3⟩ := (HOL.out.only HO.out (.inr (by omega))).rd.at_ hlt
      injection hA with hA
      injection hA with hA1 hA2 _
      subst hA1 hA2
      have hon := Fm.LVs_on HSC.out hv
      have hf := Fm.fc_at HS.out hon
      have hbk := Fm.bc_at HS.out hon
      rw [HAB.out] at hf hbk
      have HNF := Lib.hid (Fm.imF_next (w := a) (n := nL) hv)
      have HNB := Lib.hid (Fm.imB_next (w := a) (n := nL) hv)
      have HNH := Lib.hid (Fm.imH_next (w := a) (n := nL) hv)
      obtain ⟨i1, hi1⟩ : ∃ i, Fm.fc a v = i := ⟨_, rfl⟩
      obtain ⟨i2, hi2⟩ : ∃ i, Fm.bc a v = i := ⟨_, rfl⟩
      have lt1 : i1 < nL := by rw [← hi1]; omega
      have lt2 : i2 < nL := by rw [← hi2]; omega
      obtain ⟨d, hd⟩ : ∃ d, v.down = d := ⟨_, rfl⟩
      have HD := Lib.hid hd
      have HON := Lib.hid hon
      have HI1 := Lib.hid hi1
      have HI2 := Lib.hid hi2
      obtain ⟨vx, vy, vfx, vfy⟩ := v
      simp only [Nat.zero_add] at q0 q1 q2 q3
      have bE5 := (HBE.out.only HO.out (.inr (by omega))).alloc (.cells #[.int .i64 vx, .int .i64 vy, .bool vfx, .bool vfy] 66)
      have lb5 := Blk.new (w := wr) (g := wr.heap.size) #[.int .i64 vx, .int .i64 vy, .bool vfx, .bool vfy] 66 rfl
      have bl5 := below_alloc wr (.cells #[.int .i64 vx, .int .i64 vy, .bool vfx, .bool vfy] 66)
      clear hv hi1 hi2 hd hon hf hbk
      go_wp2_with fail
      generalize hV5 : wr.alloc (.cells #[.int .i64 vx, .int .i64 vy, .bool vfx, .bool vfy] 66) = v5 at bE5 lb5 bl5 ⊢
      have z5 : v5.heap.size = wr.heap.size + 1 := by rw [← hV5]; simp
      clear hV5 q0 q1 q2 q3
      refine (onLeaf_any a b g1 0 g2 0 g3 0 nL nL nL nL w2.heap.size ⟨vx, vy, vfx, vfy⟩ d HD.out i1 i2 HI1.out HI2.out _ bE5 HS.out HAB.out HON.out).mono ?_
      rintro e w6 ⟨rfl, hb6⟩
      have bl6 : Below wr.heap.size wr w6 := bl5.trans (hb6.mono (by omega))
      have z6 := bl6.size
      have lb6 := lb5.below hb6 (by omega)
      have y3' := lb6.cell 3 (v := .bool vfy) rfl
      have o1c := o1.below bl6 (by omega)
      have o2c := o2.below bl6 (by omega)
      have o3c := o3.below bl6 (by omega)
      have HO6 := Lib.hid (HO.out.trans (Only.of_below bl6 LO w2.heap.size))
      have e1 : IntKind.i64.wrap (2 * (k : Int) + 1 + 1) = 2 * (k : Int) + 2 := by rw [IntWalk.i64_in _ (by omega)]; omega
      have e1' : 2 * (k : Int) + 1 + 1 = 2 * (k : Int) + 2 := by omega
      simp only [Nat.zero_add]
      clear o1 o2 o3 bE5 lb5 bl5 hb6
      cases d
      · rw [show Fm.up k ⟨vx, vy, vfx, vfy⟩ = 2 * (k : Int) + 1 by unfold Fm.up; rw [HD.out]; rfl, HI1.out] at HNF
        rw [show Fm.dn k ⟨vx, vy, vfx, vfy⟩ = 2 * (k : Int) + 2 by unfold Fm.dn; rw [HD.out]; rfl, HI2.out] at HNB
        have S1 := (o1c).set_ (k := i1) (2 * (k : Int) + 1)
        have hs1 : Own I (w6.setCell ⟨g1, i1, none⟩ (I (2 * (k : Int) + 1))) LO m1 2 (slN g1 nL) (Fm.imF a nL (LVs s.data.toList) (k + 1)) := by
          rw [HNF.out]
          exact S1.1
        have ho1 : Only LO m1 w6 (w6.setCell ⟨g1, i1, none⟩ (I (2 * (k : Int) + 1))) := S1.2
        have S2 := (o2c.only ho1 (by omega)).set_ (k := i2) (2 * (k : Int) + 2)
        have hs2 : Own I ((w6.setCell ⟨g1, i1, none⟩ (I (2 * (k : Int) + 1))).setCell ⟨g2, i2, none⟩ (I (2 * (k : Int) + 2))) m1 m2 2 (slN g2 nL) (Fm.imB a nL (LVs s.data.toList) (k + 1)) := by
          rw [HNB.out]
          exact S2.1
        have ho2 : Only m1 m2 (w6.setCell ⟨g1, i1, none⟩ (I (2 * (k : Int) + 1))) ((w6.setCell ⟨g1, i1, none⟩ (I (2 * (k : Int) + 1))).setCell ⟨g2, i2, none⟩ (I (2 * (k : Int) + 2))) := S2.2
        have hs1' := hs1.only ho2 (by omega)
        have ho3 := (o3c.only ho1 (by omega)).only ho2 (by omega)
        have HO8 := Lib.hid ((HO6.out.trans (only_wide ho1 (by omega) (by omega))).trans (only_wide ho2 (by omega) (by omega)))
        obtain ⟨xf, cf, ff, gf1, gf2⟩ := (o1c).cellAt (k := i1) (by omega)
        obtain ⟨xs, cs, fs, gs1, gs2⟩ := (o2c).cellAt (k := i2) (by omega)
        have y3w := (y3' : w6.cell? ⟨wr.heap.size, 3, none⟩ = some (.bool vfy))
        have lb8 := (lb6.only (only_wide ho1 (lo' := LO) (hi' := w2.heap.size) (by omega) (by omega)) (.inr (by omega))).only (only_wide ho2 (lo' := LO) (hi' := w2.heap.size) (by omega) (by omega)) (.inr (by omega))
        have y38 := lb8.cell 3 (v := .bool vfy) rfl
        obtain ⟨xh, ch, fh, gh1, gh2⟩ := ho3.cellAt (k := i1) (by omega)
        clear S1 S2 hs1 ho1 ho2
        cases vfy
        · have HNH' : Hid (Fm.imH a nL (LVs s.data.toList) (k + 1) = Fm.imH a nL (LVs s.data.toList) k) := Lib.hid (by rw [HNH.out]; rfl)
          rw [← HNH'.out] at ho3
          have H1 := Lib.hid hs1'
          have H2 := Lib.hid hs2
          have H3 := Lib.hid ho3
          clear hs2 hs1' ho3 o1c o2c o3c
          go_wp2_with fail
          go_roundw
          case rel => exact ⟨k + 1, by omega, by go_num, by go_num, H1.out, H2.out, H3.out, HO8.out⟩
          case measure => simp [intOf]; omega
        · have S3 := ho3.set_ (k := i1) 1
          have HNH' : Hid (Fm.imH a nL (LVs s.data.toList) (k + 1) = (Fm.imH a nL (LVs s.data.toList) k).set i1 1) := Lib.hid (by rw [HNH.out, HI1.out]; rfl)
          rw [← HNH'.out] at S3
          have H1 := Lib.hid ((hs1').only S3.2 (by omega))
          have H2 := Lib.hid ((hs2).only S3.2 (by omega))
          have H3 := Lib.hid S3.1
          have HO9 := Lib.hid (HO8.out.trans (only_wide S3.2 (by omega) (by omega)))
          clear hs2 hs1' ho3 o1c o2c o3c S3
          go_wp2_with fail
          go_roundw
          case rel => exact ⟨k + 1, by omega, by go_num, by go_num, H1.out, H2.out, H3.out, HO9.out⟩
          case measure => simp [intOf]; omega
      · rw [show Fm.up k ⟨vx, vy, vfx, vfy⟩ = 2 * (k : Int) + 2 by unfold Fm.up; rw [HD.out]; rfl, HI1.out] at HNF
        rw [show Fm.dn k ⟨vx, vy, vfx, vfy⟩ = 2 * (k : Int) + 1 by unfold Fm.dn; rw [HD.out]; rfl, HI2.out] at HNB
        have S1 := (o2c).set_ (k := i2) (2 * (k : Int) + 1)
        have hs1 : Own I (w6.setCell ⟨g2, i2, none⟩ (I (2 * (k : Int) + 1))) m1 m2 2 (slN g2 nL) (Fm.imB a nL (LVs s.data.toList) (k + 1)) := by
          rw [HNB.out]
          exact S1.1
        have ho1 : Only m1 m2 w6 (w6.setCell ⟨g2, i2, none⟩ (I (2 * (k : Int) + 1))) := S1.2
        have S2 := (o1c.only ho1 (by omega)).set_ (k := i1) (2 * (k : Int) + 2)
        have hs2 : Own I ((w6.setCell ⟨g2, i2, none⟩ (I (2 * (k : Int) + 1))).setCell ⟨g1, i1, none⟩ (I (2 * (k : Int) + 2))) LO m1 2 (slN g1 nL) (Fm.imF a nL (LVs s.data.toList) (k + 1)) := by
          rw [HNF.out]
          exact S2.1
        have ho2 : Only LO m1 (w6.setCell ⟨g2, i2, none⟩ (I (2 * (k : Int) + 1))) ((w6.setCell ⟨g2, i2, none⟩ (I (2 * (k : Int) + 1))).setCell ⟨g1, i1, none⟩ (I (2 * (k : Int) + 2))) := S2.2
        have hs1' := hs1.only ho2 (by omega)
        have ho3 := (o3c.only ho1 (by omega)).only ho2 (by omega)
        have HO8 := Lib.hid ((HO6.out.trans (only_wide ho1 (by omega) (by omega))).trans (only_wide ho2 (by omega) (by omega)))
        obtain ⟨xf, cf, ff, gf1, gf2⟩ := (o2c).cellAt (k := i2) (by omega)
        obtain ⟨xs, cs, fs, gs1, gs2⟩ := (o1c).cellAt (k := i1) (by omega)
        have y3w := (y3' : w6.cell? ⟨wr.heap.size, 3, none⟩ = some (.bool vfy))
        have lb8 := (lb6.only (only_wide ho1 (lo' := LO) (hi' := w2.heap.size) (by omega) (by omega)) (.inr (by omega))).only (only_wide ho2 (lo' := LO) (hi' := w2.heap.size) (by omega) (by omega)) (.inr (by omega))
        have y38 := lb8.cell 3 (v := .bool vfy) rfl
        obtain ⟨xh, ch, fh, gh1, gh2⟩ := ho3.cellAt (k := i1) (by omega)
        clear S1 S2 hs1 ho1 ho2
        cases vfy
        · have HNH' : Hid (Fm.imH a nL (LVs s.data.toList) (k + 1) = Fm.imH a nL (LVs s.data.toList) k) := Lib.hid (by rw [HNH.out]; rfl)
          rw [← HNH'.out] at ho3
          have H1 := Lib.hid hs2
          have H2 := Lib.hid hs1'
          have H3 := Lib.hid ho3
          clear hs2 hs1' ho3 o1c o2c o3c
          go_wp2_with fail
          go_roundw
          case rel => exact ⟨k + 1, by omega, by go_num, by go_num, H1.out, H2.out, H3.out, HO8.out⟩
          case measure => simp [intOf]; omega
        · have S3 := ho3.set_ (k := i1) 1
          have HNH' : Hid (Fm.imH a nL (LVs s.data.toList) (k + 1) = (Fm.imH a nL (LVs s.data.toList) k).set i1 1) := Lib.hid (by rw [HNH.out, HI1.out]; rfl)
          rw [← HNH'.out] at S3
          have H1 := Lib.hid ((hs2).only S3.2 (by omega))
          have H2 := Lib.hid ((hs1').only S3.2 (by omega))
          have H3 := Lib.hid S3.1
          have HO9 := Lib.hid (HO8.out.trans (only_wide S3.2 (by omega) (by omega)))
          clear hs2 hs1' ho3 o1c o2c o3c S3
          go_wp2_with fail
          go_roundw
          case rel => exact ⟨k + 1, by omega, by go_num, by go_num, H1.out, H2.out, H3.out, HO9.out⟩
          case measure => simp [intOf]; omega
    · obtain rfl : k = nL := by omega
      have oF : OF wr LO w2.heap.size ⟨a, b, some ⟨g1, 0, none⟩, k, k, some ⟨g2, 0, none⟩, k, k, some ⟨g3, 0, none⟩, k, k⟩ _ _ _ := ⟨⟨m1, m2, s1, s2, s3, o1, o2, o3⟩⟩
      have HOF := Lib.hid oF
      have HB4 := Lib.hid (HB3.out.trans (HO.out.below (by omega) (by omega)))
      have bR6 := HBR3.out.only HO.out (.inl (by omega))
      obtain ⟨j0, j1, j2, j3, j4⟩ := (HBE.out.only HO.out (.inr (by omega))).lcell
      simp only at j0 j1 j2 j3 j4
      have s4 := bR6.put5 ⟨a, b, some ⟨g1, 0, none⟩, k, k, some ⟨g2, 0, none⟩, k, k, some ⟨g3, 0, none⟩, k, k⟩
      obtain ⟨x0, x1, x2, x3, x4⟩ := bR6.lcell
      simp only at x0 x1 x2 x3 x4
      obtain ⟨y0, y1', y2', y3, y4⟩ := bR6.freeF
      have HS4 := Lib.hid s4
      clear s4 bR6 o1 o2 o3 oF
      go_wp2_with fail
      obtain ⟨e0, e1, e2, e3, e4⟩ := HS4.out.lcell
      simp only at e0 e1 e2 e3 e4
      exact bodyPost_ret (v := .tuple #[Fv.v ⟨a, b, some ⟨g1, 0, none⟩, k, k, some ⟨g2, 0, none⟩, k, k, some ⟨g3, 0, none⟩, k, k⟩, .int .i64 0]) (by simp [results, Try.results11, go_sem, e0, e1, e2, e3, e4]) rfl (FC.mk_ ⟨a, b, some ⟨g1, 0, none⟩, k, k, some ⟨g2, 0, none⟩, k, k, some ⟨g3, 0, none⟩, k, k⟩ rfl rfl (HOF.out.put5 ⟨a, b, some ⟨g1, 0, none⟩, k, k, some ⟨g2, 0, none⟩, k, k, some ⟨g3, 0, none⟩, k, k⟩ (.inl (by omega))) (by omega) (by simp; omega) ⟨show k ≤ _ by omega, show k ≤ _ by omega, show k ≤ _ by omega⟩ (below_put5 HB4.out ⟨a, b, some ⟨g1, 0, none⟩, k, k, some ⟨g2, 0, none⟩, k, k, some ⟨g3, 0, none⟩, k, k⟩ (by omega)))
end Go.Proofs.Ytgplciodddfpbaa
