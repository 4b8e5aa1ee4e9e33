/- Contracts of the model's reading of a form. -/
import Derived.Test.YtfiefjbipjalpaaFmRd
import Derived.Test.YtfiefjbipjalpaaFoSf
import Derived.Test.YtfiefjbipjalpaaSrc
namespace Go.Proofs.Ytfiefjbipjalpaa
open Go.RowKit

theorem readL_zero (a : Int) (F G H : List Int) (l : List Lv) : Fm.readL a F G H (l.take 0) = [] := by rw [List.take_zero]; rfl
set_option maxRecDepth 100000 in
set_option maxHeartbeats 1600000 in
theorem specRead_any (f : Fv) (B : Nat) (F G H : List Int) (s : ByteArray) (w : World)
    (h : RF w B f F G H) (hB : B ≤ w.heap.size) (hok : Fm.ok f.a f.b F G H) (hsc : Fo.scheme f.a f.b s.data.toList = true) :
    Calls Try.prog 61 #[f.v, .string s] w fun e w' => ∃ A n c, e = .returned (.slice A n c) ∧ Own I w' w.heap.size w'.heap.size 2 (.slice A n c) (Fm.readL f.a F G H (LVs s.data.toList)) ∧ n ≤ 128 ∧ Below w.heap.size w w' := by
  obtain ⟨i0, hi0, hz0, hz1, hz2⟩ := info_parts infoI
  obtain ⟨a, b, A1, n1, c1, A2, n2, c2, A3, n3, c3⟩ := f
  simp only at hok hsc ⊢
  obtain ⟨e1, e2, e3⟩ := h.len
  simp only at e1 e2 e3
  obtain ⟨l1, l2, l3⟩ := hok.2.1
  have hs := Fm.scheme_sheet hsc
  obtain ⟨N, hN, N1, N64⟩ := Fm.cells_pos hs
  rw [hN] at l1 l2 l3
  obtain rfl : n1 = N := by omega
  obtain rfl : n2 = n1 := by omega
  obtain rfl : n3 = n2 := by omega
  obtain ⟨RL, hRL⟩ : ∃ RL, Fm.readL a F G H (LVs s.data.toList) = RL := ⟨_, rfl⟩
  rw [hRL]
  have HRL := Lib.hid hRL
  have HOK := Lib.hid hok
  have HSC := Lib.hid hsc
  have HN := Lib.hid hN
  have HS := Lib.hid hs
  have hB0 := below_alloc w (.cells (Fv.cs ⟨a, b, A1, n3, c1, A2, n3, c2, A3, n3, c3⟩) 26)
  have hbx := FBx.new w ⟨a, b, A1, n3, c1, A2, n3, c2, A3, n3, c3⟩
  have hr0 := h.below hB0 hB
  obtain ⟨Wd, Hd, eW, eH, W1, W8, _, _, _, _, _⟩ := Fm.cells_of hs
  have a18 : 1 ≤ a ∧ a ≤ 8 := by omega
  clear h hok hsc e1 e2 e3 l1 l2 l3 hRL hN hs eW eH
  go_enter Try.func61, Try.ntmps61
  go_wp2_with fail
  generalize hW : w.alloc (.cells (Fv.cs ⟨a, b, A1, n3, c1, A2, n3, c2, A3, n3, c3⟩) 26) = W0 at hB0 hbx hr0 ⊢
  have hwz : W0.heap.size = w.heap.size + 1 := by rw [← hW]; simp
  clear hW
  refine (specLv_any a b s _ HSC.out).mono ?_
  rintro e w1 ⟨AL, nL, cL, rfl, oL, hnL, hb1⟩
  have z1 := hb1.size
  have HB1 := Lib.hid (hB0.trans (hb1.mono (by omega)))
  have HX1 := Lib.hid (hbx.below hb1 (by omega))
  have HR1 := Lib.hid (hr0.below hb1 (by omega))
  have rL := oL.rd
  have HLL := Lib.hid rL.1
  clear hB0 hbx hr0 hb1 oL
  have hl0 := Own.lit0 I w1 2
  have hb2 := below_alloc w1 (.cells #[] 2)
  have HRL0 := Lib.hid rL
  go_wp2_with fail
  generalize hV : w1.alloc (.cells #[] 2) = w2 at hl0 hb2 ⊢
  have z2 : w2.heap.size = w1.heap.size + 1 := by rw [← hV]; simp
  clear hV rL
  go_loopw [6, 7, 8, 9, 10, 11] (fun o i _ _ _ _ wr => ∃ (k m : Nat) (A : Option Addr) (c : Nat), k ≤ nL ∧ Hid (m = 2 * k) ∧ i = .int .i64 k ∧ o = .slice A m c ∧ Own I wr w1.heap.size wr.heap.size 2 (.slice A m c) (Fm.readL a F G H ((LVs s.data.toList).take k)) ∧ Hid (Below w1.heap.size w1 wr)) (fun _ i _ _ _ _ _ => nL - (intOf i).toNat)
  case atStart => exact ⟨0, 0, _, _, Nat.zero_le _, Lib.hid rfl, rfl, rfl, by rw [readL_zero]; exact hl0.mono (Nat.le_refl _) (by omega), Lib.hid hb2⟩
  case round =>
    clear hl0 hb2
    obtain ⟨k, m, A, c, hk, hm, rfl, rfl, ho, HB⟩ := hrel
    have hz := HB.out.size
    by_cases hlt : k < nL
    · obtain ⟨bL, oL, v, rfl, hbB, hv, q0, q1, q2, q3⟩ := (HRL0.out.below HB.out (Nat.le_refl _)).at_ hlt
      have hon := Fm.LVs_on HSC.out hv
      have hf := Fm.fc_at HS.out hon
      have hbk := Fm.bc_at HS.out hon
      rw [HN.out] at hf hbk
      have HNX := Lib.hid (Fm.readL_next a F G H (LVs s.data.toList) k v hv)
      obtain ⟨i1, hi1⟩ : ∃ i, Fm.fc a v = i := ⟨_, rfl⟩
      obtain ⟨i2, hi2⟩ : ∃ i, Fm.bc a v = i := ⟨_, rfl⟩
      rw [hi1] at hf
      rw [hi2] at hbk
      have lt1 : i1 < n3 := by omega
      have lt2 : i2 < n3 := by omega
      have hrf := HR1.out.below HB.out (by omega)
      obtain ⟨r1, r2, r3⟩ := hrf
      simp only at r1 r2 r3
      obtain ⟨p1, o1, x1, hA1, pb1, hx1, hc1⟩ := r1.at_ lt1
      obtain ⟨p2, o2, x2, hA2, pb2, hx2, hc2⟩ := r2.at_ lt2
      obtain ⟨p3, o3, x3, hA3, pb3, hx3, hc3⟩ := r3.at_ lt1
      have sm1 := Fm.ok_small HOK.out (List.mem_append_left G (List.mem_of_getElem? hx1))
      have sm2 := Fm.ok_small HOK.out (List.mem_append_right F (List.mem_of_getElem? hx2))
      obtain ⟨d, hd⟩ : ∃ d, v.down = d := ⟨_, rfl⟩
      obtain ⟨hd1, hhd⟩ : ∃ hd1, (x3 == 1) = hd1 := ⟨_, rfl⟩
      have HRD : Hid (∀ lo, Fm.rd a F G H v lo = if (v.fy != hd1) = true then -(bif (d != lo) then x2 else x1) else (bif (d != lo) then x2 else x1)) := Lib.hid fun lo => by
        unfold Fm.rd Fm.pg
        rw [hi1, hi2, getD_at hx1, getD_at hx2, getD_at hx3, hhd, hd]
        cases d <;> cases lo <;> rfl
      have HD := Lib.hid hd
      obtain ⟨x0, x1', _, _⟩ := hon
      obtain ⟨f1, _, f3, f4⟩ := hf
      obtain ⟨b1, _⟩ := hbk
      obtain ⟨vx, vy, vfx, vfy⟩ := v
      simp only at x0 x1' f1 f3 f4 b1 q0 q1 q2 q3
      obtain ⟨R, hR⟩ : ∃ R, vy * a = R := ⟨_, rfl⟩
      rw [hR] at f1 f3 f4 b1
      have b2 : R + a - 1 - vx = (i2 : Int) := by omega
      have w1' : IntKind.i64.wrap R = R := IntWalk.i64_in _ (by omega)
      have w2' : IntKind.i64.wrap (i1 : Int) = (i1 : Int) := IntWalk.i64_in _ (by omega)
      have w3' : IntKind.i64.wrap (R + a) = R + a := IntWalk.i64_in _ (by omega)
      have w4' : IntKind.i64.wrap (R + a - 1) = R + a - 1 := IntWalk.i64_in _ (by omega)
      have w5' : IntKind.i64.wrap (i2 : Int) = (i2 : Int) := IntWalk.i64_in _ (by omega)
      have t1 : IntKind.i64.wrap (-x1) = -x1 := IntWalk.i64_in _ (by omega)
      have t2 : IntKind.i64.wrap (-x2) = -x2 := IntWalk.i64_in _ (by omega)
      subst hA1 hA2 hA3
      have HXr := HX1.out.below HB.out (by omega)
      have xb := HXr.alloc (.cells #[.int .i64 vx, .int .i64 vy, .bool vfx, .bool vfy] 100)
      have hb3 := HB.out.alloc hz (.cells #[.int .i64 vx, .int .i64 vy, .bool vfx, .bool vfy] 100)
      have lb := Blk.new (w := wr) (g := wr.heap.size) #[.int .i64 vx, .int .i64 vy, .bool vfx, .bool vfy] 100 rfl
      have ho3 := ho.alloc (.cells #[.int .i64 vx, .int .i64 vy, .bool vfx, .bool vfy] 100)
      obtain ⟨k0, k1, k2, k3, k4⟩ := xb.fcell
      simp only at k0 k1 k2 k3 k4
      have y0 := lb.cell 0 (v := .int .i64 vx) rfl
      have y1 := lb.cell 1 (v := .int .i64 vy) rfl
      have y2 := lb.cell 2 (v := .bool vfx) rfl
      have y3 := lb.cell 3 (v := .bool vfy) rfl
      have hc1' := (hb3.cell (p := ⟨p1, o1 + i1, none⟩) (by show p1 < _; omega)).trans ((HB.out.cell (p := ⟨p1, o1 + i1, none⟩) (by show p1 < _; omega)).symm.trans hc1)
      have hc2' := (hb3.cell (p := ⟨p2, o2 + i2, none⟩) (by show p2 < _; omega)).trans ((HB.out.cell (p := ⟨p2, o2 + i2, none⟩) (by show p2 < _; omega)).symm.trans hc2)
      have hc3' := (hb3.cell (p := ⟨p3, o3 + i1, none⟩) (by show p3 < _; omega)).trans ((HB.out.cell (p := ⟨p3, o3 + i1, none⟩) (by show p3 < _; omega)).symm.trans hc3)
      have hdn : ∀ W, Calls Try.prog 99 #[.agg #[.int .i64 vx, .int .i64 vy, .bool vfx, .bool vfy]] W fun e w' => e = .returned (.bool d) ∧ Below W.heap.size W w' := fun W => by
        have := specDown_any ⟨vx, vy, vfx, vfy⟩ W
        rw [HD.out] at this
        exact this
      clear hx1 hx2 hx3 hc1 hc2 hc3 r1 r2 r3 hv hi1 hi2 hd
      have hm128 : m ≤ 128 := by have := hm.out; omega
      have HO3 := Lib.hid ho3
      have HB3 := Lib.hid hb3
      have HRC := Lib.hid (And.intro hc1' (And.intro hc2' hc3'))
      have HXB := Lib.hid xb
      have HLB := Lib.hid lb
      clear ho hb3 ho3 HXr xb lb sm1 sm2
      go_wp2_with fail
      generalize hV : wr.alloc (.cells #[.int .i64 vx, .int .i64 vy, .bool vfx, .bool vfy] 100) = v1 at k0 k1 k2 k3 k4 y0 y1 y2 y3 hc1' hc2' hc3' HO3 HB3 HXB HLB ⊢
      have zv : v1.heap.size = wr.heap.size + 1 := by rw [← hV]; simp
      clear hV HRC
      go_quiet (fail)
      go_wp2_with fail
      refine (hdn _).mono ?_
      rintro e w5 ⟨rfl, hb5⟩
      have hb6 : Below v1.heap.size v1 w5 := (below_drewN' (Below.refl _ _) _).trans hb5
      have z5 := hb6.size
      have HO5 := Lib.hid ((HO3.out.mono (Nat.le_refl _) (show wr.heap.size ≤ v1.heap.size by omega)).below hb6 (Nat.le_refl _))
      have HB5 := Lib.hid (HB3.out.trans (hb6.mono (by omega)))
      have HL5 := HLB.out.below hb6 (by omega)
      have y3' := HL5.cell 3 (v := .bool vfy) rfl
      obtain ⟨j0, j1, j2, j3, j4⟩ := (HXB.out.below hb6 (by omega)).fcell
      simp only at j0 j1 j2 j3 j4
      have d3 := (hb6.cell (p := ⟨p3, o3 + i1, none⟩) (by show p3 < _; omega)).trans hc3'
      clear k0 k1 k2 k3 k4 y0 y1 y2 y3 hc1' hc2' hc3' hb5 hb6 HL5 hdn
      cases d <;> cases vfy <;> cases hd1
      all_goals
        have HV1 := Lib.hid (HRD.out false)
        have HV2 := Lib.hid (HRD.out true)
        go_wp2_with fail
        go_quiet (fail)
        go_wp2_with (at_builtin; refine wp_spread _ rfl _ _ 24 rfl 2 i0 (.int .i64 0) 8 Try.underlying24 hi0 hz0 hz1 hz2 rfl A m c _ w1.heap.size _ rfl ((HO5.out.drewN _).alloc _) _ 2 2 _ [_, _] rfl (Rd.lit I _ _ _) oneI (by omega) (by omega) (by simp; omega) ?_; intro A6 c6 w6 ho6 hm6)
        have z6 := hm6.size
        simp at z6
        have HB6 := Lib.hid (((below_drewN' HB5.out _).alloc (by simp; omega) _).trans (hm6.below (Nat.le_refl _) (by simp; omega)))
        go_roundw
        case rel => exact ⟨k + 1, m + 2, _, _, by omega, Lib.hid (by have := hm.out; omega), by go_num, rfl, by rw [HNX.out, HV1.out, HV2.out]; exact ho6, HB6.out⟩
        case measure => simp [intOf]; omega
    · obtain rfl : k = nL := by omega
      have HE : Hid ((LVs s.data.toList).take k = LVs s.data.toList) := Lib.hid (List.take_of_length_le (Nat.le_of_eq HLL.out))
      rw [HE.out, HRL.out] at ho
      go_wp2_with fail
      go_ret
      exact ⟨_, _, _, rfl, ho.mono (by omega) (Nat.le_refl _), by have := hm.out; omega, HB1.out.trans (HB.out.mono (by omega))⟩
end Go.Proofs.Ytfiefjbipjalpaa
