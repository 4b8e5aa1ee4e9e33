/- Contract of the model's ImposeSheet. -/
import Derived.Test.YtfiefjbipjalpaaFmIp
import Derived.Laws.MakeOwn
import Derived.Test.YtfiefjbipjalpaaFoSf
namespace Go.Proofs.Ytfiefjbipjalpaa
open Go.RowKit

theorem run_mk (N : Nat) (h : N ≤ 64) (W : World) : (Instr.makeSlice 24 (.int .i64 (N : Int)) (.int .i64 (N : Int))).run Try.prog W = .ok (.slice (some ⟨W.heap.size, 0, none⟩) N N) (W.alloc (.cells (Array.replicate N (I 0)) 2)) := by
  obtain ⟨i0, hi0, hz0, hz1, hz2⟩ := info_parts infoI
  have := run_make (P := Try.prog) (w := W) 24 2 i0 _ Try.underlying24 hi0 hz0 .i64 .i64 (N : Int) (N : Int) (by omega) (by omega) (by rw [hz2]; omega) (by omega)
  rw [this, hz1]
  have hm : madeCells (Value.int IntKind.i64 0).cells ((N : Int).toNat * 1) = Array.replicate N (I 0) := by
    rw [show (Value.int IntKind.i64 0).cells = #[I 0] from rfl]
    apply Array.ext'
    rw [Nat.mul_one, toList_madeCells_one]
    simp
  rw [hm]
  simp
theorem Own.made (N : Nat) (h : N ≤ 64) (W : World) : Own I (W.alloc (.cells (Array.replicate N (I 0)) 2)) W.heap.size (W.heap.size + 1) 2 (slN W.heap.size N) (List.replicate N 0) := by
  refine ⟨⟨by simp, .inr ⟨W.heap.size, N, Array.replicate N (I 0), by simp, Nat.le_refl _, heap_alloc_new W _, ?_, by unfold maxLen; omega, ?_, ?_⟩⟩, fun k hk => by simp [Value.ownBlock] at hk; omega⟩ <;> simp
theorem heap_new' (w : World) (o : Obj) (g : Nat) (hg : g = w.heap.size) : (w.alloc o).heap[g]? = some o := by subst hg; exact heap_alloc_new w o
theorem chain5 (w : World) (o0 o1 o2 o3 o4 : Obj) :
    (((((w.alloc o0).alloc o1).alloc o2).alloc o3).alloc o4).heap[w.heap.size]? = some o0 ∧ (((((w.alloc o0).alloc o1).alloc o2).alloc o3).alloc o4).heap[w.heap.size + 1]? = some o1 ∧
    (((((w.alloc o0).alloc o1).alloc o2).alloc o3).alloc o4).heap[w.heap.size + 1 + 1]? = some o2 ∧ (((((w.alloc o0).alloc o1).alloc o2).alloc o3).alloc o4).heap[w.heap.size + 1 + 1 + 1]? = some o3 ∧
    (((((w.alloc o0).alloc o1).alloc o2).alloc o3).alloc o4).heap[w.heap.size + 1 + 1 + 1 + 1]? = some o4 := by
  have h0 := heap_new' w o0 _ rfl
  have h1 := heap_new' (w.alloc o0) o1 (w.heap.size + 1) (by simp)
  have h2 := heap_new' ((w.alloc o0).alloc o1) o2 (w.heap.size + 1 + 1) (by simp)
  have h3 := heap_new' (((w.alloc o0).alloc o1).alloc o2) o3 (w.heap.size + 1 + 1 + 1) (by simp)
  have h4 := heap_new' ((((w.alloc o0).alloc o1).alloc o2).alloc o3) o4 (w.heap.size + 1 + 1 + 1 + 1) (by simp)
  have up : ∀ (W : World) (o : Obj) (k : Nat), k < W.heap.size → (W.alloc o).heap[k]? = W.heap[k]? := fun W o k hk => Below.heap_alloc W o k hk
  refine ⟨?_, ?_, ?_, ?_, h4⟩
  · rw [up _ _ _ (by simp <;> omega), up _ _ _ (by simp <;> omega), up _ _ _ (by simp <;> omega), up _ _ _ (by simp)]; exact h0
  · rw [up _ _ _ (by simp <;> omega), up _ _ _ (by simp <;> omega), up _ _ _ (by simp)]; exact h1
  · rw [up _ _ _ (by simp <;> omega), up _ _ _ (by simp)]; exact h2
  · rw [up _ _ _ (by simp)]; exact h3
theorem Own.of_heap {N g : Nat} {w : World} (h64 : N ≤ 64) (h : w.heap[g]? = some (.cells (Array.replicate N (I 0)) 2 (0, 0))) : Own I w g (g + 1) 2 (slN g N) (List.replicate N 0) := by
  refine ⟨⟨by simp, .inr ⟨g, N, Array.replicate N (I 0), by simp, Nat.le_refl _, h, ?_, by unfold maxLen; omega, ?_, ?_⟩⟩, fun k hk => by simp [Value.ownBlock] at hk; omega⟩ <;> simp
/-- The model's form so far: four new blocks, the order in which they came left open. -/
structure Mk4 (w : World) (a b : Int) (N gB g1 g2 g3 : Nat) (W : World) : Prop where
  size : W.heap.size = w.heap.size + 5
  bel : Below w.heap.size w W
  res : W.heap[w.heap.size]? = some (.cells (Fv.cs fv0) 26 (0, 0))
  box : W.heap[gB]? = some (.cells (Fv.cs ⟨a, b, some ⟨g1, 0, none⟩, N, N, some ⟨g2, 0, none⟩, N, N, some ⟨g3, 0, none⟩, N, N⟩) 26 (0, 0))
  h1 : W.heap[g1]? = some (.cells (Array.replicate N (I 0)) 2 (0, 0))
  h2 : W.heap[g2]? = some (.cells (Array.replicate N (I 0)) 2 (0, 0))
  h3 : W.heap[g3]? = some (.cells (Array.replicate N (I 0)) 2 (0, 0))
  low : w.heap.size < gB ∧ w.heap.size < g1 ∧ w.heap.size < g2 ∧ w.heap.size < g3 ∧ gB < w.heap.size + 5 ∧ g1 < w.heap.size + 5 ∧ g2 < w.heap.size + 5 ∧ g3 < w.heap.size + 5
  ne : g1 ≠ g2 ∧ g1 ≠ g3 ∧ g2 ≠ g3 ∧ gB ≠ g1 ∧ gB ≠ g2 ∧ gB ≠ g3
set_option maxRecDepth 100000 in
set_option maxHeartbeats 20000000 in
theorem l05Form_any (a b : Int) (s : ByteArray) (w : World) (hsc : Fo.scheme a b s.data.toList = true) (N : Nat) (hN : 2 ^ s.size = N) :
    Calls Try.prog 103 #[.int .i64 a, .int .i64 b, .string s] w fun e w' => ∃ g1 g2 g3, e = .returned (Fv.v ⟨a, b, some ⟨g1, 0, none⟩, N, N, some ⟨g2, 0, none⟩, N, N, some ⟨g3, 0, none⟩, N, N⟩) ∧
      SF w' w.heap.size w'.heap.size ⟨a, b, some ⟨g1, 0, none⟩, N, N, some ⟨g2, 0, none⟩, N, N, some ⟨g3, 0, none⟩, N, N⟩ (Fm.imF a N (LVs s.data.toList) N) (Fm.imB a N (LVs s.data.toList) N) (Fm.imH a N (LVs s.data.toList) N) ∧ Below w.heap.size w w' := by
  have h6 := (Fo.scheme_len hsc).1
  rw [toList_len] at h6
  have N64 : N ≤ 64 := by rw [← hN]; exact pow_le6' h6
  have hab := Fm.scheme_cells hsc
  rw [toList_len, hN] at hab
  have hmk := run_mk N N64
  have wN : IntKind.i64.wrap (N : Int) = (N : Int) := IntWalk.i64_in _ (by omega)
  go_enter Try.func103, Try.ntmps103
  go_wp2_with fail
  rename_i K hK0
  have hP : ∀ (gB g1 g2 g3 : Nat) (W4 : World), Mk4 w a b N gB g1 g2 g3 W4 → K { tmps := #[.int .i64 a, .int .i64 b, .string s, undef, undef, undef, .pointer (some ⟨w.heap.size, 0, none⟩), .int .i64 (N : Int), .pointer (some ⟨gB, 0, none⟩), undef, undef, undef, undef, undef, .int .i64 a, .int .i64 b, .int .i64 (N : Int), .int .i64 a, .int .i64 b, .int .i64 (N : Int), slN g1 N, .int .i64 (N : Int), slN g2 N, .int .i64 (N : Int), slN g3 N, .agg #[.int .i64 a, .int .i64 b, slN g1 N, slN g2 N, slN g3 N], undef, undef, undef, undef, undef, undef, undef, undef, undef, undef, undef, undef, undef, undef, undef, undef, undef, undef, undef, undef, undef, undef, undef, undef, undef, undef, undef, undef, undef, undef, undef, undef, undef, undef, undef, undef, undef, undef, undef, undef, undef, undef, undef, undef, undef, undef, undef, undef, undef, undef, undef, undef, undef, undef, undef, undef, undef, undef, undef, undef, undef, undef], defers := [] } W4 := by
    as_aux_lemma =>
      intro gB g1 g2 g3 W4 hM
      apply hK0
      clear hK0
      go_wp2_with fail
      refine (specLv_any a b s _ hsc).mono ?_
      rintro e w5 ⟨AL, nL, cL, rfl, oL, hnL, hb5⟩
      have z5 := hb5.size
      obtain ⟨zW, belW, resW, boxW, h1W, h2W, h3W, ⟨lB, l1, l2, l3, uB, u1, u2, u3⟩, ⟨n12, n13, n23, nB1, nB2, nB3⟩⟩ := hM
      obtain rfl : nL = N := by
        have := oL.rd.1
        rw [LVs_len, toList_len, hN] at this
        exact this.symm
      have HS := Lib.hid (Fm.scheme_sheet hsc)
      have HAB := Lib.hid hab
      have HSC := Lib.hid hsc
      have HBE := Lib.hid ((show FBx W4 gB ⟨a, b, some ⟨g1, 0, none⟩, nL, nL, some ⟨g2, 0, none⟩, nL, nL, some ⟨g3, 0, none⟩, nL, nL⟩ from boxW).below hb5 (by omega))
      have HBR := Lib.hid ((show FBx W4 w.heap.size fv0 from resW).below hb5 (by omega))
      have o1 := (Own.of_heap N64 h1W).below hb5 (by omega)
      have o2 := (Own.of_heap N64 h2W).below hb5 (by omega)
      have o3 := (Own.of_heap N64 h3W).below hb5 (by omega)
      have HOL := Lib.hid oL
      have HB5 := Lib.hid (belW.trans (hb5.mono (by omega)))
      obtain ⟨LO, hLO⟩ : ∃ LO, w.heap.size + 1 = LO := ⟨_, rfl⟩
      obtain ⟨HI, hHI⟩ : ∃ HI, W4.heap.size = HI := ⟨_, rfl⟩
      have hHI' : HI = w.heap.size + 5 := by omega
      have hlo : w.heap.size < LO := by omega
      have k1 : LO ≤ g1 ∧ g1 < HI := by omega
      have k2 : LO ≤ g2 ∧ g2 < HI := by omega
      have k3 : LO ≤ g3 ∧ g3 < HI := by omega
      have kB : gB < HI := by omega
      have hHW : HI ≤ W4.heap.size := by omega
      rw [hHI] at z5
      have HNE := Lib.hid (And.intro nB1 (And.intro nB2 nB3))
      clear boxW resW h1W h2W h3W hb5 oL belW hsc hab hN hmk zW lB l1 l2 l3 uB u1 u2 u3 hLO hHI nB1 nB2 nB3
      have HBE0 := HBE.out
      go_wp2_with fail
      go_loopw [10, 11, 12, 13] (fun i _ _ _ wr => ∃ k : Nat, k ≤ nL ∧ i = .int .i64 k ∧ Own I wr g1 (g1 + 1) 2 (slN g1 nL) (Fm.imF a nL (LVs s.data.toList) k) ∧ Own I wr g2 (g2 + 1) 2 (slN g2 nL) (Fm.imB a nL (LVs s.data.toList) k) ∧ Own I wr g3 (g3 + 1) 2 (slN g3 nL) (Fm.imH a nL (LVs s.data.toList) k) ∧ Hid (Only LO HI w5 wr) ∧ Hid (FBx wr gB ⟨a, b, some ⟨g1, 0, none⟩, nL, nL, some ⟨g2, 0, none⟩, nL, nL, some ⟨g3, 0, none⟩, nL, nL⟩)) (fun i _ _ _ _ => nL - (intOf i).toNat)
      case atStart => exact ⟨0, Nat.zero_le _, rfl, by rw [Fm.imF_zero]; exact o1, by rw [Fm.imB_zero]; exact o2, by rw [Fm.imH_zero]; exact o3, Lib.hid (Only.refl _ _ _), HBE⟩
      case round =>
        clear o1 o2 o3 HBE0
        obtain ⟨k, hk, rfl, o1, o2, o3, HO, HX⟩ := hrel
        have hz := HO.out.size
        by_cases hlt : k < nL
        · obtain ⟨bL, oL', v, hA, hbB, hv, q0, q1, q2, q3⟩ := (HOL.out.only HO.out (.inr (by omega))).rd.at_ hlt
          subst hA
          have hon := Fm.LVs_on HSC.out hv
          have hf := Fm.fc_at HS.out hon
          have hbk := Fm.bc_at HS.out hon
          rw [HAB.out] at hf hbk
          have HNF := Lib.hid (Fm.imF_next (w := a) (n := nL) hv)
          have HNB := Lib.hid (Fm.imB_next (w := a) (n := nL) hv)
          have HNH := Lib.hid (Fm.imH_next (w := a) (n := nL) hv)
          obtain ⟨i1, hi1⟩ : ∃ i, Fm.fc a v = i := ⟨_, rfl⟩
          obtain ⟨i2, hi2⟩ : ∃ i, Fm.bc a v = i := ⟨_, rfl⟩
          rw [hi1] at hf
          rw [hi2] at hbk
          have lt1 : i1 < nL := by omega
          have lt2 : i2 < nL := by omega
          obtain ⟨d, hd⟩ : ∃ d, v.down = d := ⟨_, rfl⟩
          obtain ⟨Wd, Hd, eW, eH, W1, W8, _, _, _, _, _⟩ := Fm.cells_of HS.out
          have a18 : 1 ≤ a ∧ a ≤ 8 := by omega
          have HD := Lib.hid hd
          have HI1 := Lib.hid hi1
          have HI2 := Lib.hid hi2
          obtain ⟨x0, x1', _, _⟩ := hon
          obtain ⟨f1, _, f3, f4⟩ := hf
          obtain ⟨b1, _⟩ := hbk
          obtain ⟨vx, vy, vfx, vfy⟩ := v
          simp only at x0 x1' f1 f3 f4 b1 q0 q1 q2 q3
          obtain ⟨R, hR⟩ : ∃ R, vy * a = R := ⟨_, rfl⟩
          rw [hR] at f1 f3 f4 b1
          have b2 : R + a - 1 - vx = (i2 : Int) := by omega
          have w1' : IntKind.i64.wrap R = R := IntWalk.i64_in _ (by omega)
          have w2' : IntKind.i64.wrap (i1 : Int) = (i1 : Int) := IntWalk.i64_in _ (by omega)
          have w3' : IntKind.i64.wrap (R + a) = R + a := IntWalk.i64_in _ (by omega)
          have w4' : IntKind.i64.wrap (R + a - 1) = R + a - 1 := IntWalk.i64_in _ (by omega)
          have w5' : IntKind.i64.wrap (i2 : Int) = (i2 : Int) := IntWalk.i64_in _ (by omega)
          have lb5 := Blk.new (w := wr) (g := wr.heap.size) #[.int .i64 vx, .int .i64 vy, .bool vfx, .bool vfy] 100 rfl
          have bl5 := below_alloc wr (.cells #[.int .i64 vx, .int .i64 vy, .bool vfx, .bool vfy] 100)
          have hdn : ∀ W, Calls Try.prog 99 #[.agg #[.int .i64 vx, .int .i64 vy, .bool vfx, .bool vfy]] W fun e w' => e = .returned (.bool d) ∧ Below W.heap.size W w' := fun W => by
            have := specDown_any ⟨vx, vy, vfx, vfy⟩ W
            rw [HD.out] at this
            exact this
          clear hv hi1 hi2 hd eW eH W1 W8
          go_wp2_with fail
          generalize hV5 : wr.alloc (.cells #[.int .i64 vx, .int .i64 vy, .bool vfx, .bool vfy] 100) = v5 at lb5 bl5 ⊢
          have zv5 : v5.heap.size = wr.heap.size + 1 := by rw [← hV5]; simp
          clear hV5 q0 q1 q2 q3
          refine (hdn _).mono ?_
          rintro e w6 ⟨rfl, hb6⟩
          have bl6 : Below wr.heap.size wr w6 := bl5.trans (hb6.mono (by omega))
          have z6 := bl6.size
          have lb6 := lb5.below hb6 (by omega)
          have y0 := lb6.cell 0 (v := .int .i64 vx) rfl
          have y1 := lb6.cell 1 (v := .int .i64 vy) rfl
          have y3 := lb6.cell 3 (v := .bool vfy) rfl
          have bx6 := HX.out.below bl6 (by omega)
          obtain ⟨j0, j1, j2, j3, j4⟩ := bx6.lcell
          simp only at j0 j1 j2 j3 j4
          have o1c := o1.below bl6 (by omega)
          have o2c := o2.below bl6 (by omega)
          have o3c := o3.below bl6 (by omega)
          have HO6 := Lib.hid (HO.out.trans (Only.of_below bl6 LO HI))
          obtain ⟨xf, cf, ff, _, _⟩ := o1c.cellAt (k := i1) (by omega)
          obtain ⟨xs, cs, fs, _, _⟩ := o2c.cellAt (k := i2) (by omega)
          obtain ⟨xh, ch, fh, _, _⟩ := o3c.cellAt (k := i1) (by omega)
          have bne : gB ≠ g1 ∧ gB ≠ g2 ∧ gB ≠ g3 := HNE.out
          obtain ⟨nB1, nB2, nB3⟩ := bne
          clear o1 o2 o3 lb5 bl5 hb6 hdn lb6
          cases d
          · rw [show Fm.up k ⟨vx, vy, vfx, vfy⟩ = 2 * (k : Int) + 1 by unfold Fm.up; rw [HD.out]; rfl, HI1.out] at HNF
            rw [show Fm.dn k ⟨vx, vy, vfx, vfy⟩ = 2 * (k : Int) + 2 by unfold Fm.dn; rw [HD.out]; rfl, HI2.out] at HNB
            have S1 := o1c.set_ (k := i1) (2 * (k : Int) + 1)
            rw [← HNF.out] at S1
            have S2 := (o2c.only S1.2 (by omega)).set_ (k := i2) (2 * (k : Int) + 2)
            rw [← HNB.out] at S2
            have t1 := S1.1.only S2.2 (by omega)
            have t3 := (o3c.only S1.2 (by omega)).only S2.2 (by omega)
            have HO8 := Lib.hid ((HO6.out.trans (only_wide S1.2 (by omega) (by omega))).trans (only_wide S2.2 (by omega) (by omega)))
            have bx8 := (bx6.only S1.2 (by omega)).only S2.2 (by omega)
            cases vfy
            · have HNH' : Hid (Fm.imH a nL (LVs s.data.toList) (k + 1) = Fm.imH a nL (LVs s.data.toList) k) := Lib.hid (by rw [HNH.out]; rfl)
              rw [← HNH'.out] at t3
              have H1 := Lib.hid t1
              have H2 := Lib.hid S2.1
              have H3 := Lib.hid t3
              have H4 := Lib.hid bx8
              clear t1 t3 S1 S2 o1c o2c o3c bx8 bx6
              go_wp2_with fail
              go_roundw
              case rel => exact ⟨k + 1, by omega, by go_num, H1.out, H2.out, H3.out, HO8, H4⟩
              case measure => simp [intOf]; omega
            · have S3 := t3.set_ (k := i1) 1
              have HNH' : Hid (Fm.imH a nL (LVs s.data.toList) (k + 1) = (Fm.imH a nL (LVs s.data.toList) k).set i1 1) := Lib.hid (by rw [HNH.out, HI1.out]; rfl)
              rw [← HNH'.out] at S3
              have H1 := Lib.hid (t1.only S3.2 (by omega))
              have H2 := Lib.hid (S2.1.only S3.2 (by omega))
              have H3 := Lib.hid S3.1
              have H4 := Lib.hid (bx8.only S3.2 (by omega))
              have HO9 := Lib.hid (HO8.out.trans (only_wide S3.2 (by omega) (by omega)))
              clear t1 t3 S1 S2 S3 o1c o2c o3c bx8 bx6
              go_wp2_with fail
              go_roundw
              case rel => exact ⟨k + 1, by omega, by go_num, H1.out, H2.out, H3.out, HO9, H4⟩
              case measure => simp [intOf]; omega
          · rw [show Fm.up k ⟨vx, vy, vfx, vfy⟩ = 2 * (k : Int) + 2 by unfold Fm.up; rw [HD.out]; rfl, HI1.out] at HNF
            rw [show Fm.dn k ⟨vx, vy, vfx, vfy⟩ = 2 * (k : Int) + 1 by unfold Fm.dn; rw [HD.out]; rfl, HI2.out] at HNB
            have S1 := o1c.set_ (k := i1) (2 * (k : Int) + 2)
            rw [← HNF.out] at S1
            have S2 := (o2c.only S1.2 (by omega)).set_ (k := i2) (2 * (k : Int) + 1)
            rw [← HNB.out] at S2
            have t1 := S1.1.only S2.2 (by omega)
            have t3 := (o3c.only S1.2 (by omega)).only S2.2 (by omega)
            have HO8 := Lib.hid ((HO6.out.trans (only_wide S1.2 (by omega) (by omega))).trans (only_wide S2.2 (by omega) (by omega)))
            have bx8 := (bx6.only S1.2 (by omega)).only S2.2 (by omega)
            cases vfy
            · have HNH' : Hid (Fm.imH a nL (LVs s.data.toList) (k + 1) = Fm.imH a nL (LVs s.data.toList) k) := Lib.hid (by rw [HNH.out]; rfl)
              rw [← HNH'.out] at t3
              have H1 := Lib.hid t1
              have H2 := Lib.hid S2.1
              have H3 := Lib.hid t3
              have H4 := Lib.hid bx8
              clear t1 t3 S1 S2 o1c o2c o3c bx8 bx6
              go_wp2_with fail
              go_roundw
              case rel => exact ⟨k + 1, by omega, by go_num, H1.out, H2.out, H3.out, HO8, H4⟩
              case measure => simp [intOf]; omega
            · have S3 := t3.set_ (k := i1) 1
              have HNH' : Hid (Fm.imH a nL (LVs s.data.toList) (k + 1) = (Fm.imH a nL (LVs s.data.toList) k).set i1 1) := Lib.hid (by rw [HNH.out, HI1.out]; rfl)
              rw [← HNH'.out] at S3
              have H1 := Lib.hid (t1.only S3.2 (by omega))
              have H2 := Lib.hid (S2.1.only S3.2 (by omega))
              have H3 := Lib.hid S3.1
              have H4 := Lib.hid (bx8.only S3.2 (by omega))
              have HO9 := Lib.hid (HO8.out.trans (only_wide S3.2 (by omega) (by omega)))
              clear t1 t3 S1 S2 S3 o1c o2c o3c bx8 bx6
              go_wp2_with fail
              go_roundw
              case rel => exact ⟨k + 1, by omega, by go_num, H1.out, H2.out, H3.out, HO9, H4⟩
              case measure => simp [intOf]; omega
        · obtain rfl : k = nL := by omega
          have oF : SF wr LO HI ⟨a, b, some ⟨g1, 0, none⟩, k, k, some ⟨g2, 0, none⟩, k, k, some ⟨g3, 0, none⟩, k, k⟩ _ _ _ := ⟨o1.mono k1.1 (by omega), o2.mono k2.1 (by omega), o3.mono k3.1 (by omega)⟩
          have HOF := Lib.hid oF
          have HB6 := Lib.hid (HB5.out.trans (HO.out.below (B := w.heap.size) (by omega) (by omega)))
          have bR6 := HBR.out.only HO.out (.inl (by omega))
          obtain ⟨j0, j1, j2, j3, j4⟩ := HX.out.lcell
          simp only at j0 j1 j2 j3 j4
          have s4 := bR6.put5 ⟨a, b, some ⟨g1, 0, none⟩, k, k, some ⟨g2, 0, none⟩, k, k, some ⟨g3, 0, none⟩, k, k⟩
          obtain ⟨x0, x1, x2, x3, x4⟩ := bR6.lcell
          simp only at x0 x1 x2 x3 x4
          obtain ⟨y0, y1, y2, y3, y4⟩ := bR6.freeF
          have HS4 := Lib.hid s4
          clear s4 bR6 o1 o2 o3 oF
          go_wp2_with fail
          obtain ⟨e0, e1, e2, e3, e4⟩ := HS4.out.lcell
          simp only at e0 e1 e2 e3 e4
          exact bodyPost_ret (v := Fv.v ⟨a, b, some ⟨g1, 0, none⟩, k, k, some ⟨g2, 0, none⟩, k, k, some ⟨g3, 0, none⟩, k, k⟩) (by simp [results, Try.results103, go_sem, e0, e1, e2, e3, e4]) rfl ⟨g1, g2, g3, rfl, (HOF.out.put5 ⟨a, b, some ⟨g1, 0, none⟩, k, k, some ⟨g2, 0, none⟩, k, k, some ⟨g3, 0, none⟩, k, k⟩ (.inl hlo)).mono (by omega) (by simp; omega), below_put5 HB6.out ⟨a, b, some ⟨g1, 0, none⟩, k, k, some ⟨g2, 0, none⟩, k, k, some ⟨g3, 0, none⟩, k, k⟩ (Nat.le_refl _)⟩
  go_region
  all_goals
    refine hP _ _ _ _ _ ⟨by simp, ?_, ?_, ?_, ?_, ?_, ?_, ⟨by omega, by omega, by omega, by omega, by omega, by omega, by omega, by omega⟩, ⟨by omega, by omega, by omega, by omega, by omega, by omega⟩⟩
    · exact below_drewN' ((((((Below.refl w.heap.size w).alloc (Nat.le_refl _) _).alloc (by simp) _).alloc (by simp; omega) _).alloc (by simp; omega) _).alloc (by simp; omega) _) 1
    all_goals
      first
        | exact (chain5 w _ _ _ _ _).1
        | exact (chain5 w _ _ _ _ _).2.1
        | exact (chain5 w _ _ _ _ _).2.2.1
        | exact (chain5 w _ _ _ _ _).2.2.2.1
        | exact (chain5 w _ _ _ _ _).2.2.2.2
end Go.Proofs.Ytfiefjbipjalpaa
