/- The pieces after a cut: the model's, across. -/
import Derived.Test.YtbhofhobnbhhhaaGreatDoorGuSt
import Derived.Deep.RegionLaw
namespace Go.Proofs.YtbhofhobnbhhhaaGreatDoor
open Go.RowKit
set_option linter.unusedVariables false

set_option maxRecDepth 100000 in
set_option maxHeartbeats 4000000 in
theorem specLc_across (b o n c B k : Nat) (l : List Pc) (t : Int) (w : World) (h : RdS Pc.S w B (some ⟨b, o, none⟩) n l) (hB : B ≤ w.heap.size) (hok : Gu.okL l = true) (hc : n ≤ c) (hcan : Gu.canP l ⟨(k : Int), true, t⟩) :
    Calls Tryz.prog 40 #[.slice (some ⟨b, o, none⟩) n c, .agg #[.int .i64 (k : Int), .bool true, .int .i64 t]] w fun e w' => ∃ A' c', e = .returned (.slice A' (n + 1) c') ∧ OwnS Pc.S w' w.heap.size w'.heap.size (.slice A' (n + 1) c') (Gu.cut l ⟨(k : Int), true, t⟩) ∧ Below w.heap.size w w' := by
  have hl := h.1
  have hk : k < n := by have := hcan.2.2.1; simp at this; omega
  have hn80 : n < 80 := by have := hcan.1; omega
  have hk1 : k + 1 ≤ n := hk
  obtain ⟨b1, o1, x, ea, hbB, hx, c0, c1⟩ := (h.alloc hB (.cells #[.int .i64 (k : Int), .bool true, .int .i64 t] 50)).at_Pc hk
  injection ea with ea
  injection ea with ea1 ea2 _
  subst ea1 ea2
  have hxo := Gu.okP_iff.1 ((Gu.okL_all hok).2 x (List.mem_of_getElem? hx))
  have hat : Gu.atI l (k : Int) = x := Gu.atI_get (by simpa using hx)
  have h1 := hcan.2.2.2.1
  have h2 := hcan.2.2.2.2
  simp only [hat] at h1 h2
  have h2' : t < x.h := h2
  have HCU0 : Hid (Gu.cut l ⟨(k : Int), true, t⟩ = l.take k ++ [(Gu.fst x ⟨(k : Int), true, t⟩), (Gu.snd x ⟨(k : Int), true, t⟩)] ++ l.drop (k + 1)) := Lib.hid (by unfold Gu.cut; simp only [hat, Int.toNat_natCast])
  have ew1 : IntKind.i64.wrap (x.w - t) = x.w - t := IntWalk.i64_in _ (by omega)
  have ew2 : IntKind.i64.wrap (x.h - t) = x.h - t := IntWalk.i64_in _ (by omega)
  have bc : Blk ((w.alloc (.cells #[.int .i64 (k : Int), .bool true, .int .i64 t] 50)).alloc (.cells #[.int .i64 x.w, .int .i64 x.h] 25)).drew w.heap.size #[.int .i64 (k : Int), .bool true, .int .i64 t] 50 := Blk.alloc (Blk.new _ _ rfl) _
  have bp : Blk ((w.alloc (.cells #[.int .i64 (k : Int), .bool true, .int .i64 t] 50)).alloc (.cells #[.int .i64 x.w, .int .i64 x.h] 25)).drew (w.heap.size + 1) #[.int .i64 x.w, .int .i64 x.h] 25 := Blk.new _ _ (by simp)
  have hb0 : Below w.heap.size w ((w.alloc (.cells #[.int .i64 (k : Int), .bool true, .int .i64 t] 50)).alloc (.cells #[.int .i64 x.w, .int .i64 x.h] 25)).drew := below_drewN' (two_new w _ _) 1
  have hS0 : LcS w (k : Int) true t x ((w.alloc (.cells #[.int .i64 (k : Int), .bool true, .int .i64 t] 50)).alloc (.cells #[.int .i64 x.w, .int .i64 x.h] 25)).drew := ⟨bc.cell 0 rfl, bc.cell 1 rfl, bc.cell 2 rfl, bp.cell 0 rfl, bp.cell 1 rfl⟩
  have hS1 : ∀ o', LcS w (k : Int) true t x (((w.alloc (.cells #[.int .i64 (k : Int), .bool true, .int .i64 t] 50)).alloc (.cells #[.int .i64 x.w, .int .i64 x.h] 25)).alloc o').drew := fun o' => LcS.alloc hS0 (by simp) o'
  have hS2 : ∀ o' o2, LcS w (k : Int) true t x ((((w.alloc (.cells #[.int .i64 (k : Int), .bool true, .int .i64 t] 50)).alloc (.cells #[.int .i64 x.w, .int .i64 x.h] 25)).alloc o').alloc o2).drew := fun o' o2 => LcS.alloc (hS1 o') (by first | (simp; done) | (simp; omega)) o2
  have hbw : b < w.heap.size := by omega
  clear hx h1 h2 hcan hat
  go_enter Tryz.func40, Tryz.ntmps40
  go_wp2_with fail
  rename_i K hK0 hx0_
  have hP : ∀ (G1 G2 : Nat) (W : World), LcM w (k : Int) true t x G1 G2 ⟨t, x.h⟩ ⟨x.w - t, x.h⟩ W → K { tmps := #[.slice (some ⟨b, o, none⟩) n c, .agg #[.int .i64 (k : Int), .bool true, .int .i64 t], undef, .pointer (some ⟨w.heap.size, 0, none⟩), .slice none 0 0, .pointer (some ⟨w.heap.size + 1, 0, none⟩), .pointer (some ⟨G1, 0, none⟩), .pointer (some ⟨G2, 0, none⟩), .slice (some ⟨b, o, none⟩) n c, .pointer (some ⟨w.heap.size, 0, none⟩), .int .i64 (k : Int), .pointer (some ⟨b, o + k * 2, none⟩), .agg #[.int .i64 x.w, .int .i64 x.h], .pointer (some ⟨w.heap.size, 2, none⟩), .int .i64 t, .pointer (some ⟨w.heap.size + 1, 1, none⟩), .int .i64 x.h, .agg #[.int .i64 t, .int .i64 x.h], .pointer (some ⟨w.heap.size + 1, 0, none⟩), .int .i64 x.w, .pointer (some ⟨w.heap.size, 2, none⟩), .int .i64 t, .int .i64 (x.w - t), .pointer (some ⟨w.heap.size + 1, 1, none⟩), .int .i64 x.h, .agg #[.int .i64 (x.w - t), .int .i64 x.h], undef, undef, undef, undef, undef, undef, undef, undef, undef, undef, undef, undef, undef, undef, undef, undef, undef, undef, undef, undef, undef, undef, undef, undef, undef, undef, undef, undef, undef, undef, undef], defers := [] } W := by
    intro G1 G2 W M
    apply hK0
    clear hK0 hS0 hS1 hS2 bc bp hb0 c0 c1
    have c1 := M.c.cell 1 (v := .bool true) rfl
    have hS0 : LcS w (k : Int) true t x W.drew := ⟨M.c.cell 0 rfl, c1, M.c.cell 2 rfl, M.p.cell 0 rfl, M.p.cell 1 rfl⟩
    have hS00 : LcS w (k : Int) true t x W := hS0
    have u0 := M.e1.free 0
    have u1 := M.e1.free 1
    have u2 := M.e2.free 0
    have u3 := M.e2.free 1
    have s0 := M.e1.cell 0 (v := .int .i64 t) rfl
    have s1 := M.e1.cell 1 (v := .int .i64 x.h) rfl
    have s2 := M.e2.cell 0 (v := .int .i64 (x.w - t)) rfl
    have s3 := M.e2.cell 1 (v := .int .i64 x.h) rfl
    have g1 := M.g1
    have g2 := M.g2
    have n1 : ¬ G1 = G2 := M.ne
    have n2 : ¬ G2 = G1 := fun h => M.ne h.symm
    have M0 := Lib.hid M
    clear M
    go_wp2_with fail
    rename_i K3 hK3
    have hP4 : ∀ W9 : World, LcM w (k : Int) true t x G1 G2 ⟨x.w, t⟩ ⟨x.w, x.h - t⟩ W9 → K3 { tmps := #[.slice (some ⟨b, o, none⟩) n c, .agg #[.int .i64 (k : Int), .bool true, .int .i64 t], undef, .pointer (some ⟨w.heap.size, 0, none⟩), .slice none 0 0, .pointer (some ⟨w.heap.size + 1, 0, none⟩), .pointer (some ⟨G1, 0, none⟩), .pointer (some ⟨G2, 0, none⟩), .slice (some ⟨b, o, none⟩) n c, .pointer (some ⟨w.heap.size, 0, none⟩), .int .i64 (k : Int), .pointer (some ⟨b, o + k * 2, none⟩), .agg #[.int .i64 x.w, .int .i64 x.h], .pointer (some ⟨w.heap.size, 2, none⟩), .int .i64 t, .pointer (some ⟨w.heap.size + 1, 1, none⟩), .int .i64 x.h, .agg #[.int .i64 t, .int .i64 x.h], .pointer (some ⟨w.heap.size + 1, 0, none⟩), .int .i64 x.w, .pointer (some ⟨w.heap.size, 2, none⟩), .int .i64 t, .int .i64 (x.w - t), .pointer (some ⟨w.heap.size + 1, 1, none⟩), .int .i64 x.h, .agg #[.int .i64 (x.w - t), .int .i64 x.h], .pointer (some ⟨w.heap.size, 1, none⟩), .bool true, .pointer (some ⟨w.heap.size + 1, 0, none⟩), .int .i64 x.w, .pointer (some ⟨w.heap.size, 2, none⟩), .int .i64 t, .agg #[.int .i64 x.w, .int .i64 t], .pointer (some ⟨w.heap.size + 1, 0, none⟩), .int .i64 x.w, .pointer (some ⟨w.heap.size + 1, 1, none⟩), .int .i64 x.h, .pointer (some ⟨w.heap.size, 2, none⟩), .int .i64 t, .int .i64 (x.h - t), .agg #[.int .i64 x.w, .int .i64 (x.h - t)], undef, undef, undef, undef, undef, undef, undef, undef, undef, undef, undef, undef, undef, undef, undef, undef], defers := [] } W9 := by
      clear hS0 hS00 u0 u1 u2 u3 s0 s1 s2 s3 c1 M0
      intro W M
      apply hK3
      clear hK3
      obtain ⟨f, hf⟩ : ∃ f : Pc, f = ⟨x.w, t⟩ := ⟨_, rfl⟩
      obtain ⟨s, hs⟩ : ∃ s : Pc, s = ⟨x.w, x.h - t⟩ := ⟨_, rfl⟩
      have HCU : Hid (Gu.cut l ⟨(k : Int), true, t⟩ = l.take k ++ [f, s] ++ l.drop (k + 1)) := by
        have := HCU0.out
        rw [hf, hs]
        exact Lib.hid this
      rw [← hf, ← hs] at M
      clear hf hs
      have hSR : AfR w.heap.size G1 G2 (k : Int) f s W.drew := ⟨M.c.cell 0 rfl, M.e1.cell 0 rfl, M.e1.cell 1 rfl, M.e2.cell 0 rfl, M.e2.cell 1 rfl⟩
      have l0 := M.c.lt
      have l1 := M.e1.lt
      have l2 := M.e2.lt
      have hz := M.b.size
      have HB := Lib.hid M.b
      have hr := h.below M.b hB
      have hSRa : ∀ o', AfR w.heap.size G1 G2 (k : Int) f s (W.alloc o').drew := fun o' => AfR.alloc hSR l0 l1 l2 o'
      have hSRaa : ∀ o' o2, AfR w.heap.size G1 G2 (k : Int) f s ((W.alloc o').alloc o2).drew := fun o' o2 => AfR.alloc (hSRa o') (by simp; omega) (by simp; omega) (by simp; omega) o2
      have e1 : IntKind.i64.wrap ((k : Int) + 1) = (k : Int) + 1 := IntWalk.i64_in _ (by omega)
      have e2 : (0 : Int) ≤ (k : Int) + 1 := by omega
      have e3 : (k : Int) + 1 ≤ (n : Int) := by omega
      have e4 : ((k : Int) + 1).toNat = k + 1 := by omega
      have hkc : k ≤ c := by omega
      have hkci : (k : Int) ≤ (c : Int) := by omega
      have HR : ∀ V, Below W.heap.size W V → RdS Pc.S V B (some ⟨b, o, none⟩) n l := fun V hV => hr.below hV (by omega)
      have HR1 : ∀ V, Below W.heap.size W V → RdS Pc.S V B (some ⟨b, o, none⟩) k (l.take k) := fun V hV => by
        have := (HR V hV).part (i := 0) (m := k) (by omega)
        rw [Nat.zero_mul, Nat.add_zero, List.drop_zero] at this
        exact this
      have hV1 : ∀ o', Below W.heap.size W (W.alloc o').drew := fun o' => below_drewN' (below_new9 W o') 1
      have hV2 : ∀ o' o2, Below W.heap.size W ((W.alloc o').alloc o2).drew := fun o' o2 => (hV1 o').alloc (by simp) o2
      have H0a : OwnS Pc.S (W.alloc (.cells #[] 25)).drew W.heap.size (W.heap.size + 1) (.slice (some ⟨W.heap.size, 0, none⟩) 0 0) [] := OwnS.lit0 Pc.S W
      have H0b : OwnS Pc.S ((W.alloc (.cells #[] 25)).alloc (.cells #[.int .i64 f.w, .int .i64 f.h, .int .i64 s.w, .int .i64 s.h] 25)).drew W.heap.size (W.heap.size + 1) (.slice (some ⟨W.heap.size, 0, none⟩) 0 0) [] := OwnS.alloc H0a _
      have H0c : OwnS Pc.S ((W.alloc (.cells #[.int .i64 f.w, .int .i64 f.h, .int .i64 s.w, .int .i64 s.h] 25)).alloc (.cells #[] 25)).drew (W.heap.size + 1) (W.heap.size + 1 + 1) (.slice (some ⟨W.heap.size + 1, 0, none⟩) 0 0) [] := by
        have := OwnS.lit0 Pc.S (W.alloc (.cells #[.int .i64 f.w, .int .i64 f.h, .int .i64 s.w, .int .i64 s.h] 25))
        rw [show (W.alloc (.cells #[.int .i64 f.w, .int .i64 f.h, .int .i64 s.w, .int .i64 s.h] 25)).heap.size = W.heap.size + 1 by simp] at this
        exact this
      have K2b : Blk ((W.alloc (.cells #[] 25)).alloc (.cells #[.int .i64 f.w, .int .i64 f.h, .int .i64 s.w, .int .i64 s.h] 25)).drew (W.heap.size + 1) #[.int .i64 f.w, .int .i64 f.h, .int .i64 s.w, .int .i64 s.h] 25 := Blk.new _ _ (by simp)
      have K2c : Blk ((W.alloc (.cells #[.int .i64 f.w, .int .i64 f.h, .int .i64 s.w, .int .i64 s.h] 25)).alloc (.cells #[] 25)).drew W.heap.size #[.int .i64 f.w, .int .i64 f.h, .int .i64 s.w, .int .i64 s.h] 25 := Blk.alloc (Blk.new _ _ rfl) _
      have hs1 : ∀ o', (W.alloc o').drew.heap.size = W.heap.size + 1 := fun o' => by simp
      have hs2 : ∀ o' o2, ((W.alloc o').alloc o2).drew.heap.size = W.heap.size + 1 + 1 := fun o' o2 => by simp
      clear M
      by_cases hck : c = k + 1
      · obtain rfl : n = k + 1 := by omega
        subst hck
        have e5 : (k : Int) ≤ (k : Int) + 1 := by omega
        have HR2 : ∀ V, Below W.heap.size W V → RdS Pc.S V B (some ⟨b, o, none⟩) 0 (l.drop (k + 1)) := fun V hV => by
          rw [List.drop_of_length_le (by omega)]
          exact ⟨rfl, fun h => by omega⟩
        go_wp2_with fail
        rename_i K4 hK4
        go_region_held3 (fun V => AfR w.heap.size G1 G2 (k : Int) f s V)
          (first | with_reducible exact hSR | with_reducible exact hSRa _ | with_reducible exact hSRaa _ _ | with_reducible exact hS6 | with_reducible exact hS6a _ | with_reducible exact hS7 | with_reducible exact hS8)
          (first
            | ((with_reducible refine atW (W.alloc (.cells #[] 25)).drew ?_); refine step_spreadPcN (W.alloc (.cells #[] 25)).drew rfl (.tmp 41) (.tmp 45) 37 rfl Tryz.underlying37 (some ⟨W.heap.size, 0, none⟩) 0 0 [] (W.heap.size) (W.heap.size + 1) (by rfl) H0a (some ⟨b, o, none⟩) k (k + 1) B (l.take k) (by rfl) (HR1 _ (hV1 _)) k (l.take k) (by omega) (by simp) (by omega) (by have := hs1 (.cells #[] 25); omega) ?_; intro A6 c6 w6 ho6 hm6; have hB6 : Below W.heap.size W w6 := (hV1 _).trans (hm6.below (B := W.heap.size) (by omega) (by have := hs1 (.cells #[] 25); omega)); have z6 : W.heap.size + 1 ≤ w6.heap.size := (by have z_ := hm6.size; have zz_ := hs1 (.cells #[] 25); omega); have hS6 : AfR w.heap.size G1 G2 (k : Int) f s w6 := AfR.below (hSRa _) (hm6.below (B := W.heap.size) (by omega) (by have := hs1 (.cells #[] 25); omega)) (by omega) (by omega) (by omega); have hS6a : ∀ o', AfR w.heap.size G1 G2 (k : Int) f s (w6.alloc o') := (fun o' => AfR.alloc hS6 (by omega) (by omega) (by omega) o'))
            | ((with_reducible refine atW ((W.alloc (.cells #[] 25)).alloc (.cells #[.int .i64 f.w, .int .i64 f.h, .int .i64 s.w, .int .i64 s.h] 25)).drew ?_); refine step_spreadPcN ((W.alloc (.cells #[] 25)).alloc (.cells #[.int .i64 f.w, .int .i64 f.h, .int .i64 s.w, .int .i64 s.h] 25)).drew rfl (.tmp 41) (.tmp 45) 37 rfl Tryz.underlying37 (some ⟨W.heap.size, 0, none⟩) 0 0 [] (W.heap.size) (W.heap.size + 1) (by rfl) H0b (some ⟨b, o, none⟩) k (k + 1) B (l.take k) (by rfl) (HR1 _ (hV2 _ _)) k (l.take k) (by omega) (by simp) (by omega) (by have := hs2 (.cells #[] 25) (.cells #[.int .i64 f.w, .int .i64 f.h, .int .i64 s.w, .int .i64 s.h] 25); omega) ?_; intro A6 c6 w6 ho6 hm6; have hB6 : Below W.heap.size W w6 := (hV2 _ _).trans (hm6.below (B := W.heap.size) (by omega) (by have := hs2 (.cells #[] 25) (.cells #[.int .i64 f.w, .int .i64 f.h, .int .i64 s.w, .int .i64 s.h] 25); omega)); have z6 : W.heap.size + 1 ≤ w6.heap.size := (by have z_ := hm6.size; have zz_ := hs2 (.cells #[] 25) (.cells #[.int .i64 f.w, .int .i64 f.h, .int .i64 s.w, .int .i64 s.h] 25); omega); have HK6 := RdS.blk2 (K2b.only hm6 (by first | (left; omega) | (right; omega))); have hS6 : AfR w.heap.size G1 G2 (k : Int) f s w6 := AfR.below (hSRaa _ _) (hm6.below (B := W.heap.size) (by omega) (by have := hs2 (.cells #[] 25) (.cells #[.int .i64 f.w, .int .i64 f.h, .int .i64 s.w, .int .i64 s.h] 25); omega)) (by omega) (by omega) (by omega); have hS6a : ∀ o', AfR w.heap.size G1 G2 (k : Int) f s (w6.alloc o') := (fun o' => AfR.alloc hS6 (by omega) (by omega) (by omega) o'))
            | ((with_reducible refine atW ((W.alloc (.cells #[.int .i64 f.w, .int .i64 f.h, .int .i64 s.w, .int .i64 s.h] 25)).alloc (.cells #[] 25)).drew ?_); refine step_spreadPcN ((W.alloc (.cells #[.int .i64 f.w, .int .i64 f.h, .int .i64 s.w, .int .i64 s.h] 25)).alloc (.cells #[] 25)).drew rfl (.tmp 41) (.tmp 45) 37 rfl Tryz.underlying37 (some ⟨W.heap.size + 1, 0, none⟩) 0 0 [] (W.heap.size + 1) (W.heap.size + 1 + 1) (by rfl) H0c (some ⟨b, o, none⟩) k (k + 1) B (l.take k) (by rfl) (HR1 _ (hV2 _ _)) k (l.take k) (by omega) (by simp) (by omega) (by have := hs2 (.cells #[.int .i64 f.w, .int .i64 f.h, .int .i64 s.w, .int .i64 s.h] 25) (.cells #[] 25); omega) ?_; intro A6 c6 w6 ho6 hm6; have hB6 : Below W.heap.size W w6 := (hV2 _ _).trans (hm6.below (B := W.heap.size) (by omega) (by have := hs2 (.cells #[.int .i64 f.w, .int .i64 f.h, .int .i64 s.w, .int .i64 s.h] 25) (.cells #[] 25); omega)); have z6 : W.heap.size + 1 ≤ w6.heap.size := (by have z_ := hm6.size; have zz_ := hs2 (.cells #[.int .i64 f.w, .int .i64 f.h, .int .i64 s.w, .int .i64 s.h] 25) (.cells #[] 25); omega); have HK6 := RdS.blk2 (K2c.only hm6 (by first | (left; omega) | (right; omega))); have hS6 : AfR w.heap.size G1 G2 (k : Int) f s w6 := AfR.below (hSRaa _ _) (hm6.below (B := W.heap.size) (by omega) (by have := hs2 (.cells #[.int .i64 f.w, .int .i64 f.h, .int .i64 s.w, .int .i64 s.h] 25) (.cells #[] 25); omega)) (by omega) (by omega) (by omega); have hS6a : ∀ o', AfR w.heap.size G1 G2 (k : Int) f s (w6.alloc o') := (fun o' => AfR.alloc hS6 (by omega) (by omega) (by omega) o'))
            | ((with_reducible refine atW (w6.alloc (.cells #[.int .i64 f.w, .int .i64 f.h, .int .i64 s.w, .int .i64 s.h] 25)) ?_); refine step_spreadPcN (w6.alloc (.cells #[.int .i64 f.w, .int .i64 f.h, .int .i64 s.w, .int .i64 s.h] 25)) rfl (.tmp 46) (.tmp 49) 37 rfl Tryz.underlying37 A6 k c6 (l.take k) _ _ (by rfl) (ho6.alloc _) (some ⟨w6.heap.size, 0, none⟩) 2 2 (w6.heap.size + 1) [f, s] (by rfl) (RdS.blk2 (Blk.new _ _ rfl)) (k + 2) (l.take k ++ [f, s]) rfl rfl (by omega) (by simp; omega) ?_; intro A7 c7 w7 ho7 hm7; have hB7 : Below W.heap.size W w7 := (hB6.alloc (by omega) _).trans (hm7.below (B := W.heap.size) (by omega) (by first | omega | (simp; omega))); have z7 : W.heap.size + 1 ≤ w7.heap.size := (by have z_ := hm7.size; first | omega | (simp at z_; omega)); have hr7 := HR2 w7 hB7; have hS7 : AfR w.heap.size G1 G2 (k : Int) f s w7 := AfR.below (hS6a _) (hm7.below (B := W.heap.size) (by omega) (by first | omega | (simp; omega))) (by omega) (by omega) (by omega))
            | ((with_reducible refine atW w6 ?_); have g_ : RdS Pc.S w6 (W.heap.size + 1 + 1) (some ⟨W.heap.size + 1, 0, none⟩) 2 [f, s] := (by with_reducible assumption); refine step_spreadPcN w6 rfl (.tmp 46) (.tmp 49) 37 rfl Tryz.underlying37 A6 k c6 (l.take k) _ _ (by rfl) ho6 (some ⟨W.heap.size + 1, 0, none⟩) 2 2 (W.heap.size + 1 + 1) [f, s] (by rfl) HK6 (k + 2) (l.take k ++ [f, s]) rfl rfl (by omega) (by omega) ?_; intro A7 c7 w7 ho7 hm7; have hB7 : Below W.heap.size W w7 := hB6.trans (hm7.below (B := W.heap.size) (by omega) (by first | omega | (simp; omega))); have z7 : W.heap.size + 1 ≤ w7.heap.size := (by have z_ := hm7.size; first | omega | (simp at z_; omega)); have hr7 := HR2 w7 hB7; have hS7 : AfR w.heap.size G1 G2 (k : Int) f s w7 := AfR.below hS6 (hm7.below (B := W.heap.size) (by omega) (by first | omega | (simp; omega))) (by omega) (by omega) (by omega))
            | ((with_reducible refine atW w6 ?_); have g_ : RdS Pc.S w6 (W.heap.size + 1) (some ⟨W.heap.size, 0, none⟩) 2 [f, s] := (by with_reducible assumption); refine step_spreadPcN w6 rfl (.tmp 46) (.tmp 49) 37 rfl Tryz.underlying37 A6 k c6 (l.take k) _ _ (by rfl) ho6 (some ⟨W.heap.size, 0, none⟩) 2 2 (W.heap.size + 1) [f, s] (by rfl) HK6 (k + 2) (l.take k ++ [f, s]) rfl rfl (by omega) (by omega) ?_; intro A7 c7 w7 ho7 hm7; have hB7 : Below W.heap.size W w7 := hB6.trans (hm7.below (B := W.heap.size) (by omega) (by first | omega | (simp; omega))); have z7 : W.heap.size + 1 ≤ w7.heap.size := (by have z_ := hm7.size; first | omega | (simp at z_; omega)); have hr7 := HR2 w7 hB7; have hS7 : AfR w.heap.size G1 G2 (k : Int) f s w7 := AfR.below hS6 (hm7.below (B := W.heap.size) (by omega) (by first | omega | (simp; omega))) (by omega) (by omega) (by omega))
            | ((with_reducible refine atW w7 ?_); refine step_spreadPcN w7 rfl (.tmp 50) (.tmp 55) 37 rfl Tryz.underlying37 A7 (k + 2) c7 (l.take k ++ [f, s]) _ _ (by rfl) ho7 (some ⟨b, o, none⟩) 0 0 B (l.drop (k + 1)) (by rfl) hr7 ((k + 1) + 1) _ (by omega) rfl (by omega) (by omega) ?_; intro A8 c8 w8 ho8 hm8; have hB8 : Below W.heap.size W w8 := hB7.trans (hm8.below (B := W.heap.size) (by omega) (by omega)); have hS8 : AfR w.heap.size G1 G2 (k : Int) f s w8 := AfR.below hS7 (hm8.below (B := W.heap.size) (by omega) (by omega)) (by omega) (by omega) (by omega)))
        all_goals
          apply hK4
          clear hK4
          have HF := Lib.hid ho8
          have HBF := Lib.hid (HB.out.trans (hB8.mono (by omega)))
          clear hS6 hS7 hS8 hSR hSRa hSRaa HR HR1 HR2 hr7 ho6 ho7 ho8 hm6 hm7 hm8 hB6 hB7 hB8 H0a H0b H0c K2b K2c hV1 hV2
          go_wp2_with fail
          go_ret
          refine ⟨A8, c8, rfl, ?_, HBF.out⟩
          rw [HCU.out]
          exact HF.out.mono (by omega) (Nat.le_refl _)
      · have HR2 : ∀ V, Below W.heap.size W V → RdS Pc.S V B (some ⟨b, o + (k + 1) * 2, none⟩) (n - (k + 1)) (l.drop (k + 1)) := fun V hV => by
          have := (HR V hV).part (i := k + 1) (m := n - (k + 1)) (by omega)
          rwa [List.take_of_length_le (by simp; omega)] at this
        go_wp2_with fail
        rename_i K4 hK4
        go_region_held3 (fun V => AfR w.heap.size G1 G2 (k : Int) f s V)
          (first | with_reducible exact hSR | with_reducible exact hSRa _ | with_reducible exact hSRaa _ _ | with_reducible exact hS6 | with_reducible exact hS6a _ | with_reducible exact hS7 | with_reducible exact hS8)
          (first
            | ((with_reducible refine atW (W.alloc (.cells #[] 25)).drew ?_); refine step_spreadPcN (W.alloc (.cells #[] 25)).drew rfl (.tmp 41) (.tmp 45) 37 rfl Tryz.underlying37 (some ⟨W.heap.size, 0, none⟩) 0 0 [] (W.heap.size) (W.heap.size + 1) (by rfl) H0a (some ⟨b, o, none⟩) k (c) B (l.take k) (by rfl) (HR1 _ (hV1 _)) k (l.take k) (by omega) (by simp) (by omega) (by have := hs1 (.cells #[] 25); omega) ?_; intro A6 c6 w6 ho6 hm6; have hB6 : Below W.heap.size W w6 := (hV1 _).trans (hm6.below (B := W.heap.size) (by omega) (by have := hs1 (.cells #[] 25); omega)); have z6 : W.heap.size + 1 ≤ w6.heap.size := (by have z_ := hm6.size; have zz_ := hs1 (.cells #[] 25); omega); have hS6 : AfR w.heap.size G1 G2 (k : Int) f s w6 := AfR.below (hSRa _) (hm6.below (B := W.heap.size) (by omega) (by have := hs1 (.cells #[] 25); omega)) (by omega) (by omega) (by omega); have hS6a : ∀ o', AfR w.heap.size G1 G2 (k : Int) f s (w6.alloc o') := (fun o' => AfR.alloc hS6 (by omega) (by omega) (by omega) o'))
            | ((with_reducible refine atW ((W.alloc (.cells #[] 25)).alloc (.cells #[.int .i64 f.w, .int .i64 f.h, .int .i64 s.w, .int .i64 s.h] 25)).drew ?_); refine step_spreadPcN ((W.alloc (.cells #[] 25)).alloc (.cells #[.int .i64 f.w, .int .i64 f.h, .int .i64 s.w, .int .i64 s.h] 25)).drew rfl (.tmp 41) (.tmp 45) 37 rfl Tryz.underlying37 (some ⟨W.heap.size, 0, none⟩) 0 0 [] (W.heap.size) (W.heap.size + 1) (by rfl) H0b (some ⟨b, o, none⟩) k (c) B (l.take k) (by rfl) (HR1 _ (hV2 _ _)) k (l.take k) (by omega) (by simp) (by omega) (by have := hs2 (.cells #[] 25) (.cells #[.int .i64 f.w, .int .i64 f.h, .int .i64 s.w, .int .i64 s.h] 25); omega) ?_; intro A6 c6 w6 ho6 hm6; have hB6 : Below W.heap.size W w6 := (hV2 _ _).trans (hm6.below (B := W.heap.size) (by omega) (by have := hs2 (.cells #[] 25) (.cells #[.int .i64 f.w, .int .i64 f.h, .int .i64 s.w, .int .i64 s.h] 25); omega)); have z6 : W.heap.size + 1 ≤ w6.heap.size := (by have z_ := hm6.size; have zz_ := hs2 (.cells #[] 25) (.cells #[.int .i64 f.w, .int .i64 f.h, .int .i64 s.w, .int .i64 s.h] 25); omega); have HK6 := RdS.blk2 (K2b.only hm6 (by first | (left; omega) | (right; omega))); have hS6 : AfR w.heap.size G1 G2 (k : Int) f s w6 := AfR.below (hSRaa _ _) (hm6.below (B := W.heap.size) (by omega) (by have := hs2 (.cells #[] 25) (.cells #[.int .i64 f.w, .int .i64 f.h, .int .i64 s.w, .int .i64 s.h] 25); omega)) (by omega) (by omega) (by omega); have hS6a : ∀ o', AfR w.heap.size G1 G2 (k : Int) f s (w6.alloc o') := (fun o' => AfR.alloc hS6 (by omega) (by omega) (by omega) o'))
            | ((with_reducible refine atW ((W.alloc (.cells #[.int .i64 f.w, .int .i64 f.h, .int .i64 s.w, .int .i64 s.h] 25)).alloc (.cells #[] 25)).drew ?_); refine step_spreadPcN ((W.alloc (.cells #[.int .i64 f.w, .int .i64 f.h, .int .i64 s.w, .int .i64 s.h] 25)).alloc (.cells #[] 25)).drew rfl (.tmp 41) (.tmp 45) 37 rfl Tryz.underlying37 (some ⟨W.heap.size + 1, 0, none⟩) 0 0 [] (W.heap.size + 1) (W.heap.size + 1 + 1) (by rfl) H0c (some ⟨b, o, none⟩) k (c) B (l.take k) (by rfl) (HR1 _ (hV2 _ _)) k (l.take k) (by omega) (by simp) (by omega) (by have := hs2 (.cells #[.int .i64 f.w, .int .i64 f.h, .int .i64 s.w, .int .i64 s.h] 25) (.cells #[] 25); omega) ?_; intro A6 c6 w6 ho6 hm6; have hB6 : Below W.heap.size W w6 := (hV2 _ _).trans (hm6.below (B := W.heap.size) (by omega) (by have := hs2 (.cells #[.int .i64 f.w, .int .i64 f.h, .int .i64 s.w, .int .i64 s.h] 25) (.cells #[] 25); omega)); have z6 : W.heap.size + 1 ≤ w6.heap.size := (by have z_ := hm6.size; have zz_ := hs2 (.cells #[.int .i64 f.w, .int .i64 f.h, .int .i64 s.w, .int .i64 s.h] 25) (.cells #[] 25); omega); have HK6 := RdS.blk2 (K2c.only hm6 (by first | (left; omega) | (right; omega))); have hS6 : AfR w.heap.size G1 G2 (k : Int) f s w6 := AfR.below (hSRaa _ _) (hm6.below (B := W.heap.size) (by omega) (by have := hs2 (.cells #[.int .i64 f.w, .int .i64 f.h, .int .i64 s.w, .int .i64 s.h] 25) (.cells #[] 25); omega)) (by omega) (by omega) (by omega); have hS6a : ∀ o', AfR w.heap.size G1 G2 (k : Int) f s (w6.alloc o') := (fun o' => AfR.alloc hS6 (by omega) (by omega) (by omega) o'))
            | ((with_reducible refine atW (w6.alloc (.cells #[.int .i64 f.w, .int .i64 f.h, .int .i64 s.w, .int .i64 s.h] 25)) ?_); refine step_spreadPcN (w6.alloc (.cells #[.int .i64 f.w, .int .i64 f.h, .int .i64 s.w, .int .i64 s.h] 25)) rfl (.tmp 46) (.tmp 49) 37 rfl Tryz.underlying37 A6 k c6 (l.take k) _ _ (by rfl) (ho6.alloc _) (some ⟨w6.heap.size, 0, none⟩) 2 2 (w6.heap.size + 1) [f, s] (by rfl) (RdS.blk2 (Blk.new _ _ rfl)) (k + 2) (l.take k ++ [f, s]) rfl rfl (by omega) (by simp; omega) ?_; intro A7 c7 w7 ho7 hm7; have hB7 : Below W.heap.size W w7 := (hB6.alloc (by omega) _).trans (hm7.below (B := W.heap.size) (by omega) (by first | omega | (simp; omega))); have z7 : W.heap.size + 1 ≤ w7.heap.size := (by have z_ := hm7.size; first | omega | (simp at z_; omega)); have hr7 := HR2 w7 hB7; have hS7 : AfR w.heap.size G1 G2 (k : Int) f s w7 := AfR.below (hS6a _) (hm7.below (B := W.heap.size) (by omega) (by first | omega | (simp; omega))) (by omega) (by omega) (by omega))
            | ((with_reducible refine atW w6 ?_); have g_ : RdS Pc.S w6 (W.heap.size + 1 + 1) (some ⟨W.heap.size + 1, 0, none⟩) 2 [f, s] := (by with_reducible assumption); refine step_spreadPcN w6 rfl (.tmp 46) (.tmp 49) 37 rfl Tryz.underlying37 A6 k c6 (l.take k) _ _ (by rfl) ho6 (some ⟨W.heap.size + 1, 0, none⟩) 2 2 (W.heap.size + 1 + 1) [f, s] (by rfl) HK6 (k + 2) (l.take k ++ [f, s]) rfl rfl (by omega) (by omega) ?_; intro A7 c7 w7 ho7 hm7; have hB7 : Below W.heap.size W w7 := hB6.trans (hm7.below (B := W.heap.size) (by omega) (by first | omega | (simp; omega))); have z7 : W.heap.size + 1 ≤ w7.heap.size := (by have z_ := hm7.size; first | omega | (simp at z_; omega)); have hr7 := HR2 w7 hB7; have hS7 : AfR w.heap.size G1 G2 (k : Int) f s w7 := AfR.below hS6 (hm7.below (B := W.heap.size) (by omega) (by first | omega | (simp; omega))) (by omega) (by omega) (by omega))
            | ((with_reducible refine atW w6 ?_); have g_ : RdS Pc.S w6 (W.heap.size + 1) (some ⟨W.heap.size, 0, none⟩) 2 [f, s] := (by with_reducible assumption); refine step_spreadPcN w6 rfl (.tmp 46) (.tmp 49) 37 rfl Tryz.underlying37 A6 k c6 (l.take k) _ _ (by rfl) ho6 (some ⟨W.heap.size, 0, none⟩) 2 2 (W.heap.size + 1) [f, s] (by rfl) HK6 (k + 2) (l.take k ++ [f, s]) rfl rfl (by omega) (by omega) ?_; intro A7 c7 w7 ho7 hm7; have hB7 : Below W.heap.size W w7 := hB6.trans (hm7.below (B := W.heap.size) (by omega) (by first | omega | (simp; omega))); have z7 : W.heap.size + 1 ≤ w7.heap.size := (by have z_ := hm7.size; first | omega | (simp at z_; omega)); have hr7 := HR2 w7 hB7; have hS7 : AfR w.heap.size G1 G2 (k : Int) f s w7 := AfR.below hS6 (hm7.below (B := W.heap.size) (by omega) (by first | omega | (simp; omega))) (by omega) (by omega) (by omega))
            | ((with_reducible refine atW w7 ?_); refine step_spreadPcN w7 rfl (.tmp 50) (.tmp 55) 37 rfl Tryz.underlying37 A7 (k + 2) c7 (l.take k ++ [f, s]) _ _ (by rfl) ho7 (some ⟨b, o + (k + 1) * 2, none⟩) (n - (k + 1)) (c - (k + 1)) B (l.drop (k + 1)) (by rfl) hr7 (n + 1) _ (by omega) rfl (by omega) (by omega) ?_; intro A8 c8 w8 ho8 hm8; have hB8 : Below W.heap.size W w8 := hB7.trans (hm8.below (B := W.heap.size) (by omega) (by omega)); have hS8 : AfR w.heap.size G1 G2 (k : Int) f s w8 := AfR.below hS7 (hm8.below (B := W.heap.size) (by omega) (by omega)) (by omega) (by omega) (by omega)))
        all_goals
          apply hK4
          clear hK4
          have HF := Lib.hid ho8
          have HBF := Lib.hid (HB.out.trans (hB8.mono (by omega)))
          clear hS6 hS7 hS8 hSR hSRa hSRaa HR HR1 HR2 hr7 ho6 ho7 ho8 hm6 hm7 hm8 hB6 hB7 hB8 H0a H0b H0c K2b K2c hV1 hV2
          go_wp2_with fail
          go_ret
          refine ⟨A8, c8, rfl, ?_, HBF.out⟩
          rw [HCU.out]
          exact HF.out.mono (by omega) (Nat.le_refl _)
    clear hK3
    go_region_held3 (fun V => LcS w (k : Int) true t x V)
      (first | with_reducible exact hS0 | (focus ((repeat' (first | with_reducible exact hS00 | (with_reducible refine LcS.drew ?_) | (with_reducible refine LcS.set ?_ _ _ _ ?_ ?_) | omega | (simp; omega))); done)))
      (first
        | fail)
    all_goals
      exact hP4 _ ⟨Blk.drew9 (Blk.other9 (Blk.other9 (Blk.other9 (Blk.other9 M0.out.c (by omega)) (by omega)) (by omega)) (by omega)), Blk.drew9 (Blk.other9 (Blk.other9 (Blk.other9 (Blk.other9 M0.out.p (by omega)) (by omega)) (by omega)) (by omega)), Blk.drew9 (Blk.other9 (Blk.other9 (Blk.two9 M0.out.e1) n1) n1), Blk.drew9 (Blk.two9 (Blk.other9 (Blk.other9 M0.out.e2 n2) n2)), by omega, by omega, n1, below_drew9 (below_set9' (below_set9' (below_set9' (below_set9' M0.out.b (by omega)) (by omega)) (by omega)) (by omega))⟩
  clear hK0
  go_region_held3 (fun V => LcS w (k : Int) true t x V)
    (first | with_reducible exact hS0 | with_reducible exact hS1 _ | with_reducible exact hS2 _ _)
    (first
      | fail)
  all_goals
    refine hP _ _ _ ⟨?_, ?_, ?_, ?_, ?_, ?_, ?_, ?_⟩ <;> (focus ((repeat' (first | with_reducible assumption | exact Blk.alloc (Blk.alloc bc _) _ | exact Blk.alloc (Blk.alloc bp _) _ | exact Blk.new _ _ (by simp) | exact Blk.alloc (Blk.new _ _ (by simp)) _ | exact (hb0.alloc (by simp; omega) _).alloc (by simp; omega) _ | omega | (simp; omega))); done))
end Go.Proofs.YtbhofhobnbhhhaaGreatDoor
