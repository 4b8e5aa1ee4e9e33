/- The program's contract of FoldedSize. -/
import Derived.Test.YtnfnmdeiaihgnaaSxSe
import Derived.Test.YtnfnmdeiaihgnaaSuFz
namespace Go.Proofs.Ytnfnmdeiaihgnaa
open Go.RowKit
set_option linter.unusedVariables false

namespace Su
theorem suT_at {w h : Int} {c : Pc} {s : List UInt8} {j : Nat} {x : UInt8} (hx : s[j]? = some x) : ∀ {k : Nat}, j < k → (suT w h c s k)[j]? = some (unit (sz w h c s j) x)
  | k + 1, hj => by
    show (suT w h c s k ++ [unit (sz w h c s k) (s.getD k 0)])[j]? = _
    by_cases e : j = k
    · subst e
      rw [List.getElem?_append_right (by rw [suT_len]; omega), suT_len, Nat.sub_self, List.getD_eq_getElem?_getD, hx]
      rfl
    · rw [List.getElem?_append_left (by rw [suT_len]; omega)]
      exact suT_at hx (by omega)
end Su
set_option maxRecDepth 100000 in
set_option maxHeartbeats 8000000 in
theorem implFz_any (a b : Int) (c : Pc) (s : ByteArray) (k : Int) (R : Pc) (C : Int) (w : World) (hs : s.size ≤ 1048577) (b3 : Su.i64 k) (hR : Su.fzR a b c s.data.toList k = R) (hC : Su.fzC a b c s.data.toList k = C) :
    Calls Try.prog 17 #[.int .i64 a, .int .i64 b, c.agg, .string s, .int .i64 k] w fun e w' => e = .returned (.tuple #[R.agg, .int .i64 C]) ∧ Below w.heap.size w w' := by
  obtain ⟨D, hD⟩ : ∃ D, Su.code a b c s.data.toList = D := ⟨_, rfl⟩
  obtain ⟨L, hL⟩ : ∃ L, Su.suR a b c s.data.toList = L := ⟨_, rfl⟩
  have hse := fun W => implSe_any a b c s L D W hs hL hD
  have HW : Below w.heap.size w ((w.alloc (.cells #[.int .i64 c.w, .int .i64 c.h] 25)).alloc (.cells #[.int .i64 0, .int .i64 0] 25)) := (below_new9 w _).alloc (by simp) _
  have HK : Blk ((w.alloc (.cells #[.int .i64 c.w, .int .i64 c.h] 25)).alloc (.cells #[.int .i64 0, .int .i64 0] 25)) w.heap.size #[.int .i64 c.w, .int .i64 c.h] 25 := (Blk.new _ _ rfl).alloc _
  have HR : Blk ((w.alloc (.cells #[.int .i64 c.w, .int .i64 c.h] 25)).alloc (.cells #[.int .i64 0, .int .i64 0] 25)) (w.heap.size + 1) #[.int .i64 0, .int .i64 0] 25 := Blk.new _ _ (by simp)
  have HZ : ((w.alloc (.cells #[.int .i64 c.w, .int .i64 c.h] 25)).alloc (.cells #[.int .i64 0, .int .i64 0] 25)).heap.size = w.heap.size + 2 := by simp
  have HW := Lib.hid HW
  have HK := Lib.hid HK
  have HR := Lib.hid HR
  have HZ := Lib.hid HZ
  unfold Su.fzC at hC
  rw [hD] at hC
  unfold Su.fzR Su.fzC at hR
  rw [hD] at hR
  have HHC := Lib.hid hC
  have HHR := Lib.hid hR
  have HHD := Lib.hid hD
  have HHL := Lib.hid hL
  clear hC hR hD hL
  go_enter Try.func17, Try.ntmps17
  go_wp2_with fail
  refine (hse _).mono ?_
  rintro e w1 ⟨A, n, cp, rfl, ho, hn, hncp, hb1⟩
  have hb0 := HW.out.trans (hb1.mono HW.out.size)
  have b0 := HK.out.below hb1 HK.out.lt
  have b1 := HR.out.below hb1 HR.out.lt
  have hz1 : w.heap.size + 2 ≤ w1.heap.size := by have := hb1.size; have := HZ.out; omega
  have hrd := ho.rd
  have HLn := Lib.hid hrd.1
  clear hb1 hse ho
  have HB := Lib.hid hb0
  have HB0 := Lib.hid b0
  have HB1 := Lib.hid b1
  have c0 := b0.cell 0 (v := .int .i64 c.w) rfl
  have c1 := b0.cell 1 (v := .int .i64 c.h) rfl
  have r0 := b1.cell 0 (v := .int .i64 0) rfl
  have r1 := b1.cell 1 (v := .int .i64 0) rfl
  have f0 := b1.free 0
  have f1 := b1.free 1
  have HN : Hid (Below w.heap.size w ((w1.setCell ⟨w.heap.size + 1, 0, none⟩ (.int .i64 0)).setCell ⟨w.heap.size + 1, 1, none⟩ (.int .i64 0))) := Lib.hid (below_set9 (below_set9 hb0 (show _ ≤ w.heap.size + 1 by omega)) (show _ ≤ w.heap.size + 1 by omega))
  have HZZ : Hid (Blk ((w1.setCell ⟨w.heap.size + 1, 0, none⟩ (.int .i64 0)).setCell ⟨w.heap.size + 1, 1, none⟩ (.int .i64 0)) (w.heap.size + 1) #[.int .i64 0, .int .i64 0] 25) := Lib.hid (Blk.set (Blk.set b1 0 (.int .i64 0)) 1 (.int .i64 0))
  clear hb0 b0 b1 HW HK HR
  by_cases hD0 : D = 0
  · subst hD0
    have HT : Hid (L = Su.suT a b c s.data.toList s.size) := Lib.hid (by rw [← HHL.out]; unfold Su.suR; rw [if_pos HHD.out, Array.length_toList]; rfl)
    have hns : n = s.size := by rw [← HLn.out, HT.out, Su.suT_len]
    by_cases hk : 0 ≤ k ∧ k ≤ (s.size : Int)
    · obtain ⟨m, rfl⟩ : ∃ m : Nat, k = (m : Int) := ⟨k.toNat, by omega⟩
      obtain ⟨hok, hsch⟩ := Su.code0 HHD.out
      obtain ⟨ha, hb, hs6, hlet⟩ := Su.scheme_facts hsch
      have HSM := fun k => Su.sz_small ha hb hok s.data.toList k
      have hki : 0 ≤ (m : Int) ∧ (m : Int) ≤ (s.data.toList.length : Int) := by rw [Array.length_toList]; exact hk
      have HC : Hid (0 = C) := Lib.hid (by rw [← HHC.out, if_pos rfl, if_pos hki])
      have HRR : Hid (Su.sz a b c s.data.toList m = R) := Lib.hid (by rw [← HHR.out, if_pos rfl, if_pos hki, if_pos rfl]; rfl)
      obtain ⟨q0, hq0⟩ : ∃ q, Su.sz a b c s.data.toList 0 = q := ⟨_, rfl⟩
      have hfl := fun W => flatSheet_any a b c q0 W ha hb hok (by rw [← hq0, Su.sz_zero])
      have HQ0 := Lib.hid hq0
      have hmn : m ≤ n := by omega
      have hmc : m ≤ cp := by omega
      have g0 : ((m : Int) < 0) = False := eq_false (by omega)
      have g1 : ((n : Int) < (m : Int)) = False := eq_false (by omega)
      have HNS := Lib.hid hns
      clear hok hsch ha hb hs6 hlet hki hk HHC HHR HHD HHL hq0 hns b3
      have hA : A = none → n = 0 := fun e => by
        rcases Nat.eq_zero_or_pos n with h0 | h0
        · exact h0
        · obtain ⟨b', o', e', _⟩ := hrd.2 h0
          rw [e] at e'
          cases e'
      go_wp2_with fail
      refine (hfl _).mono ?_
      rintro e w2 ⟨rfl, hb2⟩
      have hb3 := HB.out.trans (hb2.mono HB.out.size)
      have b3 := HB1.out.below hb2 HB1.out.lt
      have r3 := hrd.below hb2 (Nat.le_refl _)
      have z2 := hb2.size
      have k4 := Blk.new (w := w2) (g := w2.heap.size) #[.int .i64 q0.w, .int .i64 q0.h] 25 rfl
      have hb4 := (Below.refl w2.heap.size w2).alloc (Nat.le_refl _) (.cells #[.int .i64 q0.w, .int .i64 q0.h] 25)
      have b5 := b3.below hb4 (by omega)
      have r5 := r3.below hb4 (by omega)
      have hb5 := hb3.trans (hb4.mono (by omega))
      have z5 : (w2.alloc (.cells #[.int .i64 q0.w, .int .i64 q0.h] 25)).heap.size = w2.heap.size + 1 := by simp
      have HI : Hid (Blk (w2.alloc (.cells #[.int .i64 q0.w, .int .i64 q0.h] 25)) w2.heap.size #[.int .i64 q0.w, .int .i64 q0.h] 25 ∧ Blk (w2.alloc (.cells #[.int .i64 q0.w, .int .i64 q0.h] 25)) (w.heap.size + 1) #[.int .i64 0, .int .i64 0] 25 ∧ RdS Un.S (w2.alloc (.cells #[.int .i64 q0.w, .int .i64 q0.h] 25)) w1.heap.size A n L ∧ Below w.heap.size w (w2.alloc (.cells #[.int .i64 q0.w, .int .i64 q0.h] 25)) ∧ w2.heap.size + 1 ≤ (w2.alloc (.cells #[.int .i64 q0.w, .int .i64 q0.h] 25)).heap.size) := Lib.hid ⟨k4, b5, r5, hb5, by omega⟩
      clear hb2 hb3 b3 r3 k4 hb4 b5 r5 hb5 z5 hrd c0 c1 r0 r1 f0 f1 HN HZZ hfl
      cases A with
      | none =>
        obtain rfl := hA rfl
        obtain rfl : m = 0 := by omega
        go_wp2_with fail
        go_loopw [16, 46] (fun _ i wr => i = .int .i64 0 ∧ wr = w2.alloc (.cells #[.int .i64 q0.w, .int .i64 q0.h] 25)) (fun _ _ _ => 0)
        case atStart => exact ⟨rfl, rfl⟩
        case round =>
          obtain ⟨rfl, rfl⟩ := hrel
          obtain ⟨h1, h2, h3, h4, h5⟩ := HI.out
          have y0 := h1.cell 0 (v := .int .i64 q0.w) rfl
          have y1 := h1.cell 1 (v := .int .i64 q0.h) rfl
          have y2 := h2.cell 0 (v := .int .i64 0) rfl
          have y3 := h2.cell 1 (v := .int .i64 0) rfl
          have y4 := h2.free 0
          have y5 := h2.free 1
          have g5 := (Blk.set (Blk.set h2 0 (.int .i64 q0.w)) 1 (.int .i64 q0.h)).cell 0 (v := .int .i64 q0.w) rfl
          have g6 := (Blk.set (Blk.set h2 0 (.int .i64 q0.w)) 1 (.int .i64 q0.h)).cell 1 (v := .int .i64 q0.h) rfl
          have HBB := Lib.hid (below_set9 (b := ⟨w.heap.size + 1, 1, none⟩) (v := .int .i64 q0.h) (below_set9 (b := ⟨w.heap.size + 1, 0, none⟩) (v := .int .i64 q0.w) h4 (show _ ≤ w.heap.size + 1 by omega)) (show _ ≤ w.heap.size + 1 by omega))
          have HE : Hid (q0 = R) := Lib.hid (HQ0.out.symm.trans HRR.out)
          clear h1 h2 h3 h4 h5
          go_wp2_with fail
          try simp only [Exit.inBlock, Exit.then]
          exact bodyPost_ret (v := .tuple #[q0.agg, .int .i64 0]) (by simp [results, Try.results17, go_sem, g5, g6]) rfl ⟨by rw [HC.out, HE.out], HBB.out⟩
      | some ad =>
        go_wp2_with fail
        go_loopw [16, 46] (fun _ i wr => ∃ (j : Nat) (q : Pc), j ≤ m ∧ i = .int .i64 j ∧ Hid (Su.sz a b c s.data.toList j = q) ∧ Hid (Blk wr w2.heap.size #[.int .i64 q.w, .int .i64 q.h] 25 ∧ Blk wr (w.heap.size + 1) #[.int .i64 0, .int .i64 0] 25 ∧ RdS Un.S wr w1.heap.size (some ad) n L ∧ Below w.heap.size w wr ∧ w2.heap.size + 1 ≤ wr.heap.size)) (fun _ i _ => m - (intOf i).toNat)
        case atStart => exact ⟨0, q0, Nat.zero_le _, rfl, HQ0, HI⟩
        case round =>
          clear HI
          obtain ⟨j, q, hj, rfl, HQ, HI⟩ := hrel
          obtain ⟨h1, h2, h3, h4, h5⟩ := HI.out
          have y0 := h1.cell 0 (v := .int .i64 q.w) rfl
          have y1 := h1.cell 1 (v := .int .i64 q.h) rfl
          by_cases hlt : j < m
          · obtain ⟨x, hx⟩ := str_get s j (by have := HNS.out; omega)
            obtain ⟨ub, uo, u, hadd, hubB, hu, d0, d1, d2⟩ := h3.at_Un (show j < n by omega)
            have hu2 : u = Su.unit q x := by
              rw [HT.out, Su.suT_at hx (by have := HNS.out; omega), HQ.out] at hu
              injection hu with hu
              exact hu.symm
            have HX : Hid (Su.sz a b c s.data.toList (j + 1) = Su.fold q u) := Lib.hid (by rw [Su.sz_next hx, HQ.out, hu2, Su.fold_unit])
            obtain ⟨q2, hq2⟩ : ∃ q2, Su.fold q u = q2 := ⟨_, rfl⟩
            have hfo := fun W => foldedBy_any q u q2 W hq2
            rw [hq2] at HX
            injection hadd with hadd
            subst hadd
            have hba := (Below.refl wr.heap.size wr).alloc (Nat.le_refl _) (.cells #[.bool u.a, .int .i64 u.g, .bool u.o] 83)
            have e1 := h1.below hba (by omega)
            have e2 := h2.below hba (by omega)
            have e3 := h3.below hba (by omega)
            have e4 := h4.trans (hba.mono (by omega))
            have e0 := e1.cell 0 (v := .int .i64 q.w) rfl
            have e5 := e1.cell 1 (v := .int .i64 q.h) rfl
            have e6 : (wr.alloc (.cells #[.bool u.a, .int .i64 u.g, .bool u.o] 83)).heap.size = wr.heap.size + 1 := by simp
            clear hx hu hu2 hq2 hba h1 h2 h3 h4 y0 y1
            have HH := Lib.hid (And.intro e1 (And.intro e2 (And.intro e3 e4)))
            clear e1 e2 e3 e4
            go_wp2_with fail
            refine (hfo _).mono ?_
            rintro e w7 ⟨rfl, hb7⟩
            obtain ⟨e1, e2, e3, e4⟩ := HH.out
            have k1 := e1.below hb7 (by omega)
            have k2 := e2.below hb7 (by omega)
            have k3 := e3.below hb7 (by omega)
            have k4 := e4.trans (hb7.mono (by omega))
            have k5 := hb7.size
            have v0 := k1.cell 0 (v := .int .i64 q.w) rfl
            have v1 := k1.cell 1 (v := .int .i64 q.h) rfl
            have v2 := k1.free 0
            have v3 := k1.free 1
            have HNN : Hid (Blk ((w7.setCell ⟨w2.heap.size, 0, none⟩ (.int .i64 q2.w)).setCell ⟨w2.heap.size, 1, none⟩ (.int .i64 q2.h)) w2.heap.size #[.int .i64 q2.w, .int .i64 q2.h] 25 ∧ Blk ((w7.setCell ⟨w2.heap.size, 0, none⟩ (.int .i64 q2.w)).setCell ⟨w2.heap.size, 1, none⟩ (.int .i64 q2.h)) (w.heap.size + 1) #[.int .i64 0, .int .i64 0] 25 ∧ RdS Un.S ((w7.setCell ⟨w2.heap.size, 0, none⟩ (.int .i64 q2.w)).setCell ⟨w2.heap.size, 1, none⟩ (.int .i64 q2.h)) w1.heap.size (some ⟨ub, uo, none⟩) n L ∧ Below w.heap.size w ((w7.setCell ⟨w2.heap.size, 0, none⟩ (.int .i64 q2.w)).setCell ⟨w2.heap.size, 1, none⟩ (.int .i64 q2.h)) ∧ w2.heap.size + 1 ≤ ((w7.setCell ⟨w2.heap.size, 0, none⟩ (.int .i64 q2.w)).setCell ⟨w2.heap.size, 1, none⟩ (.int .i64 q2.h)).heap.size) := by
              have hbs : Below w2.heap.size w7 ((w7.setCell ⟨w2.heap.size, 0, none⟩ (.int .i64 q2.w)).setCell ⟨w2.heap.size, 1, none⟩ (.int .i64 q2.h)) := below_set9 (below_set9 (Below.refl _ _) (Nat.le_refl _)) (Nat.le_refl _)
              exact Lib.hid ⟨Blk.set (Blk.set k1 0 (.int .i64 q2.w)) 1 (.int .i64 q2.h), k2.below hbs (by omega), k3.below hbs (by omega), k4.trans (hbs.mono (by omega)), by simp; omega⟩
            clear hb7 k1 k2 k3 k4 e1 e2 e3 e4 HH
            go_wp2_with fail
            go_roundw
            case rel => exact ⟨j + 1, q2, by omega, by go_num, HX, HNN⟩
            case measure => simp [intOf]; omega
          · obtain rfl : j = m := by omega
            have y2 := h2.cell 0 (v := .int .i64 0) rfl
            have y3 := h2.cell 1 (v := .int .i64 0) rfl
            have y4 := h2.free 0
            have y5 := h2.free 1
            have g5 := (Blk.set (Blk.set h2 0 (.int .i64 q.w)) 1 (.int .i64 q.h)).cell 0 (v := .int .i64 q.w) rfl
            have g6 := (Blk.set (Blk.set h2 0 (.int .i64 q.w)) 1 (.int .i64 q.h)).cell 1 (v := .int .i64 q.h) rfl
            have HBB := Lib.hid (below_set9 (b := ⟨w.heap.size + 1, 1, none⟩) (v := .int .i64 q.h) (below_set9 (b := ⟨w.heap.size + 1, 0, none⟩) (v := .int .i64 q.w) h4 (show _ ≤ w.heap.size + 1 by omega)) (show _ ≤ w.heap.size + 1 by omega))
            have HE : Hid (q = R) := Lib.hid (HQ.out.symm.trans HRR.out)
            clear h1 h2 h3 h4 h5
            go_wp2_with fail
            try simp only [Exit.inBlock, Exit.then]
            exact bodyPost_ret (v := .tuple #[q.agg, .int .i64 0]) (by simp [results, Try.results17, go_sem, g5, g6]) rfl ⟨by rw [HC.out, HE.out], HBB.out⟩
    · have hki : ¬ (0 ≤ k ∧ k ≤ (s.data.toList.length : Int)) := by rw [Array.length_toList]; exact hk
      have HC : Hid (2 = C) := Lib.hid (by rw [← HHC.out, if_pos rfl, if_neg hki])
      have HRR : Hid (Pc.zero = R) := Lib.hid (by rw [← HHR.out, if_pos rfl, if_neg hki, if_neg (by decide)])
      have g0 := HZZ.out.cell 0 (v := .int .i64 0) rfl
      have g1 := HZZ.out.cell 1 (v := .int .i64 0) rfl
      clear hki HHC HHR HHD
      by_cases h0 : k < 0
      · clear hk
        go_wp2_with fail
        try simp only [Exit.inBlock, Exit.then]
        exact bodyPost_ret (v := .tuple #[Pc.zero.agg, .int .i64 2]) (by simp [results, Try.results17, go_sem, g0, g1]) rfl ⟨by rw [HC.out, HRR.out], HN.out⟩
      · have g2 : (n : Int) < k := by omega
        have g3 : (k < 0) = False := eq_false h0
        clear hk h0 hns
        go_wp2_with fail
        try simp only [Exit.inBlock, Exit.then]
        exact bodyPost_ret (v := .tuple #[Pc.zero.agg, .int .i64 2]) (by simp [results, Try.results17, go_sem, g0, g1]) rfl ⟨by rw [HC.out, HRR.out], HN.out⟩
  · have hDb : (D == 0) = false := by simpa using hD0
    have hDn : (D != 0) = true := by simpa using hD0
    have HC : Hid (D = C) := Lib.hid (by rw [← HHC.out, if_neg hD0])
    have HRR : Hid (Pc.zero = R) := Lib.hid (by rw [← HHR.out, if_neg hD0, if_neg hD0])
    clear HHC HHR HHD
    have g0 := HZZ.out.cell 0 (v := .int .i64 0) rfl
    have g1 := HZZ.out.cell 1 (v := .int .i64 0) rfl
    go_wp2_with fail
    try simp only [Exit.inBlock, Exit.then]
    exact bodyPost_ret (v := .tuple #[Pc.zero.agg, .int .i64 D]) (by simp [results, Try.results17, go_sem, g0, g1]) rfl ⟨by rw [HC.out, HRR.out], HN.out⟩
end Go.Proofs.Ytnfnmdeiaihgnaa
