/- Contract of the model's FoldedSize. -/
import Derived.Test.YtnfnmdeiaihgnaaSuSz
import Derived.Test.YtnfnmdeiaihgnaaPad
namespace Go.Proofs.Ytnfnmdeiaihgnaa
open Go.RowKit
set_option linter.unusedVariables false

namespace Su
def fzC (w h : Int) (c : Pc) (s : List UInt8) (k : Int) : Int := if code w h c s = 0 then (if 0 ≤ k ∧ k ≤ (s.length : Int) then 0 else 2) else code w h c s
def fzR (w h : Int) (c : Pc) (s : List UInt8) (k : Int) : Pc := if fzC w h c s k = 0 then sz w h c s k.toNat else Pc.zero
end Su
set_option maxRecDepth 100000 in
set_option maxHeartbeats 4000000 in
theorem specFz_any (a b : Int) (c : Pc) (s : ByteArray) (k : Int) (R : Pc) (C : Int) (w : World) (hs : s.size ≤ 1048577) (hR : Su.fzR a b c s.data.toList k = R) (hC : Su.fzC a b c s.data.toList k = C) :
    Calls Try.prog 18 #[.int .i64 a, .int .i64 b, c.agg, .string s, .int .i64 k] w fun e w' => e = .returned (.tuple #[R.agg, .int .i64 C]) ∧ Below w.heap.size w w' := by
  obtain ⟨D, hD⟩ : ∃ D, Su.code a b c s.data.toList = D := ⟨_, rfl⟩
  have hcd := fun W => specSu_any a b c s D W hs hD
  have HW : Below w.heap.size w ((w.alloc (.cells #[.int .i64 c.w, .int .i64 c.h] 25)).alloc (.cells #[.int .i64 0, .int .i64 0] 25)) := (below_new9 w _).alloc (by simp) _
  have HK : Blk ((w.alloc (.cells #[.int .i64 c.w, .int .i64 c.h] 25)).alloc (.cells #[.int .i64 0, .int .i64 0] 25)) w.heap.size #[.int .i64 c.w, .int .i64 c.h] 25 := (Blk.new _ _ rfl).alloc _
  have HR : Blk ((w.alloc (.cells #[.int .i64 c.w, .int .i64 c.h] 25)).alloc (.cells #[.int .i64 0, .int .i64 0] 25)) (w.heap.size + 1) #[.int .i64 0, .int .i64 0] 25 := Blk.new _ _ (by simp)
  have HW := Lib.hid HW
  have HK := Lib.hid HK
  have HR := Lib.hid HR
  unfold Su.fzC at hC
  rw [hD] at hC
  unfold Su.fzR Su.fzC at hR
  rw [hD] at hR
  have HHC := Lib.hid hC
  have HHR := Lib.hid hR
  have HHD := Lib.hid hD
  clear hC hR hD
  go_enter Try.func18, Try.ntmps18
  go_wp2_with fail
  refine (hcd _).mono ?_
  rintro e w1 ⟨rfl, hb1⟩
  have hb0 := HW.out.trans (hb1.mono HW.out.size)
  have b0 := HK.out.below hb1 HK.out.lt
  have b1 := HR.out.below hb1 HR.out.lt
  clear hb1 hcd
  have HB := Lib.hid hb0
  have HB1 := Lib.hid b1
  have c0 := b0.cell 0 (v := .int .i64 c.w) rfl
  have c1 := b0.cell 1 (v := .int .i64 c.h) rfl
  have r0 := b1.cell 0 (v := .int .i64 0) rfl
  have r1 := b1.cell 1 (v := .int .i64 0) rfl
  have f0 := b1.free 0
  have f1 := b1.free 1
  have HN : Hid (Below w.heap.size w ((w1.setCell ⟨w.heap.size + 1, 0, none⟩ (.int .i64 0)).setCell ⟨w.heap.size + 1, 1, none⟩ (.int .i64 0))) := Lib.hid (below_set9 (below_set9 hb0 (show _ ≤ w.heap.size + 1 by omega)) (show _ ≤ w.heap.size + 1 by omega))
  have HZ : Hid (Blk ((w1.setCell ⟨w.heap.size + 1, 0, none⟩ (.int .i64 0)).setCell ⟨w.heap.size + 1, 1, none⟩ (.int .i64 0)) (w.heap.size + 1) #[.int .i64 0, .int .i64 0] 25) := Lib.hid (Blk.set (Blk.set b1 0 (.int .i64 0)) 1 (.int .i64 0))
  clear hb0 b0 b1 HW HK HR
  by_cases hD0 : D = 0
  · subst hD0
    by_cases hk : 0 ≤ k ∧ k ≤ (s.size : Int)
    · obtain ⟨m, rfl⟩ : ∃ m : Nat, k = (m : Int) := ⟨k.toNat, by omega⟩
      obtain ⟨hok, hsch⟩ := Su.code0 HHD.out
      obtain ⟨ha, hb, hs6, hlet⟩ := Su.scheme_facts hsch
      have hki : 0 ≤ (m : Int) ∧ (m : Int) ≤ (s.data.toList.length : Int) := by rw [Array.length_toList]; exact hk
      have HC : Hid (0 = C) := Lib.hid (by rw [← HHC.out, if_pos rfl, if_pos hki])
      have HRR : Hid (Su.sz a b c s.data.toList m = R) := Lib.hid (by rw [← HHR.out, if_pos rfl, if_pos hki, if_pos rfl]; rfl)
      have hi := fun W => l01In_yes (m : Int) 0 (s.size : Int) W hk.1 hk.2
      have hsz := fun W => specSz_any a b c s m R W hs (by omega) ha hb hok HRR.out
      clear hok hsch ha hb hs6 hlet hki hk HHC HHR HHD
      go_wp2_with fail
      refine (hi _).mono ?_
      rintro e _ ⟨rfl, rfl⟩
      go_wp2_with fail
      refine (hsz _).mono ?_
      rintro e w2 ⟨rfl, hb2⟩
      have hb3 := HB.out.trans (hb2.mono HB.out.size)
      have b3 := HB1.out.below hb2 HB1.out.lt
      have q0 := b3.cell 0 (v := .int .i64 0) rfl
      have q1 := b3.cell 1 (v := .int .i64 0) rfl
      have p0 := b3.free 0
      have p1 := b3.free 1
      have HBB : Below w.heap.size w ((w2.setCell ⟨w.heap.size + 1, 0, none⟩ (.int .i64 R.w)).setCell ⟨w.heap.size + 1, 1, none⟩ (.int .i64 R.h)) := below_set9 (below_set9 hb3 (show _ ≤ w.heap.size + 1 by omega)) (show _ ≤ w.heap.size + 1 by omega)
      have g0 := (Blk.set (Blk.set b3 0 (.int .i64 R.w)) 1 (.int .i64 R.h)).cell 0 (v := .int .i64 R.w) rfl
      have g1 := (Blk.set (Blk.set b3 0 (.int .i64 R.w)) 1 (.int .i64 R.h)).cell 1 (v := .int .i64 R.h) rfl
      clear hb2 hb3 b3
      go_wp2_with fail
      try simp only [Exit.inBlock, Exit.then]
      exact bodyPost_ret (v := .tuple #[R.agg, .int .i64 0]) (by simp [results, Try.results18, go_sem, g0, g1]) rfl ⟨by rw [HC.out], HBB⟩
    · have hki : ¬ (0 ≤ k ∧ k ≤ (s.data.toList.length : Int)) := by rw [Array.length_toList]; exact hk
      have HC : Hid (2 = C) := Lib.hid (by rw [← HHC.out, if_pos rfl, if_neg hki])
      have HRR : Hid (Pc.zero = R) := Lib.hid (by rw [← HHR.out, if_pos rfl, if_neg hki, if_neg (by decide)])
      have hi := fun W => l01In_no k 0 (s.size : Int) W (by omega)
      clear hki hk HHC HHR HHD
      go_wp2_with fail
      refine (hi _).mono ?_
      rintro e _ ⟨rfl, rfl⟩
      have g0 := HZ.out.cell 0 (v := .int .i64 0) rfl
      have g1 := HZ.out.cell 1 (v := .int .i64 0) rfl
      go_wp2_with fail
      try simp only [Exit.inBlock, Exit.then]
      exact bodyPost_ret (v := .tuple #[Pc.zero.agg, .int .i64 2]) (by simp [results, Try.results18, go_sem, g0, g1]) rfl ⟨by rw [HC.out, HRR.out], HN.out⟩
  · have hDb : (D == 0) = false := by simpa using hD0
    have hDn : (D != 0) = true := by simpa using hD0
    have HC : Hid (D = C) := Lib.hid (by rw [← HHC.out, if_neg hD0])
    have HRR : Hid (Pc.zero = R) := Lib.hid (by rw [← HHR.out, if_neg hD0, if_neg hD0])
    clear HHC HHR HHD
    have g0 := HZ.out.cell 0 (v := .int .i64 0) rfl
    have g1 := HZ.out.cell 1 (v := .int .i64 0) rfl
    go_wp2_with fail
    try simp only [Exit.inBlock, Exit.then]
    exact bodyPost_ret (v := .tuple #[Pc.zero.agg, .int .i64 D]) (by simp [results, Try.results18, go_sem, g0, g1]) rfl ⟨by rw [HC.out, HRR.out], HN.out⟩
end Go.Proofs.Ytnfnmdeiaihgnaa
