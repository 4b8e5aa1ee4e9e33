/- Contract of the model's size of a sheet after some folds. -/
import Derived.Test.YtnfnmdeiaihgnaaSuIm
import Derived.Test.YtnfnmdeiaihgnaaGuPa
namespace Go.Proofs.Ytnfnmdeiaihgnaa
open Go.RowKit
set_option linter.unusedVariables false

set_option maxRecDepth 100000 in
set_option maxHeartbeats 4000000 in
theorem specSz_any (w0 h0 : Int) (c : Pc) (s : ByteArray) (K : Nat) (p : Pc) (w : World) (hs : s.size ≤ 1048577) (hK : K ≤ s.size) (hw : 1 ≤ w0 ∧ w0 ≤ 8) (hh : 1 ≤ h0 ∧ h0 ≤ 8) (hc : Gu.okP c = true) (hp : Su.sz w0 h0 c s.data.toList K = p) :
    Calls Try.prog 58 #[.int .i64 w0, .int .i64 h0, c.agg, .string s, .int .i64 (K : Int)] w fun e w' => e = .returned p.agg ∧ Below w.heap.size w w' := by
  have HSM := fun k => Su.sz_small hw hh hc s.data.toList k
  have hcc := of_decide_eq_true hc
  have m1 := Su.mul_bd hw ⟨hcc.1, hcc.2.1⟩
  have m2 := Su.mul_bd hh ⟨hcc.2.2.1, hcc.2.2.2⟩
  obtain ⟨u, hu⟩ : ∃ u, w0 * c.w = u := ⟨_, rfl⟩
  obtain ⟨v, hv⟩ : ∃ v, h0 * c.h = v := ⟨_, rfl⟩
  have e1 : IntKind.i64.wrap (w0 * c.w) = u := by rw [hu]; rw [hu] at m1; exact IntWalk.i64_in _ (by omega)
  have e2 : IntKind.i64.wrap (h0 * c.h) = v := by rw [hv]; rw [hv] at m2; exact IntWalk.i64_in _ (by omega)
  have HZ0 : Hid (Su.sz w0 h0 c s.data.toList 0 = ⟨u, v⟩) := Lib.hid (by rw [Su.sz_zero, hu, hv])
  have HP := Lib.hid hp
  have HB3 : Below w.heap.size w (((w.alloc (.cells #[.int .i64 c.w, .int .i64 c.h] 25)).alloc (.cells #[.int .i64 0, .int .i64 0] 25)).alloc (.cells #[.int .i64 u, .int .i64 v] 25)) := ((below_new9 w _).alloc (by simp) _).alloc (by simp; omega) _
  have b2 : Blk (((w.alloc (.cells #[.int .i64 c.w, .int .i64 c.h] 25)).alloc (.cells #[.int .i64 0, .int .i64 0] 25)).alloc (.cells #[.int .i64 u, .int .i64 v] 25)) (w.heap.size + 1) #[.int .i64 0, .int .i64 0] 25 := (Blk.new _ _ (by simp)).alloc _
  have b3 : Blk (((w.alloc (.cells #[.int .i64 c.w, .int .i64 c.h] 25)).alloc (.cells #[.int .i64 0, .int .i64 0] 25)).alloc (.cells #[.int .i64 u, .int .i64 v] 25)) (w.heap.size + 1 + 1) #[.int .i64 u, .int .i64 v] 25 := Blk.new _ _ (by simp)
  clear hp hu hv m1 m2 hcc
  go_enter Try.func58, Try.ntmps58
  go_wp2_with fail
  go_loopw [12] (fun i wr => ∃ k : Nat, k ≤ K ∧ i = .int .i64 k ∧ Blk wr (w.heap.size + 1) #[.int .i64 0, .int .i64 0] 25 ∧ Blk wr (w.heap.size + 1 + 1) #[.int .i64 (Su.sz w0 h0 c s.data.toList k).w, .int .i64 (Su.sz w0 h0 c s.data.toList k).h] 25 ∧ Below w.heap.size w wr) (fun i _ => K - (intOf i).toNat)
  case atStart => exact ⟨0, Nat.zero_le _, rfl, b2, by rw [HZ0.out]; exact b3, HB3⟩
  case round =>
    obtain ⟨k, hk, rfl, hb2, hb3, hbb⟩ := hrel
    obtain ⟨q, hq⟩ : ∃ q, Su.sz w0 h0 c s.data.toList k = q := ⟨_, rfl⟩
    have hsm := HSM k
    rw [hq] at hsm hb3
    have c0 := hb3.cell 0 (v := .int .i64 q.w) rfl
    have c1 := hb3.cell 1 (v := .int .i64 q.h) rfl
    have f0 := hb3.free 0
    have f1 := hb3.free 1
    have f2 := hb2.free 0
    have f3 := hb2.free 1
    have c2 := hb2.cell 0 (v := .int .i64 0) rfl
    have c3 := hb2.cell 1 (v := .int .i64 0) rfl
    have lt2 := hb2.lt
    have lt3 := hb3.lt
    by_cases hlt : k < K
    · have hltI : (k : Int) < (K : Int) := by omega
      obtain ⟨x, hx⟩ := str_get s k (by omega)
      have hix := index_str s k x hx
      have HN : Hid (Su.sz w0 h0 c s.data.toList (k + 1) = Su.stp q x) := Lib.hid (by rw [← hq]; exact Su.sz_next hx)
      obtain ⟨b, hb⟩ : ∃ b, Fo.isX x = b := ⟨_, rfl⟩
      have HX := Lib.hid hb
      clear hx hb
      go_wp2_with fail
      refine (specAl_any x b _ HX.out).mono ?_
      rintro e _ ⟨rfl, rfl⟩
      cases b
      · have HS : Hid (Su.stp q x = ⟨q.w, q.h / 2⟩) := Lib.hid (by unfold Su.stp; rw [if_neg (by rw [HX.out]; decide)])
        have t1 : q.h.tdiv 2 = q.h / 2 := Int.tdiv_eq_ediv_of_nonneg (by unfold Su.small at hsm; omega)
        have t2 : IntKind.i64.wrap (q.h / 2) = q.h / 2 := IntWalk.i64_in _ (by unfold Su.small at hsm; omega)
        go_wp2_with fail
        go_roundw
        case rel => exact ⟨k + 1, by omega, by go_num, hb2.other _ _ (show _ ≠ w.heap.size + 1 + 1 by omega), by rw [HN.out, HS.out]; exact hb3.set 1 _, below_set9 hbb (show _ ≤ w.heap.size + 1 + 1 by omega)⟩
        case measure => simp [intOf]; omega
      · have HS : Hid (Su.stp q x = ⟨q.w / 2, q.h⟩) := Lib.hid (by unfold Su.stp; rw [if_pos HX.out])
        have t1 : q.w.tdiv 2 = q.w / 2 := Int.tdiv_eq_ediv_of_nonneg (by unfold Su.small at hsm; omega)
        have t2 : IntKind.i64.wrap (q.w / 2) = q.w / 2 := IntWalk.i64_in _ (by unfold Su.small at hsm; omega)
        go_wp2_with fail
        go_roundw
        case rel => exact ⟨k + 1, by omega, by go_num, hb2.other _ _ (show _ ≠ w.heap.size + 1 + 1 by omega), by rw [HN.out, HS.out]; exact hb3.set 0 _, below_set9 hbb (show _ ≤ w.heap.size + 1 + 1 by omega)⟩
        case measure => simp [intOf]; omega
    · obtain rfl : k = K := by omega
      have HQ : Hid (q = p) := Lib.hid (hq.symm.trans HP.out)
      clear hq
      have HBB : Below w.heap.size w ((wr.setCell ⟨w.heap.size + 1, 0, none⟩ (.int .i64 q.w)).setCell ⟨w.heap.size + 1, 1, none⟩ (.int .i64 q.h)) := below_set9 (below_set9 hbb (show _ ≤ w.heap.size + 1 by omega)) (show _ ≤ w.heap.size + 1 by omega)
      have g0 := (Blk.set (Blk.set hb2 0 (.int .i64 q.w)) 1 (.int .i64 q.h)).cell 0 (v := .int .i64 q.w) rfl
      have g1 := (Blk.set (Blk.set hb2 0 (.int .i64 q.w)) 1 (.int .i64 q.h)).cell 1 (v := .int .i64 q.h) rfl
      go_wp2_with fail
      try simp only [Exit.inBlock, Exit.then]
      exact bodyPost_ret (v := .agg #[.int .i64 q.w, .int .i64 q.h]) (by simp [results, Try.results58, go_sem, g0, g1]) rfl ⟨by rw [← HQ.out], HBB⟩
end Go.Proofs.Ytnfnmdeiaihgnaa
