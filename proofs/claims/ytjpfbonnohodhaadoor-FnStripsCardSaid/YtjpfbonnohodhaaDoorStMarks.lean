/- The contract of the program's iterator over the marks of a stack. -/
import Derived.Test.YtjpfbonnohodhaaDoorStMark
namespace Go.Proofs.YtjpfbonnohodhaaDoor
open Go.RowKit Go.Shelf
attribute [local go_sem] Oper.semAt_some

theorem below_grown {W W' : World} (h : Below W.heap.size W W') : W.grownBy W' none := ⟨h.os, h.tape, h.output, h.size, fun k hk _ => h.block k hk⟩
theorem Iv.mono {lo hi lo' hi' : Nat} {A B : World} (h : Iv lo hi A B) (h1 : lo ≤ lo') (h2 : hi' ≤ hi) : Iv lo' hi' A B := fun k hk1 hk2 => h k (by omega) (by omega)

/-- The mark at a place that is one; 1 elsewhere. -/
def mkB (l : List UInt8) (p : Nat) : Int := if p < 2 ^ l.length then St.mark l (p : Int) else 1
theorem mark_small (l : List UInt8) (p : Int) (h6 : l.length ≤ 6) (h0 : 0 ≤ p) (h1 : p < ((2 ^ l.length : Nat) : Int)) : -64 ≤ St.mark l p ∧ St.mark l p ≤ 64 ∧ St.mark l p ≠ 0 := by
  have hok0 : MOk ⟨((2 ^ l.length : Nat) : Int), 1, 0, p, false⟩ (2 ^ l.length) 1 := ⟨rfl, rfl, by simp, by simp, h0, h1⟩
  have hok := MOk.all l.reverse _ l.length l.length (by rw [List.length_reverse]) (Nat.le_refl _) hok0
  have h64 := pow_le6' h6
  have hm : St.mark l p = if (l.reverse.foldl St.mstep ⟨((2 ^ l.length : Nat) : Int), 1, 0, p, false⟩).down then -((l.reverse.foldl St.mstep ⟨((2 ^ l.length : Nat) : Int), 1, 0, p, false⟩).column + 1) else (l.reverse.foldl St.mstep ⟨((2 ^ l.length : Nat) : Int), 1, 0, p, false⟩).column + 1 := rfl
  have a1 := hok.c0
  have a2 := hok.c1
  rw [hm]
  split <;> omega
theorem mkB_small (l : List UInt8) (p : Nat) (h6 : l.length ≤ 6) : -64 ≤ mkB l p ∧ mkB l p ≤ 64 ∧ mkB l p ≠ 0 := by
  unfold mkB
  split
  · exact mark_small l p h6 (by omega) (by omega)
  · omega

set_option maxRecDepth 100000 in
set_option maxHeartbeats 2000000 in
theorem marks1_in (n : Nat) (hn : 1 ≤ n) (l Bs N : Nat) (s : ByteArray) (h6 : s.size ≤ 6) (hN : N = 2 ^ s.size) (J Jx : List Nat → World → Prop) (W : World) (hJa : AbidesFrom W.heap.size J)
    (hY : ∀ (pre : List Nat) (x : Nat) W, J pre W → pre.length < N → YieldAt Fence.wide (n - 1) Tryd.prog l #[.int .i64 (x : Int), .int .i64 (mkB s.data.toList x)] W fun e W' =>
      (e = .returned (.bool true) ∧ J (pre ++ [x]) W' ∧ Iv Bs (Bs + 1) W W') ∨ (e = .returned (.bool false) ∧ Jx (pre ++ [x]) W'))
    (hBs : W.cell? ⟨Bs, 0, none⟩ = some (.string s)) (h0 : J [] W) :
    CallsIn Fence.wide n Tryd.prog 53 #[.func (.yield l) #[] #[], .pointer (some ⟨Bs, 0, none⟩)] W fun e W' => (∃ v, e = .returned v) ∧
      ((∃ ys, ys = List.range N ∧ J ys W') ∨ (∃ pre, (∃ k, k ≤ N ∧ pre = List.range k) ∧ Jx pre W')) := by
  have h64 : N ≤ 64 := by rw [hN]; exact pow_le6' h6
  have HN := Lib.hid hN
  clear hN
  refine callsIn_of_wp Tryd.func53 rfl trivial ?_ rfl
  simp only [Tryd.ntmps53, List.size_toArray, List.length_cons, List.length_nil, Nat.reduceAdd, Nat.reduceSub, Array.replicate_succ, Array.replicate_zero, List.push_toArray, List.append_toArray, List.nil_append, List.cons_append]
  gi_wp2_with (refine ⟨trivial, ?_⟩; gi_at_call 34; refine (callsIn_wide.2 (cellCount_any s N _ h6 HN.out)).mono ?_; rintro e _ ⟨rfl, rfl⟩)
  gi_loopw [6] (fun i wr => ∃ k : Nat, k ≤ N ∧ i = .int .i64 (k : Int) ∧ J (List.range k) wr ∧ Iv Bs (Bs + 1) W wr)
    (fun i _ => N - (intOf i).toNat)
  case atStart => exact ⟨0, Nat.zero_le _, rfl, h0, Iv.refl _ _ _⟩
  case round =>
    obtain ⟨k, hk, rfl, hJs, hnx⟩ := hrel
    have hBs' : wr.cell? ⟨Bs, 0, none⟩ = some (.string s) := (hnx.cell (p := ⟨Bs, 0, none⟩) (Nat.le_refl _) (Nat.lt_succ_self _)).trans hBs
    have hlt0 : Bs < wr.heap.size := World.block_lt_of_cell? wr ⟨Bs, 0, none⟩ hBs'
    by_cases hlt : k < N
    · have HX : Hid (List.range (k + 1) = List.range k ++ [k]) := Lib.hid List.range_succ
      have HMK : Hid (St.mark s.data.toList (k : Int) = mkB s.data.toList k) := by
        unfold mkB
        rw [if_pos (by rw [toList_len, ← HN.out]; exact hlt)]
        exact Lib.hid rfl
      gi_wp2_with (refine ⟨trivial, ?_⟩; gi_at_call 54; refine (callsIn_wide.2 (markAt_any s (k : Int) _ h6 (by omega) (by rw [← HN.out]; omega))).mono ?_; rintro e w5 ⟨rfl, hb5⟩; rw [HMK.out]; have hJ5 : J (List.range k) w5 := hJa _ _ _ none hJs (below_grown hb5) (fun r hr => by cases hr); obtain ⟨fn, tmps, assign, body, hy, hR⟩ := hY _ k w5 hJ5 (by rw [List.length_range]; exact hlt); try dsimp only at hy)
      refine hR.mono ?_
      rintro e W3 (⟨rfl, hJ3, hk3⟩ | ⟨rfl, hJx3⟩)
      · gi_wp2
        go_roundw
        case rel => exact ⟨k + 1, by omega, by simp, by rw [HX.out]; exact hJ3, hnx.trans ((Iv.of_below hb5 (by omega)).trans hk3)⟩
        case measure => simp [intOf]; omega
      · gi_wp2
        refine bodyPost_ret (results_none rfl _ _ _) rfl ?_
        exact ⟨⟨_, rfl⟩, .inr ⟨_, ⟨k + 1, by omega, HX.out.symm⟩, hJx3⟩⟩
    · obtain rfl : k = N := by omega
      gi_wp2
      go_end0
      exact ⟨⟨_, rfl⟩, .inl ⟨_, rfl, hJs⟩⟩

set_option maxHeartbeats 1000000 in
set_option maxRecDepth 100000 in
theorem stackMarks_any (s : ByteArray) (w : World) :
    Calls Tryd.prog 35 #[.string s] w fun e w' => e = .returned (.func (.func 53) #[] #[.pointer (some ⟨w.heap.size, 0, none⟩)]) ∧ w' = w.alloc (.cells #[.string s] 9) := by
  go_enter Tryd.func35, Tryd.ntmps35
  go_wp2
  go_ret
  exact ⟨rfl, rfl⟩

theorem marks_stops (n : Nat) (hn : 1 ≤ n) (Bs N : Nat) (s : ByteArray) (h6 : s.size ≤ 6) (hN : N = 2 ^ s.size) (w : World) (hBs : Bs < w.heap.size) (hc : w.cell? ⟨Bs, 0, none⟩ = some (.string s)) :
    SeqStopsK Fence.wide n Tryd.prog 53 #[.pointer (some ⟨Bs, 0, none⟩)] (fun x : Nat => #[Value.int .i64 (x : Int), Value.int .i64 (mkB s.data.toList x)]) (Iv Bs (Bs + 1)) (fun ys => ys = List.range N)
      (fun pre => ∃ k, k ≤ N ∧ pre = List.range k) N w := fun l J Jx W hW hJa _ hY h0 =>
  marks1_in n hn l Bs N s h6 hN J Jx W hJa hY ((hW.cell (p := ⟨Bs, 0, none⟩) hBs).trans hc) h0
end Go.Proofs.YtjpfbonnohodhaaDoor
