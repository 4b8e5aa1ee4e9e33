/- The contract of slices.Chunk over a row of one's own: the parts, one after another, for every loop body that keeps the two boxes. -/
import Derived.Test.YtgplciodddfpbaaFmRv
import Derived.Test.YtgplciodddfpbaaStBack
namespace Go.Proofs.Ytgplciodddfpbaa
open Go.RowKit Go.Shelf
attribute [local go_sem] Oper.semAt_some

set_option maxHeartbeats 1000000 in
theorem chunk_any (a : Option Addr) (len cap W : Nat) (hW : 1 ≤ W) (w : World) :
    Calls Try.prog 78 #[.slice a len cap, .int .i64 (W : Int)] w fun e w' => e = .returned (.func (.func 100) #[] #[.pointer (some ⟨w.heap.size, 0, none⟩), .pointer (some ⟨w.heap.size + 1, 0, none⟩)]) ∧ w' = (w.alloc (.cells #[.slice a len cap] 26)).alloc (.cells #[.int .i64 (W : Int)] 3) := by
  have h1 : ¬ ((W : Int) < 1) := by omega
  have h2 : (1 : Int) ≤ (W : Int) := by omega
  go_enter Try.func78, Try.ntmps78
  go_wp2
  go_ret
  exact ⟨rfl, rfl⟩

set_option maxRecDepth 100000 in
set_option maxHeartbeats 4000000 in
theorem chunk1_in (F : Fence) (n : Nat) (hf : F.fn 100) (hro : F.round = none) (hn : 1 ≤ n) (l B1 B2 lo hi g N W H : Nat) (hW : 1 ≤ W) (hN : N ≤ 64) (hWH : N = W * H) (J Jx : List (Fin H) → World → Prop)
    (hY : ∀ pre x V, J pre V → pre.length < H → YieldAt F (n - 1) Try.prog l #[.slice (some ⟨g, x.val * W, none⟩) W W] V fun e V' =>
      (e = .returned (.bool true) ∧ J (pre ++ [x]) V' ∧ Iv lo hi V V') ∨ (e = .returned (.bool false) ∧ Jx (pre ++ [x]) V'))
    (V : World) (hJd : ∀ pre U, J pre U → J pre U.drew) (hB1 : V.cell? ⟨B1, 0, none⟩ = some (slN g N)) (hB2 : V.cell? ⟨B2, 0, none⟩ = some (.int .i64 (W : Int))) (hn1 : lo ≤ B1 ∧ B1 < hi) (hn2 : lo ≤ B2 ∧ B2 < hi) (h0 : J [] V) :
    CallsIn F n Try.prog 100 #[.func (.yield l) #[] #[], .pointer (some ⟨B1, 0, none⟩), .pointer (some ⟨B2, 0, none⟩)] V fun e V' => (∃ v, e = .returned v) ∧
      ((∃ ys : List (Fin H), ys.map Fin.val = List.range H ∧ J ys V') ∨ (∃ pre : List (Fin H), (∃ k, k ≤ H ∧ pre.map Fin.val = List.range k) ∧ Jx pre V')) := by
  have HWH := Lib.hid hWH
  clear hWH
  refine callsIn_of_wp Try.func100 rfl hf ?_ hro
  simp only [Try.ntmps100, List.size_toArray, List.length_cons, List.length_nil, Nat.reduceAdd, Nat.reduceSub, Array.replicate_succ, Array.replicate_zero, List.push_toArray, List.append_toArray, List.nil_append, List.cons_append]
  gi_wp2
  gi_loopw [4, 5] (fun i _ wr => ∃ (k m : Nat) (pre : List (Fin H)), k ≤ H ∧ Hid (m = k * W) ∧ Hid (pre.map Fin.val = List.range k) ∧ i = .int .i64 (m : Int) ∧ J pre wr ∧ Iv lo hi V wr)
    (fun i _ _ => N - (intOf i).toNat)
  case atStart => exact ⟨0, 0, [], Nat.zero_le _, Lib.hid (by simp), Lib.hid rfl, rfl, h0, Iv.refl _ _ _⟩
  case round =>
    obtain ⟨k, m, pre, hk, hm, hpre, rfl, hJs, hnx⟩ := hrel
    have c1 : wr.cell? ⟨B1, 0, none⟩ = some (slN g N) := (hnx.cell (p := ⟨B1, 0, none⟩) hn1.1 hn1.2).trans hB1
    have c2 : wr.cell? ⟨B2, 0, none⟩ = some (.int .i64 (W : Int)) := (hnx.cell (p := ⟨B2, 0, none⟩) hn2.1 hn2.2).trans hB2
    by_cases hlt : k < H
    · have hmW : m + W ≤ N := by
        have h1 := Nat.mul_le_mul_right W (show k + 1 ≤ H by omega)
        rw [Nat.add_mul, Nat.one_mul, ← hm.out, Nat.mul_comm H W, ← HWH.out] at h1
        exact h1
      have e1 : IntKind.i64.wrap ((m : Int) + (W : Int)) = (m : Int) + (W : Int) := IntWalk.i64_in _ (by omega)
      have hmn : min (W : Int) ((N - m : Nat) : Int) = (W : Int) := by omega
      have hmW' : (m : Int) + (W : Int) ≤ (N : Int) := by omega
      have hmN : m < N := by omega
      have hmi : (m : Int) < (N : Int) := by omega
      have hme : Hid (m + W = (k + 1) * W) := Lib.hid (by rw [Nat.add_mul, Nat.one_mul, hm.out])
      obtain ⟨fn, tmps, assign, body, hy, hR⟩ := hY pre ⟨k, hlt⟩ wr.drew (hJd _ _ hJs) (by have := congrArg List.length hpre.out; simp at this; omega)
      simp only at hy
      rw [← hm.out] at hy
      have HX : Hid ((pre ++ [(⟨k, hlt⟩ : Fin H)]).map Fin.val = List.range (k + 1)) := Lib.hid (by rw [List.map_append, hpre.out, List.range_succ]; rfl)
      gi_wp2
      gi_region
      all_goals
        gi_wp2
        refine hR.mono ?_
        rintro e W3 (⟨rfl, hJ3, hk3⟩ | ⟨rfl, hJx3⟩)
        · have d2 : W3.cell? ⟨B2, 0, none⟩ = some (.int .i64 (W : Int)) := (hk3.cell (p := ⟨B2, 0, none⟩) hn2.1 hn2.2).trans c2
          gi_wp2
          go_roundw
          case rel => exact ⟨k + 1, m + W, _, by omega, hme, HX, by go_num, hJ3, hnx.trans (show Iv lo hi wr W3 from hk3)⟩
          case measure => simp [intOf]; omega
        · gi_wp2
          refine bodyPost_ret (results_none rfl _ _ _) rfl ?_
          exact ⟨⟨_, rfl⟩, .inr ⟨_, ⟨k + 1, by omega, HX.out⟩, hJx3⟩⟩
    · obtain rfl : k = H := by omega
      have hmN : m = N := by rw [hm.out, HWH.out, Nat.mul_comm]
      subst hmN
      gi_wp2
      go_end0
      exact ⟨⟨_, rfl⟩, .inl ⟨_, hpre.out, hJs⟩⟩
theorem chunk_stops (F : Fence) (n : Nat) (hf : F.fn 100) (hro : F.round = none) (hn : 1 ≤ n) (B1 B2 lo hi g N W H : Nat) (hW : 1 ≤ W) (hN : N ≤ 64) (hWH : N = W * H) (w : World) (hn1 : lo ≤ B1 ∧ B1 < hi) (hn2 : lo ≤ B2 ∧ B2 < hi) (hn₀ : hi ≤ w.heap.size)
    (hB1 : w.cell? ⟨B1, 0, none⟩ = some (slN g N)) (hB2 : w.cell? ⟨B2, 0, none⟩ = some (.int .i64 (W : Int))) :
    SeqStopsK F n Try.prog 100 #[.pointer (some ⟨B1, 0, none⟩), .pointer (some ⟨B2, 0, none⟩)] (fun x : Fin H => #[Value.slice (some ⟨g, x.val * W, none⟩) W W]) (Iv lo hi) (fun ys => ys.map Fin.val = List.range H)
      (fun pre => ∃ k, k ≤ H ∧ pre.map Fin.val = List.range k) H w := fun l J Jx V hV hab _ hY h0 =>
  chunk1_in F n hf hro hn l B1 B2 lo hi g N W H hW hN hWH J Jx hY V (fun pre U hJ => hab pre U U.drew none hJ ⟨rfl, rfl, rfl, Nat.le_refl _, fun _ _ _ => rfl⟩ (fun r e => by cases e)) ((hV.cell (p := ⟨B1, 0, none⟩) (by show B1 < _; omega)).trans hB1) ((hV.cell (p := ⟨B2, 0, none⟩) (by show B2 < _; omega)).trans hB2) hn1 hn2 h0
end Go.Proofs.Ytgplciodddfpbaa
