/- Contracts of the program's helpers of GridCuts. -/
import Derived.Test.YtbhofhobnbhhhaaGreatDoorGuMath
import Derived.Test.YtbhofhobnbhhhaaGreatDoorCtK
namespace Go.Proofs.YtbhofhobnbhhhaaGreatDoor
open Go.RowKit
set_option linter.unusedVariables false

def Gu.seq (i : Int) (a : Bool) (t : Int) (n : Nat) : List Ct := (List.range n).map fun j : Nat => ⟨i + (j : Int), a, t⟩
theorem Gu.seq_next (i : Int) (a : Bool) (t : Int) (n : Nat) : Gu.seq i a t (n + 1) = Gu.seq i a t n ++ [⟨i + (n : Int), a, t⟩] := by simp [Gu.seq, List.range_succ]
theorem Gu.seq_len (i : Int) (a : Bool) (t : Int) (n : Nat) : (Gu.seq i a t n).length = n := by simp [Gu.seq]
theorem Gu.cols_seq (t : Int) (n : Nat) : Gu.cols t n = Gu.seq 0 false t n := by simp [Gu.cols, Gu.seq]
theorem Gu.rows_seq (t : Int) (top n : Nat) : Gu.rows t top n = Gu.seq (top : Int) true t n := by simp [Gu.rows, Gu.seq]

theorem cutsBetween_any (s n q g : Int) (w : World) (hs : 1 ≤ s ∧ s ≤ 20000) (hn : 1 ≤ n ∧ n ≤ 80) (hq : 1 ≤ q ∧ q ≤ 20000) (hg : Gu.gap s n q = g) :
    Calls Tryz.prog 21 #[.int .i64 s, .int .i64 n, .int .i64 q] w fun e w' => e = .returned (.int .i64 g) ∧ w = w' := by
  have hm : 0 ≤ n * q ∧ n * q ≤ 1600000 := ⟨Int.mul_nonneg (by omega) (by omega), by have h1 : n * q ≤ 80 * 20000 := Int.mul_le_mul hn.2 hq.2 (by omega) (by omega); omega⟩
  have e1 : IntKind.i64.wrap (n * q) = n * q := IntWalk.i64_in _ (by omega)
  have e2 : IntKind.i64.wrap (n - 1) = n - 1 := IntWalk.i64_in _ (by omega)
  unfold Gu.gap at hg
  by_cases h : n * q < s
  · rw [if_pos h] at hg
    subst hg
    clear hm hs hn hq
    go_enter Tryz.func21, Tryz.ntmps21
    go_wp2
    go_ret
    exact ⟨rfl, rfl⟩
  · rw [if_neg h] at hg
    subst hg
    clear hm hs hn hq
    go_enter Tryz.func21, Tryz.ntmps21
    go_wp2
    go_ret
    exact ⟨rfl, rfl⟩

set_option maxRecDepth 100000 in
set_option maxHeartbeats 2000000 in
theorem appendCuts_any (A : Option Addr) (n c lo hi : Nat) (l : List Ct) (i : Int) (a : Bool) (t g : Int) (w : World) (ho : OwnS Ct.S w lo hi (.slice A n c) l) (hlo : lo ≤ w.heap.size) (hn : n ≤ 1000) (hi' : 0 ≤ i ∧ i ≤ 1000000) (hg : 0 ≤ g ∧ g ≤ 1000) :
    Calls Tryz.prog 22 #[.slice A n c, .agg #[.int .i64 i, .bool a, .int .i64 t], .int .i64 g] w fun e w' => ∃ A' c', e = .returned (.slice A' (n + g.toNat) c') ∧ OwnS Ct.S w' lo w'.heap.size (.slice A' (n + g.toNat) c') (l ++ Gu.seq i a t g.toNat) ∧ Below lo w w' := by
  have hw0 : w.heap.size + 1 = (w.alloc (.cells #[.int .i64 i, .bool a, .int .i64 t] 50)).heap.size := by simp
  have Bx0 : Blk (w.alloc (.cells #[.int .i64 i, .bool a, .int .i64 t] 50)) w.heap.size #[.int .i64 i, .bool a, .int .i64 t] 50 := Blk.new _ _ rfl
  have ho0 : OwnS Ct.S (w.alloc (.cells #[.int .i64 i, .bool a, .int .i64 t] 50)) lo hi (.slice A n c) l := ho.alloc _
  have hf0 : Far (.slice A n c) w.heap.size := ho.far_new (Nat.le_refl _)
  have HON : Hid (Below lo w (w.alloc (.cells #[.int .i64 i, .bool a, .int .i64 t] 50))) := Lib.hid ((Below.refl lo w).alloc hlo _)
  have hhi : OwnS Ct.S (w.alloc (.cells #[.int .i64 i, .bool a, .int .i64 t] 50)) lo (w.alloc (.cells #[.int .i64 i, .bool a, .int .i64 t] 50)).heap.size (.slice A n c) l := ⟨ho0.mono (Nat.le_refl _) (Nat.le_refl _) |>.1, fun k hk => (ho0.lt k hk).2.2⟩
  clear ho
  go_enter Tryz.func22, Tryz.ntmps22
  go_wp2_with fail
  go_loopw [0, 8] (fun q i2 wr => ∃ (k : Nat) (A2 : Option Addr) (c2 : Nat), (k : Int) ≤ g ∧ i2 = .int .i64 k ∧ q = .slice A2 (n + k) c2 ∧ OwnS Ct.S wr lo wr.heap.size (.slice A2 (n + k) c2) (l ++ Gu.seq i a t k) ∧ Blk wr w.heap.size #[.int .i64 (i + (k : Int)), .bool a, .int .i64 t] 50 ∧ Hid (Far (.slice A2 (n + k) c2) w.heap.size) ∧ Below lo w wr) (fun _ i2 _ => g.toNat - (intOf i2).toNat)
  case atStart => exact ⟨0, A, c, by omega, rfl, rfl, by simpa [Gu.seq] using hhi, by simpa using Bx0, Lib.hid hf0, HON.out⟩
  case round =>
    clear ho0 Bx0 hf0 hhi
    obtain ⟨k, A2, c2, hk, rfl, rfl, ho, Bx, hf, hb⟩ := hrel
    have hz := Bx.lt
    by_cases hlt : (k : Int) < g
    · have c0 := Bx.cell 0 (v := .int .i64 (i + (k : Int))) rfl
      have c1 := Bx.cell 1 (v := .bool a) rfl
      have c2_ := Bx.cell 2 (v := .int .i64 t) rfl
      have e1 : IntKind.i64.wrap (i + (k : Int) + 1) = i + (k : Int) + 1 := IntWalk.i64_in _ (by omega)
      have HBx := Lib.hid Bx
      have HB := Lib.hid hb
      clear Bx hb
      go_wp2_with (at_builtin; refine wp_pushKCt wr rfl (.tmp 10) (.tmp 12) 28 rfl Tryz.underlying28 A2 (n + k) c2 (l ++ Gu.seq i a t k) lo wr.heap.size (by rfl) ho ⟨i + (k : Int), a, t⟩ wr.heap.size (by rfl) rfl (by omega) (by omega) ?_; intro A6 c6 w6 ho6 hm6 hK6; have hk6 := hK6 w.heap.size hz hf.out; have Bx6 : Blk w6 w.heap.size #[.int .i64 (i + (k : Int)), .bool a, .int .i64 t] 50 := hk6.1.trans HBx.out; have d0 := Bx6.cell 0 (v := .int .i64 (i + (k : Int))) rfl; have u0 := Bx6.free 0)
      have hz6 := hm6.size
      have HO7 := Lib.hid (ho6.other ⟨w.heap.size, 0, none⟩ (.int .i64 (i + (k : Int) + 1)) hk6.2)
      have HB7 := Lib.hid (Bx6.set 0 (.int .i64 (i + (k : Int) + 1)))
      have HF := Lib.hid hk6.2
      have HM6 : Below lo w w6 := HB.out.trans (hm6.below (Nat.le_refl _) (by omega))
      have HM7 : Hid (Below lo w (w6.setCell ⟨w.heap.size, 0, none⟩ (.int .i64 (i + (k : Int) + 1)))) := Lib.hid ⟨HM6.os, HM6.tape, HM6.output, by have := HM6.size; simpa using this, fun k' hk' => (heap_setCell_other w6 ⟨w.heap.size, 0, none⟩ k' _ (show k' ≠ w.heap.size by omega)).trans (HM6.block k' hk')⟩
      clear HM6
      clear ho6 hm6 hK6 hk6 Bx6 d0 u0 ho c0 c1 c2_
      go_roundw
      case rel =>
        refine ⟨k + 1, A6, c6, by omega, by go_num, rfl, ?_, ?_, HF.out, HM7.out⟩
        · have := HO7.out
          rw [Gu.seq_next, ← List.append_assoc]
          exact this.mono (Nat.le_refl _) (by simp)
        · have := HB7.out
          rw [show i + ((k + 1 : Nat) : Int) = i + (k : Int) + 1 by omega]
          exact this
      case measure => simp [intOf]; omega
    · have hkg : g = (k : Int) := by omega
      subst hkg
      have HO := Lib.hid ho
      clear ho
      go_wp2_with fail
      go_ret
      refine ⟨A2, c2, rfl, ?_, hb⟩
      simpa using HO.out
end Go.Proofs.YtbhofhobnbhhhaaGreatDoor
