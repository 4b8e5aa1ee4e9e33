/- The program's best packing: best, LeastRolls, BestPacking. -/
import Derived.Test.YtbhkpjjedeinpaaRiPi
import Derived.Test.YtbhkpjjedeinpaaRiBd
namespace Go.Proofs.Ytbhkpjjedeinpaa
open Go.RowKit
set_option linter.unusedVariables false

namespace Rl
theorem bd_le {r : Int} {s : List Int} (h : okT r s = true) : 0 ≤ bd r s ∧ bd r s ≤ (s.length : Int) := by
  have h1 := ff_pack h
  have h2 := bound_le h1
  have h3 := isP_iff.1 h1
  have h4 := rolls_le h3.2.2.1 (Int.le_refl 0)
  rw [h3.2.1] at h4
  refine ⟨?_, by omega⟩
  unfold bd
  have := (long_bd r s).1
  omega
theorem sea_low {r : Int} {s : List Int} {j : Nat} (h : okT r s = true) (hj : (j : Int) < bd r s) : sea r s j s.length [] = none := by
  cases hx : sea r s j s.length [] with
  | none => rfl
  | some R =>
    obtain ⟨h1, h2, _⟩ := sea_sound s.length [] R (PreP.nil h) (by simp) (by simp [rolls]) hx
    have := bound_le h1
    omega
theorem best_rolls {r : Int} {s R : List Int} {m : Nat} (h : okT r s = true) (hR : sea r s m s.length [] = some R) (hn : ∀ j, j < m → sea r s j s.length [] = none) : rolls R = m := by
  obtain ⟨h1, h2, _⟩ := sea_sound s.length [] R (PreP.nil h) (by simp) (by simp [rolls]) hR
  rcases Nat.lt_or_ge (rolls R) m with h3 | h3
  · have := sea_rolls h (hn _ h3) h1
    omega
  · omega
end Rl
/-- The best packing and its number of rolls are handed back. -/
def BeP (r : Int) (s : List Int) (n : Nat) (w : World) (e : Ending) (w' : World) : Prop :=
  ∃ (A3 : Option Addr) (c3 : Nat), e = .returned (.tuple #[.slice A3 n c3, .int .i64 (Rl.rolls (Rl.best r s) : Int)]) ∧ Own I w' w.heap.size w'.heap.size 2 (.slice A3 n c3) (Rl.best r s) ∧ Below w.heap.size w w'
set_option maxRecDepth 100000 in
set_option maxHeartbeats 8000000 in
theorem bestT_any (r : Int) (A : Option Addr) (n c B : Nat) (s : List Int) (w : World) (h : Rd I w B A n s) (hB : B ≤ w.heap.size) (hT : Rl.okT r s = true) :
    Calls Try.prog 53 #[TV r A n c] w fun e w' => BeP r s n w e w' := by
  have HL := Lib.hid h.1
  have HT := Lib.hid hT
  have hn12 : n ≤ 12 := by have := (Rl.okT_iff.1 hT).2.1; rw [HL.out] at this; exact this
  obtain ⟨z, hz⟩ : ∃ z, Rl.bd r s = z := ⟨_, rfl⟩
  have hz1 := Rl.bd_le hT
  rw [HL.out, hz] at hz1
  obtain ⟨m0, rfl⟩ := Int.eq_ofNat_of_zero_le hz1.1
  have HZ := Lib.hid hz
  have hn0 := below_newR w (.cells #[.int .i64 r, .slice A n c] 44)
  have hbt : TBx (w.alloc (.cells #[.int .i64 r, .slice A n c] 44)) w.heap.size r A n c := Blk.new _ _ rfl
  have hr0 := h.alloc hB (.cells #[.int .i64 r, .slice A n c] 44)
  have hzz : (w.alloc (.cells #[.int .i64 r, .slice A n c] 44)).heap.size = w.heap.size + 1 := by simp
  have hbd := implBd_any r A n c B s (m0 : Int) _ hr0 (by omega) hT hz
  have e0 := hbt.cell 0 (v := .int .i64 r) rfl
  have e1 := hbt.cell 1 (v := .slice A n c) rfl
  clear hz hT
  go_enter Try.func53, Try.ntmps53
  go_wp2_with fail
  refine hbd.mono ?_
  rintro e w1 ⟨rfl, hb1⟩
  have hbt1 := hbt.below hb1 hbt.lt
  have hn1 := hn0.trans (hb1.mono (by omega))
  have hzb1 := hb1.size
  clear hbt hr0 hn0 hb1 hbd e0 e1
  go_wp2_with fail
  go_loopw [4, 5, 6] (fun v _ _ wr => ∃ m : Nat, m ≤ n ∧ v = .int .i64 (m : Int) ∧ Hid (∀ j, j < m → Rl.sea r s j s.length [] = none) ∧ TBx wr w.heap.size r A n c ∧ Below w.heap.size w wr ∧ w.heap.size + 1 ≤ wr.heap.size) (fun v _ _ _ => n - (intOf v).toNat)
  case atStart => exact ⟨m0, by omega, rfl, Lib.hid fun j hj => Rl.sea_low HT.out (by rw [HZ.out]; omega), hbt1, hn1, by omega⟩
  case round =>
    clear hbt1 hn1 hzb1
    obtain ⟨m, hm, rfl, HN, hbt, hb, hzb⟩ := hrel
    have e0 := hbt.cell 0 (v := .int .i64 r) rfl
    have e1 := hbt.cell 1 (v := .slice A n c) rfl
    have hpi := pin_any r A n c B m s wr (h.below hb hB) (by omega) HT.out (by omega)
    have em : IntKind.i64.wrap ((m : Int) + 1) = (m : Int) + 1 := IntWalk.i64_in _ (by omega)
    go_wp2_with fail
    refine hpi.mono ?_
    rintro e w5 ⟨b, A3, k3, c3, R, rfl, ho5, hb5, hyes, hno⟩
    have hbt5 := hbt.below hb5 hbt.lt
    have hz5 := hb5.size
    have HB5 := Lib.hid (hb.trans (hb5.mono (by omega)))
    clear hpi hb5 hbt hb e0 e1
    cases b
    · have hno5 := hno rfl
      have hmn : m < n := by
        rcases Nat.lt_or_ge m n with h_ | h_
        · exact h_
        · obtain ⟨R, hR⟩ := Rl.sea_end (m := m) HT.out (by rw [HL.out]; exact h_)
          rw [hno5] at hR
          cases hR
      have HNO := Lib.hid hno5
      clear hyes hno hno5 ho5
      go_wp2_with fail
      go_roundw
      case rel => exact ⟨m + 1, by omega, by first | rfl | go_num | (simp; omega), Lib.hid fun j hj => by
        rcases Nat.lt_or_ge j m with h_ | h_
        · exact HN.out j h_
        · obtain rfl : j = m := by omega
          exact HNO.out, hbt5, HB5.out, by omega⟩
      case measure => simp [intOf]; omega
    · have hs5 := hyes rfl
      have hbest := Rl.best_is HT.out hs5 HN.out
      have hrol := Rl.best_rolls HT.out hs5 HN.out
      have hlen : k3 = n := by
        have h1 := ho5.rd.1
        rw [← hbest, Rl.best_len HT.out, HL.out] at h1
        exact h1.symm
      subst hlen
      rw [← hbest] at hrol ho5
      have HO5 := Lib.hid (ho5.mono (show w.heap.size ≤ wr.heap.size by omega) (Nat.le_refl _))
      have HRO := Lib.hid hrol
      clear hyes hno hs5 ho5 hbest hrol
      go_wp2_with fail
      go_ret2
      exact ⟨A3, c3, by rw [HRO.out]; rfl, HO5.out, HB5.out⟩
set_option maxRecDepth 100000 in
set_option maxHeartbeats 4000000 in
theorem implBp_any (r : Int) (A : Option Addr) (n c B : Nat) (s R : List Int) (C : Int) (w : World) (h : Rd I w B A n s) (hB : B ≤ w.heap.size) (hn : n ≤ 1048576) (hc : n ≤ c) (hr : i64b r) (hR : Rl.bpR r s = R) (hC : Rl.ffC r s = C) :
    Calls Try.prog 29 #[.int .i64 r, .slice A n c] w fun e w' => LC w R C e w' := by
  obtain ⟨d, hd⟩ : ∃ d, Rl.okT r s = d := ⟨_, rfl⟩
  have HD := Lib.hid hd
  have HN := Lib.hid (below_newR w (.cells #[.int .i64 r, .slice A n c] 44))
  have hbx : TBx (w.alloc (.cells #[.int .i64 r, .slice A n c] 44)) w.heap.size r A n c := Blk.new _ _ rfl
  have hr0 := h.alloc hB (.cells #[.int .i64 r, .slice A n c] 44)
  have c0 := hbx.cell 0 (v := .int .i64 r) rfl
  have c1 := hbx.cell 1 (v := .slice A n c) rfl
  have hz : (w.alloc (.cells #[.int .i64 r, .slice A n c] 44)).heap.size = w.heap.size + 1 := by simp
  have hvt := implVt_any r A n c B s d _ hr0 (by omega) hn hd
  clear hd hr
  cases d
  · have e1 := (Rl.ff_no HD.out).1
    have C0 := Lib.hid (hC.symm.trans e1)
    have R0 : Hid (R = []) := Lib.hid (by rw [← hR]; unfold Rl.bpR; rw [HD.out]; rfl)
    clear hR hC e1
    go_enter Try.func29, Try.ntmps29
    go_wp2_with fail
    refine hvt.mono ?_
    rintro e w1 ⟨rfl, hb1⟩
    go_wp2_with fail
    go_ret2
    exact LC.nil_ R0.out C0.out (HN.out.trans (hb1.mono (by omega)))
  · have e1 := (Rl.ff_yes HD.out).1
    have C0 := Lib.hid (hC.symm.trans e1)
    have R0 : Hid (R = Rl.best r s) := Lib.hid (by rw [← hR]; unfold Rl.bpR; rw [HD.out]; rfl)
    clear hR hC e1
    go_enter Try.func29, Try.ntmps29
    go_wp2_with fail
    refine hvt.mono ?_
    rintro e w1 ⟨rfl, hb1⟩
    have q := hbx.below hb1 hbx.lt
    have hz1 := hb1.size
    replace c0 := q.cell 0 (v := .int .i64 r) rfl
    replace c1 := q.cell 1 (v := .slice A n c) rfl
    have hbe := bestT_any r A n c B s w1 (hr0.below hb1 (by omega)) (by omega) HD.out
    go_wp2_with fail
    refine hbe.mono ?_
    rintro e w2 ⟨A3, c3, rfl, ho3, hb3⟩
    have HB3 := Lib.hid ((HN.out.trans (hb1.mono (by omega))).trans (hb3.mono (by omega)))
    have HO3 := Lib.hid (ho3.mono (show w.heap.size ≤ w1.heap.size by omega) (Nat.le_refl _))
    clear ho3 hb3
    go_wp2_with fail
    go_ret2
    exact LC.mk_ R0.out C0.out HO3.out (Nat.le_refl _) (Nat.le_refl _) (by omega) HB3.out
set_option maxRecDepth 100000 in
set_option maxHeartbeats 4000000 in
theorem implLr_any (r : Int) (A : Option Addr) (n c B : Nat) (s : List Int) (R C : Int) (w : World) (h : Rd I w B A n s) (hB : B ≤ w.heap.size) (hn : n ≤ 1048576) (hc : n ≤ c) (hr : i64b r) (hR : Rl.lrR r s = R) (hC : Rl.ffC r s = C) :
    Calls Try.prog 31 #[.int .i64 r, .slice A n c] w fun e w' => e = .returned (.tuple #[.int .i64 R, .int .i64 C]) ∧ Below w.heap.size w w' := by
  obtain ⟨d, hd⟩ : ∃ d, Rl.okT r s = d := ⟨_, rfl⟩
  have HD := Lib.hid hd
  have HN := Lib.hid (below_newR w (.cells #[.int .i64 r, .slice A n c] 44))
  have hbx : TBx (w.alloc (.cells #[.int .i64 r, .slice A n c] 44)) w.heap.size r A n c := Blk.new _ _ rfl
  have hr0 := h.alloc hB (.cells #[.int .i64 r, .slice A n c] 44)
  have c0 := hbx.cell 0 (v := .int .i64 r) rfl
  have c1 := hbx.cell 1 (v := .slice A n c) rfl
  have hz : (w.alloc (.cells #[.int .i64 r, .slice A n c] 44)).heap.size = w.heap.size + 1 := by simp
  have hvt := implVt_any r A n c B s d _ hr0 (by omega) hn hd
  clear hd hr
  cases d
  · have e1 := (Rl.ff_no HD.out).1
    have C0 := Lib.hid (hC.symm.trans e1)
    have R0 : Hid (R = 0) := Lib.hid (by rw [← hR]; unfold Rl.lrR; rw [HD.out]; rfl)
    clear hR hC e1
    go_enter Try.func31, Try.ntmps31
    go_wp2_with fail
    refine hvt.mono ?_
    rintro e w1 ⟨rfl, hb1⟩
    go_wp2_with fail
    go_ret2
    exact ⟨by rw [R0.out, C0.out]; rfl, HN.out.trans (hb1.mono (by omega))⟩
  · have e1 := (Rl.ff_yes HD.out).1
    have C0 := Lib.hid (hC.symm.trans e1)
    have R0 : Hid (R = (Rl.rolls (Rl.best r s) : Int)) := Lib.hid (by rw [← hR]; unfold Rl.lrR; rw [HD.out]; rfl)
    clear hR hC e1
    go_enter Try.func31, Try.ntmps31
    go_wp2_with fail
    refine hvt.mono ?_
    rintro e w1 ⟨rfl, hb1⟩
    have q := hbx.below hb1 hbx.lt
    have hz1 := hb1.size
    replace c0 := q.cell 0 (v := .int .i64 r) rfl
    replace c1 := q.cell 1 (v := .slice A n c) rfl
    have hbe := bestT_any r A n c B s w1 (hr0.below hb1 (by omega)) (by omega) HD.out
    go_wp2_with fail
    refine hbe.mono ?_
    rintro e w2 ⟨A3, c3, rfl, ho3, hb3⟩
    have HB3 := Lib.hid ((HN.out.trans (hb1.mono (by omega))).trans (hb3.mono (by omega)))
    have HO3 := Lib.hid (ho3.mono (show w.heap.size ≤ w1.heap.size by omega) (Nat.le_refl _))
    clear ho3 hb3
    go_wp2_with fail
    go_ret2
    exact ⟨by rw [R0.out, C0.out]; rfl, HB3.out⟩
end Go.Proofs.Ytbhkpjjedeinpaa
