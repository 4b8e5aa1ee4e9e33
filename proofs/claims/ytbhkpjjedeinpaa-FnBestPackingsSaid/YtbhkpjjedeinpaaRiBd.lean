/- Contracts of the program's bound of a task, and of RollBound. -/
import Derived.Test.YtbhkpjjedeinpaaRiVt
namespace Go.Proofs.Ytbhkpjjedeinpaa
open Go.RowKit
set_option linter.unusedVariables false

set_option maxRecDepth 100000 in
set_option maxHeartbeats 4000000 in
theorem implBd_any (r : Int) (A : Option Addr) (n c B : Nat) (s : List Int) (R : Int) (w : World) (h : Rd I w B A n s) (hB : B ≤ w.heap.size) (hT : Rl.okT r s = true) (hR : Rl.bd r s = R) :
    Calls Try.prog 47 #[TV r A n c] w fun e w' => e = .returned (.int .i64 R) ∧ Below w.heap.size w w' := by
  have HR := Lib.hid hR
  have HL := Lib.hid h.1
  have hok := Rl.okT_iff.1 hT
  have HOK := Lib.hid hok
  have hn12 : n ≤ 12 := by have := hok.2.1; rw [HL.out] at this; exact this
  have hr1 := hok.1
  have HN := Lib.hid (below_newR w (.cells #[.int .i64 r, .slice A n c] 44))
  have hbx : TBx (w.alloc (.cells #[.int .i64 r, .slice A n c] 44)) w.heap.size r A n c := Blk.new _ _ rfl
  have hr0 := h.alloc hB (.cells #[.int .i64 r, .slice A n c] 44)
  have c0 := hbx.cell 0 (v := .int .i64 r) rfl
  have c1 := hbx.cell 1 (v := .slice A n c) rfl
  clear hbx hR hok hT
  go_enter Try.func47, Try.ntmps47
  go_wp2_with fail
  go_loop [3, 4, 6, 10] (fun v l _ i => ∃ (k : Nat) (t u : Int), k ≤ n ∧ i = .int .i64 k ∧ v = .int .i64 u ∧ l = .int .i64 t ∧ Hid (Rl.tot (s.take k) = u) ∧ Hid (Rl.long r (s.take k) = t)) (fun _ _ _ i => n - (intOf i).toNat)
  case atStart => exact ⟨0, 0, 0, Nat.zero_le _, rfl, rfl, rfl, Lib.hid (by simp [Rl.tot]), Lib.hid (by simp [Rl.long])⟩
  case round =>
    obtain ⟨k, t, u, hk, rfl, rfl, rfl, HU, HT⟩ := hrel
    have ht : 0 ≤ t ∧ t ≤ 12 := by
      have := Rl.long_bd r (s.take k)
      rw [HT.out] at this
      have hl : (s.take k).length ≤ 12 := by simp; omega
      omega
    have hu : 0 ≤ u ∧ u ≤ 1200000 := by
      have h1 := Rl.tot_bd (s := s.take k) (m := 100000) fun y hy => by have := HOK.out.2.2 y (List.mem_of_mem_take hy); omega
      have hl : (s.take k).length ≤ 12 := by simp; omega
      rw [HU.out] at h1
      have h2 : ((s.take k).length : Int) * 100000 ≤ 12 * 100000 := Int.mul_le_mul_of_nonneg_right (by omega) (by omega)
      omega
    by_cases hlt : k < n
    · obtain ⟨b1, o, x, rfl, hbB, hx, hc⟩ := hr0.at_ hlt
      have HX := Lib.hid hx
      have hx0 := HOK.out.2.2 x (List.mem_of_getElem? hx)
      have em : IntKind.i64.wrap (2 * x) = 2 * x := IntWalk.i64_in _ (by omega)
      have ea : IntKind.i64.wrap (t + 1) = t + 1 := IntWalk.i64_in _ (by omega)
      have eu : IntKind.i64.wrap (u + x) = u + x := IntWalk.i64_in _ (by omega)
      have HU2 : Hid (Rl.tot (s.take (k + 1)) = u + x) := Lib.hid (by rw [Rl.tot_next HX.out, HU.out])
      by_cases hl : r < 2 * x
      · have HT2 : Hid (Rl.long r (s.take (k + 1)) = t + 1) := Lib.hid (by rw [Rl.long_next HX.out, HT.out, if_pos hl])
        clear hx hx0 ht hr1 hu
        go_wp2_with fail
        go_round
        case rel => exact ⟨k + 1, t + 1, u + x, by omega, by go_num, rfl, rfl, HU2, HT2⟩
        case measure => simp [intOf]; omega
      · have HT2 : Hid (Rl.long r (s.take (k + 1)) = t) := Lib.hid (by rw [Rl.long_next HX.out, HT.out, if_neg hl, Int.add_zero])
        clear hx hx0 ht hr1 hu
        go_wp2_with fail
        go_round
        case rel => exact ⟨k + 1, t, u + x, by omega, by go_num, rfl, rfl, HU2, HT2⟩
        case measure => simp [intOf]; omega
    · obtain rfl : k = n := by omega
      have e1 : IntKind.i64.wrap (u + r) = u + r := IntWalk.i64_in _ (by omega)
      have e2 : IntKind.i64.wrap (u + r - 1) = u + r - 1 := IntWalk.i64_in _ (by omega)
      obtain ⟨z, hz⟩ : ∃ z, (u + r - 1) / r = z := ⟨_, rfl⟩
      have ez : (u + r - 1).tdiv r = z := by rw [Int.tdiv_eq_ediv_of_nonneg (by omega), hz]
      have hz0 : 0 ≤ z ∧ z ≤ 1300000 := by
        rw [← hz]
        refine ⟨Int.ediv_nonneg (by omega) (by omega), ?_⟩
        have := Int.ediv_le_self (a := u + r - 1) r (by omega)
        omega
      have e3 : IntKind.i64.wrap z = z := IntWalk.i64_in _ (by omega)
      have hr0' : ¬ r = 0 := by omega
      have hr01 : ¬ r = -1 := by omega
      have HM : Hid (max t z = R) := Lib.hid (by
        rw [← HR.out]
        unfold Rl.bd
        have h3 := HT.out
        have h4 := HU.out
        rw [List.take_of_length_le (by rw [HL.out]; exact Nat.le_refl _)] at h3 h4
        rw [h3, h4, hz])
      clear hz hz0 hr1 ht hu
      rcases Int.lt_trichotomy t z with hlu | hlu | hlu
      · have HE : Hid (z = R) := Lib.hid (by have := HM.out; omega)
        have g1 : ¬ z < t := by omega
        have g2 : ¬ z ≤ t := by omega
        have g3 : t ≤ z := by omega
        go_wp2_with fail
        go_ret
        exact ⟨ret_i HE.out, HN.out⟩
      · subst hlu
        have HE : Hid (t = R) := Lib.hid (by have := HM.out; omega)
        go_wp2_with fail
        go_ret
        exact ⟨ret_i HE.out, HN.out⟩
      · have HE : Hid (t = R) := Lib.hid (by have := HM.out; omega)
        have g1 : ¬ t < z := by omega
        have g2 : ¬ t ≤ z := by omega
        have g3 : z ≤ t := by omega
        go_wp2_with fail
        go_ret
        exact ⟨ret_i HE.out, HN.out⟩
set_option maxRecDepth 100000 in
set_option maxHeartbeats 1000000 in
theorem implRlB_any (r : Int) (A : Option Addr) (n c B : Nat) (s : List Int) (R C : Int) (w : World) (h : Rd I w B A n s) (hB : B ≤ w.heap.size) (hn : n ≤ 1048576) (hc : n ≤ c) (hr : i64b r) (hR : Rl.bdR r s = R) (hC : Rl.bdC r s = C) :
    Calls Try.prog 19 #[.int .i64 r, .slice A n c] w fun e w' => e = .returned (.tuple #[.int .i64 R, .int .i64 C]) ∧ Below w.heap.size w w' := by
  obtain ⟨d, hd⟩ : ∃ d, Rl.okT r s = d := ⟨_, rfl⟩
  have HD := Lib.hid hd
  have HN := Lib.hid (below_newR w (.cells #[.int .i64 r, .slice A n c] 44))
  have hbx : TBx (w.alloc (.cells #[.int .i64 r, .slice A n c] 44)) w.heap.size r A n c := Blk.new _ _ rfl
  have hr0 := h.alloc hB (.cells #[.int .i64 r, .slice A n c] 44)
  have c0 := hbx.cell 0 (v := .int .i64 r) rfl
  have c1 := hbx.cell 1 (v := .slice A n c) rfl
  have hz : (w.alloc (.cells #[.int .i64 r, .slice A n c] 44)).heap.size = w.heap.size + 1 := by simp
  have hvt := implVt_any r A n c B s d _ hr0 (by omega) hn hd
  clear hd hr
  cases d
  · have e1 : R = 0 := by rw [← hR]; unfold Rl.bdR; rw [if_neg (by rw [HD.out]; simp)]
    have e2 : C = 1 := by rw [← hC]; unfold Rl.bdC; rw [if_neg (by rw [HD.out]; simp)]
    subst e1 e2
    clear hR hC
    go_enter Try.func19, Try.ntmps19
    go_wp2_with fail
    refine hvt.mono ?_
    rintro e w1 ⟨rfl, hb1⟩
    go_wp2_with fail
    go_ret2
    exact ⟨rfl, HN.out.trans (hb1.mono (by omega))⟩
  · have e1 : Rl.bd r s = R := by rw [← hR]; unfold Rl.bdR; rw [if_pos HD.out]
    have e2 : C = 0 := by rw [← hC]; unfold Rl.bdC; rw [if_pos HD.out]
    subst e2
    have HR := Lib.hid e1
    clear hR hC e1
    go_enter Try.func19, Try.ntmps19
    go_wp2_with fail
    refine hvt.mono ?_
    rintro e w1 ⟨rfl, hb1⟩
    have q := hbx.below hb1 hbx.lt
    have hz1 := hb1.size
    replace c0 := q.cell 0 (v := .int .i64 r) rfl
    replace c1 := q.cell 1 (v := .slice A n c) rfl
    have hbd := implBd_any r A n c B s R w1 (hr0.below hb1 (by omega)) (by omega) HD.out HR.out
    go_wp2_with fail
    refine hbd.mono ?_
    rintro e w2 ⟨rfl, hb2⟩
    go_wp2_with fail
    go_ret2
    exact ⟨rfl, (HN.out.trans (hb1.mono (by omega))).trans (hb2.mono (by omega))⟩
end Go.Proofs.Ytbhkpjjedeinpaa
