/- The walk of the law of even shares: the draw, the two answers, their sum, their length, their ends. -/
import Derived.Test.YtokljgdfhogcoaaDraw
import Derived.Test.YtokljgdfhogcoaaEven
namespace Go.Proofs.Ytokljgdfhogcoaa
open Go.RowKit

theorem big_any (A : Option Addr) (N C : Nat) (w : World) :
    Calls Try.prog 12 #[.slice A N C] w fun e w' => e = .returned (.bool (decide (4096 < N))) ∧ w = w' := by
  go_enter Try.func12, Try.ntmps12
  go_wp2
  go_ret
  exact ⟨ret_b (by simp; omega), rfl⟩

set_option maxHeartbeats 400000 in
/-- likeInts of two slices that read as one list: true. -/
theorem likeInts_true (A A' : Option Addr) (n c c' B B' : Nat) (l : List Int) (w : World) (h : Rd I w B A n l) (h' : Rd I w B' A' n l) (hn : n ≤ 1048576) :
    Calls Try.prog 18 #[.slice A n c, .slice A' n c'] w fun e w' => e = .returned (.bool true) ∧ Q w w' := by
  go_enter Try.func18, Try.ntmps18
  go_wp2
  go_loopw [5] (fun i wr => ∃ k : Nat, k ≤ n ∧ i = .int .i64 k ∧ Q w wr) (fun i _ => n - (intOf i).toNat)
  case atStart => exact ⟨0, Nat.zero_le _, rfl, Q.refl _⟩
  case round =>
    obtain ⟨k, hk, rfl, hq⟩ := hrel
    have h := h.q hq
    have h' := h'.q hq
    by_cases hlt : k < n
    · obtain ⟨b, o, x, rfl, hbB, hx, hc⟩ := h.at_ hlt
      obtain ⟨b', o', x', rfl, hbB', hx', hc'⟩ := h'.at_ hlt
      obtain rfl : x = x' := by rw [hx] at hx'; injection hx'
      clear hx hx'
      go_wp2
      go_quiet (fail)
      go_wp2
      go_roundw
      case rel => exact ⟨k + 1, by omega, by go_num, hq.more _⟩
      case measure => simp [intOf]; omega
    · obtain rfl : k = n := by omega
      go_wp2
      go_ret
      exact ⟨rfl, hq⟩

def sumOf : List Int → Int
  | [] => 0
  | x :: r => x + sumOf r
theorem sumOf_app (a b : List Int) : sumOf (a ++ b) = sumOf a + sumOf b := by
  induction a with
  | nil => simp [sumOf]
  | cons x r ih => simp [sumOf, ih]; omega
theorem sumOf_bd (l : List Int) (h : ∀ x ∈ l, -1099511627776 ≤ x ∧ x ≤ 1099511627776) : -1099511627776 * (l.length : Int) ≤ sumOf l ∧ sumOf l ≤ 1099511627776 * (l.length : Int) := by
  induction l with
  | nil => simp [sumOf]
  | cons x r ih =>
    have h1 := h x (by simp)
    have h2 := ih fun y hy => h y (by simp [hy])
    simp only [sumOf, List.length_cons]
    omega

set_option maxHeartbeats 400000 in
theorem sum_any (A : Option Addr) (n c B : Nat) (l : List Int) (w : World) (h : Rd I w B A n l) (hn : n ≤ 1048576) (hb : ∀ x ∈ l, -1099511627776 ≤ x ∧ x ≤ 1099511627776) :
    Calls Try.prog 30 #[.slice A n c] w fun e w' => e = .returned (.int .i64 (sumOf l)) ∧ w = w' := by
  have HL : Hid (l.length = n) := h.1
  have HB := Lib.hid hb
  clear hb
  go_enter Try.func30, Try.ntmps30
  go_wp2
  go_loop [3, 4] (fun s i => ∃ k : Nat, k ≤ n ∧ i = .int .i64 k ∧ s = .int .i64 (sumOf (l.take k))) (fun _ i => n - (intOf i).toNat)
  case atStart => exact ⟨0, Nat.zero_le _, rfl, rfl⟩
  case round =>
    obtain ⟨k, hk, rfl, rfl⟩ := hrel
    by_cases hlt : k < n
    · obtain ⟨b, o, x, rfl, hbB, hx, hc⟩ := h.at_ hlt
      have hxb := HB.out x (List.mem_of_getElem? hx)
      have hs := sumOf_bd (l.take k) fun y hy => HB.out y (List.mem_of_mem_take hy)
      have hkl : ((l.take k).length : Int) ≤ 1048576 := by simp; omega
      have h1 : -1152921504606846976 ≤ sumOf (l.take k) := by omega
      have h2 : sumOf (l.take k) ≤ 1152921504606846976 := by omega
      have h3 := hxb.1
      have h4 := hxb.2
      have HX : Hid (sumOf (l.take (k + 1)) = sumOf (l.take k) + x) := by
        show _ = _
        rw [take_next l k x hx, sumOf_app]
        simp [sumOf]
      clear hx hxb hs hkl
      go_wp2
      go_round
      case rel => exact ⟨k + 1, by omega, by go_num, by rw [HX.out]⟩
      case measure => simp [intOf]; omega
    · obtain rfl : k = n := by omega
      go_wp2
      go_ret
      have h1 := HL.out
      exact ⟨ret_i (by rw [List.take_of_length_le (Nat.le_of_eq h1)]), rfl⟩

theorem sum_is (A : Option Addr) (n c B : Nat) (l : List Int) (w : World) (s : Int) (h : Rd I w B A n l) (hn : n ≤ 1048576) (hb : ∀ x ∈ l, -1099511627776 ≤ x ∧ x ≤ 1099511627776) (hs : sumOf l = s) :
    Calls Try.prog 30 #[.slice A n c] w fun e w' => e = .returned (.int .i64 s) ∧ w = w' := by
  subst hs
  exact sum_any A n c B l w h hn hb

theorem even_sum (n : Int) (k : Nat) (hk : 1 ≤ k) : sumOf (evTo n k k) = n := by
  have h : ∀ j, sumOf (evTo n k j) = (j : Int) * (n / (k : Int)) + min (j : Int) (n % (k : Int)) := by
    intro j
    induction j with
    | zero =>
      have := Int.emod_nonneg n (show (k : Int) ≠ 0 by omega)
      simp [evTo, sumOf]
      omega
    | succ j ih =>
      rw [evTo_next, sumOf_app, ih]
      simp only [sumOf, evAt]
      rw [show ((j + 1 : Nat) : Int) * (n / (k : Int)) = (j : Int) * (n / (k : Int)) + n / (k : Int) from by rw [Int.natCast_add, Int.add_mul]; simp]
      split <;> omega
  rw [h k]
  have h1 := Int.emod_lt_of_pos n (show (0 : Int) < (k : Int) by omega)
  have h2 := Int.mul_ediv_add_emod n (k : Int)
  omega
theorem even_bd (n : Int) (k i : Nat) (h : evOk n k) : 0 ≤ evAt n k i ∧ evAt n k i ≤ 1000000001 := by
  obtain ⟨⟨h1, h2⟩, h3, h4⟩ := h
  obtain ⟨h5, h6⟩ := div_le' n k h1 h3
  unfold evAt
  split <;> omega
theorem even_ends (n : Int) (k : Nat) : evAt n k 0 - evAt n k (k - 1) ≤ 1 := by
  unfold evAt
  split <;> split <;> omega

def Two (w : World) (e : Ending) (w' : World) : Prop :=
  ∃ n k : Int, e = .returned (.tuple #[.int .i64 n, .int .i64 k]) ∧ (-9223372036854775808 ≤ n ∧ n ≤ 9223372036854775807) ∧ (-9223372036854775808 ≤ k ∧ k ≤ 9223372036854775807) ∧ Below w.heap.size w w'
theorem Two.mk_ {w w' : World} {n k : Int} (h1 : -9223372036854775808 ≤ n ∧ n ≤ 9223372036854775807) (h2 : -9223372036854775808 ≤ k ∧ k ≤ 9223372036854775807) (h3 : Below w.heap.size w w') : Two w (.returned (.tuple #[.int .i64 n, .int .i64 k])) w' := ⟨n, k, rfl, h1, h2, h3⟩

set_option maxHeartbeats 1000000 in
theorem DrawEven_any (N C B : Nat) (A : Option Addr) (l : List Int) (w : World) (hc : Rd U w B A N l) (hl : inByte l) (hB : B ≤ w.heap.size) (hN : N ≤ 1048576) :
    Calls Try.prog 27 #[.slice A N C] w fun e w' => Two w e w' := by
  go_enter Try.func27, Try.ntmps27
  go_wp2_with fail
  refine (l01From_ex N C B A l _ hc hl hB).mono ?_
  rintro e w1 ⟨g, rfl, hg, hs1, hb1⟩
  have hz1 := hb1.size
  have hlt1 := hs1.lt
  go_wp2_with fail
  refine (l01Next_any g N C B A l _ _ hs1 (hc.below hb1 hB) hl (by omega) hN (by omega)).mono ?_
  rintro e w2 ⟨v, rfl, hv0, hv1, _, hs2, ho2⟩
  have hb2 := hb1.trans (ho2.below (B := w.heap.size) (by omega) (by omega))
  have hz2 := ho2.size
  clear hv1
  by_cases hv : v = 0
  · subst hv
    go_wp2_with fail
    refine (pick_lit g N C B A l [-1, 0, 1000000000, 1000000001] _ _ w2 rfl rfl hs2 (hc.below hb2 hB) hl (by omega) hN (by decide) (by decide)).mono ?_
    rintro e w3 ⟨x, rfl, hx, hs3, ho3⟩
    have hz3 := ho3.size
    have hb3 := hb2.trans (ho3.below (B := w.heap.size) (by omega) (by omega))
    have hx' : -1 ≤ x ∧ x ≤ 1000000001 := by simp at hx; omega
    clear hx
    go_wp2_with fail
    refine (pick_lit g N C B A l [0, 1, 64, 65] _ _ w3 rfl rfl hs3 (hc.below hb3 hB) hl (by omega) hN (by decide) (by decide)).mono ?_
    rintro e w4 ⟨y, rfl, hy, hs4, ho4⟩
    have hy' : 0 ≤ y ∧ y ≤ 65 := by simp at hy; omega
    clear hy
    go_wp2_with fail
    go_ret2
    exact Two.mk_ (by omega) (by omega) (hb3.trans (ho4.below (B := w.heap.size) (by omega) (by omega)))
  · have hv' : (v == 0) = false := by simpa using hv
    go_wp2_with fail
    refine (l01Next_any g N C B A l _ _ hs2 (hc.below hb2 hB) hl (by omega) hN (by omega)).mono ?_
    rintro e w3 ⟨x, rfl, hx0, hx1, _, hs3, ho3⟩
    have hx1' := hx1 (by omega)
    have hz3 := ho3.size
    have hb3 := hb2.trans (ho3.below (B := w.heap.size) (by omega) (by omega))
    clear hx1
    go_wp2_with fail
    refine (l01Next_any g N C B A l _ _ hs3 (hc.below hb3 hB) hl (by omega) hN (by omega)).mono ?_
    rintro e w4 ⟨y, rfl, hy0, hy1, _, hs4, ho4⟩
    have hy1' := hy1 (by omega)
    clear hy1
    go_wp2_with fail
    go_ret2
    exact Two.mk_ (by omega) (by omega) (hb3.trans (ho4.below (B := w.heap.size) (by omega) (by omega)))

set_option maxRecDepth 100000 in
set_option maxHeartbeats 2000000 in
theorem w_FnShares (A : Option Addr) (N C : Nat) (l : List Int) (w : World) (h : Rd U w w.heap.size A N l) (hl : inByte l) :
    Calls Try.prog 5 #[.slice A N C] w fun e w' => e = .returned (.bool true) ∧ Below w.heap.size w w' := by
  by_cases hN : N ≤ 4096
  · have HF : Hid (decide (4096 < N) = false) := decide_eq_false (by omega)
    go_enter Try.func5, Try.ntmps5
    go_wp2_with fail
    refine (big_any A N C _).mono ?_
    rintro e _ ⟨rfl, rfl⟩
    rw [HF.out]
    go_wp2_with fail
    refine (DrawEven_any N C _ A l _ h hl (Nat.le_refl _) (by omega)).mono ?_
    rintro e w1 ⟨n, k, rfl, hn, hk, hb1⟩
    have hz1 := hb1.size
    go_wp2_with fail
    refine (implEven_any n k _ hn hk).mono ?_
    rintro e w2 ⟨AG, nG, cG, rfl, hG, hnG, hb2⟩
    have hz2 := hb2.size
    have hb2' := hb1.trans (hb2.mono hz1)
    go_wp2_with fail
    refine (specEven_any n k _ hn hk).mono ?_
    rintro e w3 ⟨AW, nW, cW, rfl, hW, hnW, hb3⟩
    have hz3 := hb3.size
    have hb3' := hb2'.trans (hb3.mono (by omega))
    have hG3 := hG.below hb3 (Nat.le_refl _)
    obtain rfl : nG = nW := hG3.rd.1.symm.trans hW.rd.1
    go_wp2_with fail
    refine (likeInts_true _ _ _ _ _ _ _ _ _ hG3.rd hW.rd hnG).mono ?_
    rintro e w4 ⟨rfl, hq⟩
    have hb4 := hb3'.trans (hq.below _)
    have hG4 := hG3.q hq
    by_cases ho : evOk n k
    · obtain ⟨⟨h1, h2⟩, h3, h4⟩ := ho
      obtain ⟨m, rfl⟩ := Int.eq_ofNat_of_zero_le (show 0 ≤ k by omega)
      have hok : evOk n m := ⟨⟨h1, h2⟩, h3, h4⟩
      have hC : evC n m = 0 := by unfold evC; rw [if_pos hok]
      have hR : evR n m = evTo n m m := by unfold evR; rw [if_pos hok]; rfl
      rw [hR] at hG4
      obtain rfl : nG = m := hG4.rd.1.symm.trans (evTo_len _ _ _)
      have HS : Hid (sumOf (evTo n nG nG) = n) := even_sum n nG (by omega)
      obtain ⟨g, x, rfl, _, _, _, hx, hcx, _⟩ := hG4.at_ (k := 0) (by omega)
      obtain ⟨g', y, hg', _, _, _, hy, hcy, _⟩ := hG4.at_ (k := nG - 1) (by omega)
      injection hg' with hg'
      injection hg' with hg' _ _
      subst hg'
      obtain rfl : evAt n nG 0 = x := by rw [evTo_at _ _ _ _ (by omega)] at hx; injection hx
      obtain rfl : evAt n nG (nG - 1) = y := by rw [evTo_at _ _ _ _ (by omega)] at hy; injection hy
      have hx1 := even_bd n nG 0 hok
      have hy1 := even_bd n nG (nG - 1) hok
      have hxy := even_ends n nG
      have hd : IntKind.i64.wrap (evAt n nG 0 - evAt n nG (nG - 1)) = evAt n nG 0 - evAt n nG (nG - 1) := IntWalk.i64_in _ (by omega)
      have e1 : IntKind.i64.wrap ((nG : Int) - 1) = (nG : Int) - 1 := IntWalk.i64_in _ (by omega)
      have e2 : (0 : Int) ≤ (nG : Int) - 1 := by omega
      have e3 : ((nG : Int) - 1).toNat = nG - 1 := by omega
      have e4 : decide (evAt n nG 0 - evAt n nG (nG - 1) ≤ 1) = true := decide_eq_true hxy
      have HBD : Hid (∀ x ∈ evTo n nG nG, -1099511627776 ≤ x ∧ x ≤ 1099511627776) := by
        intro x hx
        obtain ⟨i, _, rfl⟩ := List.mem_map.1 hx
        have := even_bd n nG i hok
        omega
      clear hx hy hn hk
      go_wp2_with fail
      go_quiet ((go_at_call 30; exact quiet_same (sum_is _ _ _ _ _ _ _ hG4.rd (by omega) HBD.out HS.out)))
      go_wp2
      go_ret
      exact ⟨rfl, below_drewN' hb4 _⟩
    · have HC : Hid (evC n k = 2) := by unfold evC; rw [if_neg ho]; exact rfl
      rw [HC.out]
      clear ho
      go_wp2_with fail
      go_quiet (fail)
      go_wp2
      go_ret
      exact ⟨rfl, below_drewN' hb4 _⟩
  · have HF : Hid (decide (4096 < N) = true) := decide_eq_true (by omega)
    go_enter Try.func5, Try.ntmps5
    go_wp2_with fail
    refine (big_any A N C _).mono ?_
    rintro e _ ⟨rfl, rfl⟩
    rw [HF.out]
    go_wp2_with fail
    go_ret
    exact ⟨rfl, Below.refl _ _⟩
end Go.Proofs.Ytokljgdfhogcoaa
