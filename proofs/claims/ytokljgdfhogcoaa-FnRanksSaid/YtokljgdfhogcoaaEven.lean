/- Contracts of EvenShares, the model's and the program's: both answer evR and evC. -/
import Derived.Test.YtokljgdfhogcoaaInv
namespace Go.Proofs.Ytokljgdfhogcoaa
open Go.RowKit

def evOk (n k : Int) : Prop := (0 ≤ n ∧ n ≤ 1000000000) ∧ 1 ≤ k ∧ k ≤ 64
instance (n k : Int) : Decidable (evOk n k) := by unfold evOk; exact inferInstance
def evAt (n k : Int) (i : Nat) : Int := n / k + if (i : Int) < n % k then 1 else 0
def evTo (n k : Int) (m : Nat) : List Int := (List.range m).map (evAt n k)
def evR (n k : Int) : List Int := if evOk n k then evTo n k k.toNat else []
def evC (n k : Int) : Int := if evOk n k then 0 else 2
theorem evTo_next (n k : Int) (m : Nat) : evTo n k (m + 1) = evTo n k m ++ [evAt n k m] := by simp [evTo, List.range_succ]
theorem evTo_len (n k : Int) (m : Nat) : (evTo n k m).length = m := by simp [evTo]
theorem evTo_at (n k : Int) (m i : Nat) (h : i < m) : (evTo n k m)[i]? = some (evAt n k i) := by simp [evTo, h]
theorem evTo_take (n k : Int) (m i : Nat) (h : i ≤ m) : (evTo n k m).take i = evTo n k i := by
  unfold evTo
  rw [← List.map_take, List.take_range, Nat.min_eq_left h]
theorem div_le' (n : Int) (k : Nat) (h : 0 ≤ n) (hk : 1 ≤ (k : Int)) : 0 ≤ n / (k : Int) ∧ n / (k : Int) ≤ n :=
  ⟨Int.ediv_nonneg h (by omega), Int.ediv_le_self _ h⟩
theorem even_step (n : Int) (k i : Nat) (x : Int) (hk : i < k) (hx : evAt n k i = x) :
    (evTo n k i ++ List.replicate (k - i) 0).set i x = evTo n k (i + 1) ++ List.replicate (k - (i + 1)) 0 := by
  have := copy_step (evTo n k k) i k x (evTo_len _ _ _) (by rw [evTo_at n k k i hk, hx]) hk
  rwa [evTo_take n k k i (by omega), evTo_take n k k (i + 1) (by omega)] at this
theorem set_set {α : Type} (l : List α) (i : Nat) (x y : α) : (l.set i x).set i y = l.set i y := by simp

set_option maxHeartbeats 1000000 in
theorem implEven_any (n k : Int) (w : World) (hn : -9223372036854775808 ≤ n ∧ n ≤ 9223372036854775807) (hk : -9223372036854775808 ≤ k ∧ k ≤ 9223372036854775807) :
    Calls Try.prog 28 #[.int .i64 n, .int .i64 k] w fun e w' => LC w (evR n k) (evC n k) e w' := by
  by_cases ho : evOk n k
  · obtain ⟨⟨h1, h2⟩, h3, h4⟩ := ho
    obtain ⟨m, rfl⟩ := Int.eq_ofNat_of_zero_le (show 0 ≤ k by omega)
    have HR : Hid (evR n m = evTo n m m) := by unfold evR; rw [if_pos ⟨⟨h1, h2⟩, h3, h4⟩]; exact rfl
    have HC : Hid (evC n m = 0) := by unfold evC; rw [if_pos ⟨⟨h1, h2⟩, h3, h4⟩]; exact rfl
    obtain ⟨i0, hi0, hz0, hz1, hz2⟩ := info_parts infoI
    obtain ⟨hd0, hd1⟩ := div_le' n m h1 h3
    clear hn hk
    go_enter Try.func28, Try.ntmps28
    go_wp2_with (at_make; refine wp_fresh _ rfl _ _ 24 rfl 2 i0 (0 : Int) 8 Try.underlying24 hi0 hz0 hz1 hz2 rfl .i64 .i64 _ _ m rfl rfl rfl rfl (by omega) (by omega) ?_; intro g w1 ho1 hb1)
    have hs1 := hb1.size
    go_loopw [7, 26] (fun _ i wr => ∃ j : Nat, j ≤ m ∧ i = .int .i64 j ∧ Own I wr w.heap.size w1.heap.size 2 (.slice (some ⟨g, 0, none⟩) m m) (evTo n m j ++ List.replicate (m - j) 0) ∧ Below w.heap.size w wr ∧ w1.heap.size ≤ wr.heap.size) (fun _ i _ => m - (intOf i).toNat)
    case atStart => exact ⟨0, Nat.zero_le _, rfl, by simpa [evTo] using ho1, hb1, Nat.le_refl _⟩
    case round =>
      clear ho1
      obtain ⟨j, hj, rfl, ho, hb, hsz⟩ := hrel
      by_cases hlt : j < m
      · obtain ⟨g', y, hg, hg1, hg2, hg3, hy, hc2, hf2⟩ := ho.at_ hlt
        injection hg with hg
        injection hg with hg _ _
        subst hg
        have hset := ho.set_ (k := j) (n / (m : Int))
        obtain ⟨g', y', hg, hg1', hg2', hg3', hy', hc3, hf3⟩ := hset.1.at_ hlt
        have hy1 : y' = n / (m : Int) := by
          have hl := ho.rd.1
          rw [List.getElem?_set_self (by omega)] at hy'
          injection hy' with hy'
          exact hy'.symm
        rw [hy1] at hc3
        have hset2 := hset.1.set_ (k := j) (n / (m : Int) + 1)
        clear hy hy' hy1 hg
        by_cases hm : (j : Int) < n % (m : Int)
        · have HX : Hid (evAt n m j = n / (m : Int) + 1) := by unfold evAt; rw [if_pos hm]; exact rfl
          go_wp2
          go_roundw
          case rel =>
            refine ⟨j + 1, by omega, by go_num, ?_, (hb.trans (hset.2.below (Nat.le_refl _) hb.size)).trans (hset2.2.below (Nat.le_refl _) (by have := hset.2.size; omega)), Nat.le_trans hsz (Nat.le_trans hset.2.size hset2.2.size)⟩
            have := hset2.1
            rwa [set_set, even_step n m j _ hlt HX.out] at this
          case measure => simp [intOf]; omega
        · have HX : Hid (evAt n m j = n / (m : Int)) := by unfold evAt; rw [if_neg hm]; exact Int.add_zero _
          have hm' : n % (m : Int) ≤ (j : Int) := by omega
          go_wp2
          go_roundw
          case rel =>
            refine ⟨j + 1, by omega, by go_num, ?_, hb.trans (hset.2.below (Nat.le_refl _) hb.size), Nat.le_trans hsz hset.2.size⟩
            have := hset.1
            rwa [even_step n m j _ hlt HX.out] at this
          case measure => simp [intOf]; omega
      · obtain rfl : j = m := by omega
        go_wp2
        go_ret2
        exact LC.mk_ HR.out HC.out (by simpa using ho) (Nat.le_refl _) hsz (by omega) hb
  · have HR : Hid (evR n k = []) := by unfold evR; rw [if_neg ho]; exact rfl
    have HC : Hid (evC n k = 2) := by unfold evC; rw [if_neg ho]; exact rfl
    by_cases h1 : n < 0
    · clear ho
      go_enter Try.func28, Try.ntmps28
      go_wp2
      go_ret2
      exact LC.nil_ HR.out HC.out (Below.refl _ _)
    · have h1' : 0 ≤ n := by omega
      by_cases h2 : 1000000000 < n
      · clear ho
        go_enter Try.func28, Try.ntmps28
        go_wp2
        go_ret2
        exact LC.nil_ HR.out HC.out (Below.refl _ _)
      · have h2' : n ≤ 1000000000 := by omega
        by_cases h3 : k < 1
        · clear ho
          go_enter Try.func28, Try.ntmps28
          go_wp2
          go_ret2
          exact LC.nil_ HR.out HC.out (Below.refl _ _)
        · have h3' : 1 ≤ k := by omega
          have h4 : 64 < k := by
            rcases Int.lt_or_le 64 k with h | h
            · exact h
            · exact absurd ⟨⟨h1', h2'⟩, h3', h⟩ ho
          clear ho
          go_enter Try.func28, Try.ntmps28
          go_wp2
          go_ret2
          exact LC.nil_ HR.out HC.out (Below.refl _ _)

set_option maxHeartbeats 1000000 in
theorem specEven_any (n k : Int) (w : World) (hn : -9223372036854775808 ≤ n ∧ n ≤ 9223372036854775807) (hk : -9223372036854775808 ≤ k ∧ k ≤ 9223372036854775807) :
    Calls Try.prog 29 #[.int .i64 n, .int .i64 k] w fun e w' => LC w (evR n k) (evC n k) e w' := by
  by_cases ho : evOk n k
  · obtain ⟨⟨h1, h2⟩, h3, h4⟩ := ho
    obtain ⟨m, rfl⟩ := Int.eq_ofNat_of_zero_le (show 0 ≤ k by omega)
    have HR : Hid (evR n m = evTo n m m) := by unfold evR; rw [if_pos ⟨⟨h1, h2⟩, h3, h4⟩]; exact rfl
    have HC : Hid (evC n m = 0) := by unfold evC; rw [if_pos ⟨⟨h1, h2⟩, h3, h4⟩]; exact rfl
    obtain ⟨i0, hi0, hz0, hz1, hz2⟩ := info_parts infoI
    obtain ⟨hd0, hd1⟩ := div_le' n m h1 h3
    clear hn hk
    have hl0 := Own.lit0 I w 2
    have hb3 : Below w.heap.size w (w.alloc (.cells #[] 2)) := (Below.refl _ _).alloc (Nat.le_refl _) _
    go_enter Try.func29, Try.ntmps29
    go_wp2_with fail
    refine (l01In_yes _ _ _ _ h1 h2).mono ?_
    rintro e _ ⟨rfl, rfl⟩
    go_wp2_with fail
    refine (l01In_yes _ _ _ _ h3 h4).mono ?_
    rintro e _ ⟨rfl, rfl⟩
    go_wp2_with fail
    go_loopw [6, 7, 8] (fun v i _ wr => ∃ j : Nat, j ≤ m ∧ i = .int .i64 j ∧ (∃ A3 c3, v = .slice A3 j c3 ∧ Own I wr w.heap.size wr.heap.size 2 (.slice A3 j c3) (evTo n m j)) ∧ Below w.heap.size w wr ∧ w.heap.size ≤ wr.heap.size) (fun _ i _ _ => m - (intOf i).toNat)
    case atStart => exact ⟨0, Nat.zero_le _, rfl, ⟨_, _, rfl, by simpa [evTo] using hl0.mono (Nat.le_refl _) (by simp)⟩, hb3, by simp⟩
    case round =>
      clear hl0 hb3
      obtain ⟨j, hj, rfl, ⟨A3, c3, rfl, ho⟩, hb, hsz⟩ := hrel
      by_cases hlt : j < m
      · by_cases hm : (j : Int) < n % (m : Int)
        · have HX : Hid (evAt n m j = n / (m : Int) + 1) := by unfold evAt; rw [if_pos hm]; exact rfl
          go_wp2_with (at_builtin; refine wp_push _ rfl _ _ 24 rfl 2 i0 _ 8 Try.underlying24 hi0 hz0 hz1 hz2 rfl A3 j c3 _ _ _ rfl ho (n / (m : Int) + 1) rfl rfl (by omega) (by omega) (by omega) ?_; intro A4 c4 w4 ho4 hm4)
          go_roundw
          case rel =>
            refine ⟨j + 1, by omega, by go_num, ⟨_, _, rfl, ?_⟩, hb.trans (hm4.below (by omega) (by omega)), Nat.le_trans hsz hm4.size⟩
            rw [evTo_next, HX.out]
            exact ho4
          case measure => simp [intOf]; omega
        · have HX : Hid (evAt n m j = n / (m : Int)) := by unfold evAt; rw [if_neg hm]; exact Int.add_zero _
          have hm' : n % (m : Int) ≤ (j : Int) := by omega
          go_wp2_with (at_builtin; refine wp_push _ rfl _ _ 24 rfl 2 i0 _ 8 Try.underlying24 hi0 hz0 hz1 hz2 rfl A3 j c3 _ _ _ rfl ho (n / (m : Int)) rfl rfl (by omega) (by omega) (by omega) ?_; intro A4 c4 w4 ho4 hm4)
          go_roundw
          case rel =>
            refine ⟨j + 1, by omega, by go_num, ⟨_, _, rfl, ?_⟩, hb.trans (hm4.below (by omega) (by omega)), Nat.le_trans hsz hm4.size⟩
            rw [evTo_next, HX.out]
            exact ho4
          case measure => simp [intOf]; omega
      · obtain rfl : j = m := by omega
        go_wp2
        go_ret2
        exact LC.mk_ HR.out HC.out ho (Nat.le_refl _) (Nat.le_refl _) (by omega) hb
  · have HR : Hid (evR n k = []) := by unfold evR; rw [if_neg ho]; exact rfl
    have HC : Hid (evC n k = 2) := by unfold evC; rw [if_neg ho]; exact rfl
    by_cases h1 : 0 ≤ n ∧ n ≤ 1000000000
    · have h2 : k < 1 ∨ 64 < k := by
        rcases Int.lt_or_le k 1 with h | h
        · exact .inl h
        · rcases Int.lt_or_le 64 k with h' | h'
          · exact .inr h'
          · exact absurd ⟨h1, h, h'⟩ ho
      clear ho
      have H2 := Lib.hid h2
      clear h2
      go_enter Try.func29, Try.ntmps29
      go_wp2_with fail
      refine (l01In_yes _ _ _ _ h1.1 h1.2).mono ?_
      rintro e _ ⟨rfl, rfl⟩
      go_wp2_with fail
      refine (l01In_no _ _ _ _ H2.out).mono ?_
      rintro e _ ⟨rfl, rfl⟩
      go_wp2_with fail
      go_ret2
      exact LC.nil_ HR.out HC.out (Below.refl _ _)
    · have H1 : Hid (n < 0 ∨ 1000000000 < n) := show n < 0 ∨ 1000000000 < n by omega
      clear ho h1
      go_enter Try.func29, Try.ntmps29
      go_wp2_with fail
      refine (l01In_no _ _ _ _ H1.out).mono ?_
      rintro e _ ⟨rfl, rfl⟩
      go_wp2_with fail
      go_ret2
      exact LC.nil_ HR.out HC.out (Below.refl _ _)
end Go.Proofs.Ytokljgdfhogcoaa
