/- Contracts of the program's functions that tell whether a sheet and a scheme are ones. -/
import Derived.Test.YtnfnmdeiaihgnaaFoIs
import Derived.Test.YtnfnmdeiaihgnaaShelf
import Derived.Shelf.Small.Bits
namespace Go.Proofs.Ytnfnmdeiaihgnaa
open Go.RowKit Go.Shelf

namespace Fo
def cY (l : List UInt8) : Nat := l.countP isY
theorem cY_cons (c : UInt8) (s : List UInt8) : cY (c :: s) = cY s + (if isY c = true then 1 else 0) := by unfold cY; rw [List.countP_cons]
theorem count_X (l : List UInt8) : l.count 76 + l.count 82 = nX l := by
  induction l with
  | nil => rfl
  | cons c l ih =>
    rw [nX_cons, List.count_cons, List.count_cons, ← ih]
    unfold isX
    by_cases h1 : c = 76
    · subst h1
      simp
      omega
    · by_cases h2 : c = 82
      · subst h2
        simp
        omega
      · simp [h1, h2]
theorem count_Y (l : List UInt8) : l.count 84 + l.count 66 = cY l := by
  induction l with
  | nil => rfl
  | cons c l ih =>
    rw [cY_cons, List.count_cons, List.count_cons, ← ih]
    unfold isY
    by_cases h1 : c = 84
    · subst h1
      simp
      omega
    · by_cases h2 : c = 66
      · subst h2
        simp
        omega
      · simp [h1, h2]
theorem isY_not (c : UInt8) (h : isY c = true) : isX c = false := by
  unfold isY at h
  simp only [Bool.or_eq_true, beq_iff_eq] at h
  rcases h with rfl | rfl <;> rfl
theorem ok_facts (l : List UInt8) : cY l ≤ nY l ∧ (ok l = true → cY l = nY l) ∧ (cY l = nY l → ok l = true) := by
  induction l with
  | nil => simp [cY, nY, ok]
  | cons c l ih =>
    obtain ⟨h1, h2, h3⟩ := ih
    have hk : ok (c :: l) = ((isX c || isY c) && ok l) := rfl
    rw [cY_cons, nY_cons, hk]
    cases hx : isX c
    · cases hy : isY c <;> simp <;> constructor <;> first | omega | (intro; omega) | (constructor <;> first | exact h2 | (intro h; exact h3 (by omega)) | omega)
    · have hy : isY c = false := by
        cases hy : isY c
        · rfl
        · rw [isY_not c hy] at hx
          cases hx
      rw [hy]
      simpa using ⟨h1, h2, h3⟩
theorem scheme_is (w h : Int) (l : List UInt8) (hs : sheet w h = true) : scheme w h l = (decide (nX l = pw w) && decide (cY l = pw h) && decide (l.length = nX l + cY l)) := by
  obtain ⟨h1, h2, h3⟩ := ok_facts l
  have h4 := nX_add_nY l
  unfold scheme
  rw [hs, Bool.true_and, Bool.eq_iff_iff]
  simp only [Bool.and_eq_true, beq_iff_eq, decide_eq_true_eq]
  constructor
  · rintro ⟨⟨a, b⟩, c⟩
    have := h2 a
    omega
  · rintro ⟨⟨a, b⟩, c⟩
    have e : cY l = nY l := by omega
    exact ⟨⟨h3 e, a⟩, by omega⟩
theorem sheet_parts {w h : Int} (hs : sheet w h = true) : side w = true ∧ side h = true := by
  unfold sheet at hs
  simpa using hs
theorem sheet_lt {n : Int} (h : n < 1 ∨ 8 < n) : side n = false := by
  unfold side
  simp only [Bool.or_eq_false_iff, beq_eq_false_iff_ne]
  omega
end Fo

set_option maxRecDepth 100000 in
theorem isSide_any (n : Int) (w : World) :
    Calls Try.prog 105 #[.int .i64 n] w fun e w' => e = .returned (.bool (Fo.side n)) ∧ w = w' := by
  by_cases h1 : n < 1
  · have HR := Lib.hid (Fo.sheet_lt (.inl h1))
    go_enter Try.func105, Try.ntmps105
    go_wp2
    go_ret
    exact ⟨ret_b HR.out.symm, rfl⟩
  by_cases h8 : 8 < n
  · have HR := Lib.hid (Fo.sheet_lt (.inr h8))
    go_enter Try.func105, Try.ntmps105
    go_wp2
    go_ret
    exact ⟨ret_b HR.out.symm, rfl⟩
  have hn : n = 1 ∨ n = 2 ∨ n = 3 ∨ n = 4 ∨ n = 5 ∨ n = 6 ∨ n = 7 ∨ n = 8 := by omega
  clear h1 h8
  have b1 : bits .and .i64 1 0 = 0 := by decide +kernel
  have b2 : bits .and .i64 2 1 = 0 := by decide +kernel
  have b3 : bits .and .i64 3 2 = 2 := by decide +kernel
  have b4 : bits .and .i64 4 3 = 0 := by decide +kernel
  have b5 : bits .and .i64 5 4 = 4 := by decide +kernel
  have b6 : bits .and .i64 6 5 = 4 := by decide +kernel
  have b7 : bits .and .i64 7 6 = 6 := by decide +kernel
  have b8 : bits .and .i64 8 7 = 0 := by decide +kernel
  rcases hn with rfl | rfl | rfl | rfl | rfl | rfl | rfl | rfl
  all_goals
    go_enter Try.func105, Try.ntmps105
    go_wp2
    go_ret
    exact ⟨rfl, rfl⟩

set_option maxRecDepth 100000 in
theorem isSheet_any (a b : Int) (w : World) :
    Calls Try.prog 87 #[.int .i64 a, .int .i64 b] w fun e w' => e = .returned (.bool (Fo.sheet a b)) ∧ w = w' := by
  obtain ⟨sa, hsa⟩ : ∃ x, x = Fo.side a := ⟨_, rfl⟩
  obtain ⟨sb, hsb⟩ : ∃ x, x = Fo.side b := ⟨_, rfl⟩
  have HR : Hid (Fo.sheet a b = (sa && sb)) := by
    rw [hsa, hsb]
    exact Lib.hid rfl
  have ca : ∀ W, Calls Try.prog 105 #[.int .i64 a] W fun e w' => e = .returned (.bool sa) ∧ W = w' := fun W => by rw [hsa]; exact isSide_any a W
  have cb : ∀ W, Calls Try.prog 105 #[.int .i64 b] W fun e w' => e = .returned (.bool sb) ∧ W = w' := fun W => by rw [hsb]; exact isSide_any b W
  clear hsa hsb
  go_enter Try.func87, Try.ntmps87
  cases sa
  · go_wp2_with fail
    refine (ca _).mono ?_
    rintro e _ ⟨rfl, rfl⟩
    go_wp2_with fail
    go_ret
    exact ⟨ret_b HR.out.symm, rfl⟩
  · go_wp2_with fail
    refine (ca _).mono ?_
    rintro e _ ⟨rfl, rfl⟩
    go_wp2_with fail
    refine (cb _).mono ?_
    rintro e _ ⟨rfl, rfl⟩
    go_wp2_with fail
    go_ret
    exact ⟨ret_b (by rw [HR.out]; simp), rfl⟩

set_option maxRecDepth 100000 in
theorem folds_any (n : Int) (w : World) (h : Fo.side n = true) :
    Calls Try.prog 89 #[.int .i64 n] w fun e w' => e = .returned (.int .i64 (Fo.pw n : Int)) ∧ w = w' := by
  have l1 : Lib.bitLen ((1 : Int)).toNat = 1 := by decide +kernel
  have l2 : Lib.bitLen ((2 : Int)).toNat = 2 := by decide +kernel
  have l4 : Lib.bitLen ((4 : Int)).toNat = 3 := by decide +kernel
  have l8 : Lib.bitLen ((8 : Int)).toNat = 4 := by decide +kernel
  rcases Fo.side_cases h with ⟨rfl, hp⟩ | ⟨rfl, hp⟩ | ⟨rfl, hp⟩ | ⟨rfl, hp⟩
  · rw [hp]
    go_enter Try.func89, Try.ntmps89
    go_wp2_with fail
    refine (Try.bits_Len64 1 _ (by omega) (by omega)).mono ?_
    rintro e _ ⟨rfl, rfl⟩
    rw [l1]
    go_wp2_with fail
    go_ret
    exact ⟨rfl, rfl⟩
  · rw [hp]
    go_enter Try.func89, Try.ntmps89
    go_wp2_with fail
    refine (Try.bits_Len64 2 _ (by omega) (by omega)).mono ?_
    rintro e _ ⟨rfl, rfl⟩
    rw [l2]
    go_wp2_with fail
    go_ret
    exact ⟨rfl, rfl⟩
  · rw [hp]
    go_enter Try.func89, Try.ntmps89
    go_wp2_with fail
    refine (Try.bits_Len64 4 _ (by omega) (by omega)).mono ?_
    rintro e _ ⟨rfl, rfl⟩
    rw [l4]
    go_wp2_with fail
    go_ret
    exact ⟨rfl, rfl⟩
  · rw [hp]
    go_enter Try.func89, Try.ntmps89
    go_wp2_with fail
    refine (Try.bits_Len64 8 _ (by omega) (by omega)).mono ?_
    rintro e _ ⟨rfl, rfl⟩
    rw [l8]
    go_wp2_with fail
    go_ret
    exact ⟨rfl, rfl⟩

set_option maxRecDepth 100000 in
set_option maxHeartbeats 1000000 in
theorem checkScheme_any (a b : Int) (s : ByteArray) (w : World) (hs : s.size ≤ 1048577) :
    Calls Try.prog 53 #[.int .i64 a, .int .i64 b, .string s] w fun e w' => e = .returned (.int .i64 (Fo.code a b s.data.toList)) ∧ w = w' := by
  by_cases hsh : Fo.sheet a b = true
  · obtain ⟨ha, hb⟩ := Fo.sheet_parts hsh
    obtain ⟨x, hx⟩ : ∃ x, x = Fo.nX s.data.toList := ⟨_, rfl⟩
    obtain ⟨y, hy⟩ : ∃ y, y = Fo.cY s.data.toList := ⟨_, rfl⟩
    obtain ⟨p, hp⟩ : ∃ p, p = Fo.pw a := ⟨_, rfl⟩
    obtain ⟨q, hq⟩ : ∃ q, q = Fo.pw b := ⟨_, rfl⟩
    obtain ⟨c1, h1⟩ : ∃ c1 : Nat, c1 = s.data.toList.count 76 := ⟨_, rfl⟩
    obtain ⟨c2, h2⟩ : ∃ c2 : Nat, c2 = s.data.toList.count 82 := ⟨_, rfl⟩
    obtain ⟨c3, h3⟩ : ∃ c3 : Nat, c3 = s.data.toList.count 84 := ⟨_, rfl⟩
    obtain ⟨c4, h4⟩ : ∃ c4 : Nat, c4 = s.data.toList.count 66 := ⟨_, rfl⟩
    have ex : c1 + c2 = x := by rw [h1, h2, hx]; exact Fo.count_X _
    have ey : c3 + c4 = y := by rw [h3, h4, hy]; exact Fo.count_Y _
    have hx1 : x ≤ 1048577 := by
      have := Fo.nX_le s.data.toList
      rw [← hx, toList_len] at this
      omega
    have hy1 : y ≤ 1048577 := by
      have : Fo.cY s.data.toList ≤ s.data.toList.length := List.countP_le_length
      rw [← hy, toList_len] at this
      omega
    have pa : p ≤ 3 := by rw [hp]; exact (Fo.side_pow ha).2
    have pb : q ≤ 3 := by rw [hq]; exact (Fo.side_pow hb).2
    have fa : ∀ W, Calls Try.prog 89 #[.int .i64 a] W fun e w' => e = .returned (.int .i64 (p : Int)) ∧ W = w' := fun W => by rw [hp]; exact folds_any a W ha
    have fb : ∀ W, Calls Try.prog 89 #[.int .i64 b] W fun e w' => e = .returned (.int .i64 (q : Int)) ∧ W = w' := fun W => by rw [hq]; exact folds_any b W hb
    have k1 : ∀ W, Calls Try.prog 88 #[.string s, .string ⟨#[76]⟩] W fun e w' => e = .returned (.int .i64 (c1 : Int)) ∧ w' = W := fun W => by rw [h1]; exact Try.strings_Count_one s 76 W
    have k2 : ∀ W, Calls Try.prog 88 #[.string s, .string ⟨#[82]⟩] W fun e w' => e = .returned (.int .i64 (c2 : Int)) ∧ w' = W := fun W => by rw [h2]; exact Try.strings_Count_one s 82 W
    have k3 : ∀ W, Calls Try.prog 88 #[.string s, .string ⟨#[84]⟩] W fun e w' => e = .returned (.int .i64 (c3 : Int)) ∧ w' = W := fun W => by rw [h3]; exact Try.strings_Count_one s 84 W
    have k4 : ∀ W, Calls Try.prog 88 #[.string s, .string ⟨#[66]⟩] W fun e w' => e = .returned (.int .i64 (c4 : Int)) ∧ w' = W := fun W => by rw [h4]; exact Try.strings_Count_one s 66 W
    have HR : Hid (Fo.code a b s.data.toList = if (decide (x = p) && decide (y = q) && decide (s.size = x + y)) = true then 0 else 2) := by
      unfold Fo.code
      rw [if_pos hsh, Fo.scheme_is _ _ _ hsh, ← hx, ← hy, ← hp, ← hq, toList_len]
      exact Lib.hid rfl
    have HS := Lib.hid hsh
    have HX := Lib.hid ex
    have HY := Lib.hid ey
    have e1 : IntKind.i64.wrap ((c1 : Int) + c2) = (x : Int) := by rw [IntWalk.i64_in _ (by omega)]; omega
    have e2 : IntKind.i64.wrap ((c3 : Int) + c4) = (y : Int) := by rw [IntWalk.i64_in _ (by omega)]; omega
    have e1' : (c1 : Int) + c2 = (x : Int) := by omega
    have e2' : (c3 : Int) + c4 = (y : Int) := by omega
    clear hx hy hp hq h1 h2 h3 h4 ex ey hsh ha hb
    go_enter Try.func53, Try.ntmps53
    go_wp2_with fail
    refine (isSheet_any a b _).mono ?_
    rintro e _ ⟨rfl, rfl⟩
    rw [HS.out]
    go_wp2_with fail
    refine (k1 _).mono ?_
    rintro e _ ⟨rfl, rfl⟩
    go_wp2_with fail
    refine (k2 _).mono ?_
    rintro e _ ⟨rfl, rfl⟩
    go_wp2_with fail
    refine (k3 _).mono ?_
    rintro e _ ⟨rfl, rfl⟩
    go_wp2_with fail
    refine (k4 _).mono ?_
    rintro e _ ⟨rfl, rfl⟩
    go_wp2_with fail
    refine (fa _).mono ?_
    rintro e _ ⟨rfl, rfl⟩
    by_cases hxp : x = p
    · subst hxp
      go_wp2_with fail
      refine (fb _).mono ?_
      rintro e _ ⟨rfl, rfl⟩
      by_cases hyq : y = q
      · subst hyq
        by_cases hl : s.size = x + y
        · have n1 : ((s.size : Int) != (x : Int) + y) = false := by simp; omega
          go_wp2_with fail
          go_ret
          exact ⟨ret_i (by rw [HR.out]; simp [hl]), rfl⟩
        · have n1 : ((s.size : Int) != (x : Int) + y) = true := by simp; omega
          go_wp2_with fail
          go_ret
          exact ⟨ret_i (by rw [HR.out]; simp [hl]), rfl⟩
      · have n1 : ((y : Int) != (q : Int)) = true := by simp; omega
        go_wp2_with fail
        go_ret
        exact ⟨ret_i (by rw [HR.out]; simp [hyq]), rfl⟩
    · have n1 : ((x : Int) != (p : Int)) = true := by simp; omega
      go_wp2_with fail
      go_ret
      exact ⟨ret_i (by rw [HR.out]; simp [hxp]), rfl⟩
  · have HR : Hid (Fo.code a b s.data.toList = 1) := by unfold Fo.code; rw [if_neg hsh]; exact Lib.hid rfl
    have HS : Hid (Fo.sheet a b = false) := Lib.hid (by simpa using hsh)
    clear hsh
    go_enter Try.func53, Try.ntmps53
    go_wp2_with fail
    refine (isSheet_any a b _).mono ?_
    rintro e _ ⟨rfl, rfl⟩
    rw [HS.out]
    go_wp2_with fail
    go_ret
    exact ⟨ret_i HR.out.symm, rfl⟩

theorem code_scheme (a b : Int) (l : List UInt8) : decide (Fo.code a b l = 0) = Fo.scheme a b l := by
  unfold Fo.code
  by_cases h1 : Fo.sheet a b = true
  · rw [if_pos h1]
    cases Fo.scheme a b l <;> rfl
  · rw [if_neg h1]
    have : Fo.sheet a b = false := by simpa using h1
    unfold Fo.scheme
    rw [this]
    rfl
end Go.Proofs.Ytnfnmdeiaihgnaa
