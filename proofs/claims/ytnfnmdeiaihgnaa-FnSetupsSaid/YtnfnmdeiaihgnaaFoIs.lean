/- Contracts of the functions that tell whether a sheet and a scheme are ones, the model's. -/
import Derived.Test.YtnfnmdeiaihgnaaStr
import Derived.Test.YtnfnmdeiaihgnaaFoMath
import Derived.WalkSpells
namespace Go.Proofs.Ytnfnmdeiaihgnaa
open Go.RowKit

namespace Fo
theorem nX_snoc (l : List UInt8) (c : UInt8) : nX (l ++ [c]) = nX l + (if isX c = true then 1 else 0) := by unfold nX; rw [List.countP_append]; cases h : isX c <;> simp [h]
theorem nY_snoc (l : List UInt8) (c : UInt8) : nY (l ++ [c]) = nY l + (if isX c = true then 0 else 1) := by unfold nY; rw [List.countP_append]; cases h : isX c <;> simp [h]
theorem ok_snoc (l : List UInt8) (c : UInt8) : ok (l ++ [c]) = (ok l && (isX c || isY c)) := by simp [ok]
theorem nX_le (l : List UInt8) : nX l ≤ l.length := List.countP_le_length
theorem nY_le (l : List UInt8) : nY l ≤ l.length := List.countP_le_length
theorem not_ok_at {l : List UInt8} {k : Nat} {c : UInt8} (hc : l[k]? = some c) (h : isX c = false) (h' : isY c = false) : ok l = false := by
  unfold ok
  rw [← Bool.not_eq_true, List.all_eq_true]
  intro h2
  have := h2 c (List.mem_of_getElem? hc)
  rw [h, h'] at this
  cases this
theorem side_no {n : Int} (h : ¬ n = 1) (h2 : ¬ n = 2) (h4 : ¬ n = 4) (h8 : ¬ n = 8) : side n = false ∧ pw n = 0 := by
  simp [side, pw, h, h2, h4, h8]
/-- The code of a sheet and a scheme. -/
def code (w h : Int) (s : List UInt8) : Int := if sheet w h = true then (if scheme w h s = true then 0 else 2) else 1
end Fo

set_option maxRecDepth 100000 in
theorem power_any (n : Int) (w : World) :
    Calls Try.prog 104 #[.int .i64 n] w fun e w' => e = .returned (.tuple #[.int .i64 (Fo.pw n : Int), .bool (Fo.side n)]) ∧ w = w' := by
  by_cases h1 : n = 1
  · subst h1
    go_enter Try.func104, Try.ntmps104
    go_wp2
    go_ret2
    exact ⟨rfl, rfl⟩
  by_cases h2 : n = 2
  · subst h2
    clear h1
    go_enter Try.func104, Try.ntmps104
    go_wp2
    go_ret2
    exact ⟨rfl, rfl⟩
  by_cases h4 : n = 4
  · subst h4
    clear h1 h2
    go_enter Try.func104, Try.ntmps104
    go_wp2
    go_ret2
    exact ⟨rfl, rfl⟩
  by_cases h8 : n = 8
  · subst h8
    clear h1 h2 h4
    go_enter Try.func104, Try.ntmps104
    go_wp2
    go_ret2
    exact ⟨rfl, rfl⟩
  have HN := Lib.hid (Fo.side_no h1 h2 h4 h8)
  go_enter Try.func104, Try.ntmps104
  go_wp2
  go_ret2
  rw [HN.out.1, HN.out.2]
  exact ⟨rfl, rfl⟩

theorem power_at (n : Int) (p : Nat) (q : Bool) (w : World) (hp : p = Fo.pw n) (hq : q = Fo.side n) :
    Calls Try.prog 104 #[.int .i64 n] w fun e w' => e = .returned (.tuple #[.int .i64 (p : Int), .bool q]) ∧ w = w' := by
  subst hp hq
  exact power_any n w

set_option maxRecDepth 100000 in
theorem specSheet_any (a b : Int) (w : World) :
    Calls Try.prog 94 #[.int .i64 a, .int .i64 b] w fun e w' => e = .returned (.bool (Fo.sheet a b)) ∧ w = w' := by
  obtain ⟨p, hp⟩ : ∃ p, p = Fo.pw a := ⟨_, rfl⟩
  obtain ⟨q, hq⟩ : ∃ q, q = Fo.pw b := ⟨_, rfl⟩
  obtain ⟨sa, hsa⟩ : ∃ x, x = Fo.side a := ⟨_, rfl⟩
  obtain ⟨sb, hsb⟩ : ∃ x, x = Fo.side b := ⟨_, rfl⟩
  have HR : Hid (Fo.sheet a b = (sa && sb)) := by
    rw [hsa, hsb]
    exact Lib.hid rfl
  have HA := Lib.hid (And.intro hp hsa)
  have HB := Lib.hid (And.intro hq hsb)
  clear hp hq hsa hsb
  go_enter Try.func94, Try.ntmps94
  go_wp2_with fail
  refine (power_at a p sa _ HA.out.1 HA.out.2).mono ?_
  rintro e _ ⟨rfl, rfl⟩
  go_wp2_with fail
  refine (power_at b q sb _ HB.out.1 HB.out.2).mono ?_
  rintro e _ ⟨rfl, rfl⟩
  clear HA HB
  cases sa <;> cases sb
  all_goals
    go_wp2_with fail
    go_ret
    exact ⟨ret_b HR.out.symm, rfl⟩

set_option maxRecDepth 100000 in
set_option maxHeartbeats 2000000 in
theorem specIsScheme_any (a b : Int) (s : ByteArray) (w : World) (hs : s.size ≤ 1048577) :
    Calls Try.prog 96 #[.int .i64 a, .int .i64 b, .string s] w fun e w' => e = .returned (.bool (Fo.scheme a b s.data.toList)) ∧ w = w' := by
  obtain ⟨p, hp⟩ : ∃ p, p = Fo.pw a := ⟨_, rfl⟩
  obtain ⟨q, hq⟩ : ∃ q, q = Fo.pw b := ⟨_, rfl⟩
  obtain ⟨sa, hsa⟩ : ∃ x, x = Fo.side a := ⟨_, rfl⟩
  obtain ⟨sb, hsb⟩ : ∃ x, x = Fo.side b := ⟨_, rfl⟩
  have HR : Hid (Fo.scheme a b s.data.toList = (sa && sb && Fo.ok s.data.toList && (Fo.nX s.data.toList == p) && (Fo.nY s.data.toList == q))) := by
    rw [hp, hq, hsa, hsb]
    exact Lib.hid rfl
  have hp3 : p ≤ 3 := by rw [hp]; unfold Fo.pw; split <;> (try split) <;> (try split) <;> omega
  have hq3 : q ≤ 3 := by rw [hq]; unfold Fo.pw; split <;> (try split) <;> (try split) <;> omega
  have HA := Lib.hid (And.intro hp hsa)
  have HB := Lib.hid (And.intro hq hsb)
  clear hp hq hsa hsb
  go_enter Try.func96, Try.ntmps96
  go_wp2_with fail
  refine (power_at a p sa _ HA.out.1 HA.out.2).mono ?_
  rintro e _ ⟨rfl, rfl⟩
  go_wp2_with fail
  refine (power_at b q sb _ HB.out.1 HB.out.2).mono ?_
  rintro e _ ⟨rfl, rfl⟩
  clear HA HB
  go_wp2_with fail
  go_loop [7, 9, 11] (fun u v i => ∃ k x y : Nat, k ≤ s.size ∧ x ≤ k ∧ y ≤ k ∧ i = .int .i64 k ∧ u = .int .i64 ((p : Int) - x) ∧ v = .int .i64 ((q : Int) - y) ∧ Hid (x = Fo.nX (s.data.toList.take k) ∧ y = Fo.nY (s.data.toList.take k) ∧ Fo.ok (s.data.toList.take k) = true)) (fun _ _ i => s.size - (intOf i).toNat)
  case atStart => exact ⟨0, 0, 0, Nat.zero_le _, Nat.le_refl _, Nat.le_refl _, rfl, by simp, by simp, Lib.hid (by simp [Fo.nX, Fo.nY, Fo.ok])⟩
  case round =>
    obtain ⟨k, x, y, hk, hx, hy, rfl, rfl, rfl, ha⟩ := hrel
    by_cases hlt : k < s.size
    · obtain ⟨c, hc⟩ := str_get s k hlt
      have hix := index_str s k c hc
      have HC := Lib.hid hc
      have HN := Lib.hid (take_more _ k c hc)
      have hcl : c.toNat < 256 := c.toNat_lt
      have e1 : IntKind.i64.wrap ((p : Int) - x - 1) = (p : Int) - ((x + 1 : Nat) : Int) := by rw [IntWalk.i64_in _ (by omega)]; omega
      have e2 : IntKind.i64.wrap ((q : Int) - y - 1) = (q : Int) - ((y + 1 : Nat) : Int) := by rw [IntWalk.i64_in _ (by omega)]; omega
      have H1 := Lib.hid e1
      have H2 := Lib.hid e2
      clear hc e1 e2
      have keyX : Fo.isX c = true → Hid (x + 1 = Fo.nX (s.data.toList.take (k + 1)) ∧ y = Fo.nY (s.data.toList.take (k + 1)) ∧ Fo.ok (s.data.toList.take (k + 1)) = true) := fun h => by
        obtain ⟨a1, a2, a3⟩ := ha.out
        refine Lib.hid ?_
        rw [HN.out, Fo.nX_snoc, Fo.nY_snoc, Fo.ok_snoc, h, ← a1, ← a2, a3]
        simp
      have keyY : Fo.isX c = false → Fo.isY c = true → Hid (x = Fo.nX (s.data.toList.take (k + 1)) ∧ y + 1 = Fo.nY (s.data.toList.take (k + 1)) ∧ Fo.ok (s.data.toList.take (k + 1)) = true) := fun h h' => by
        obtain ⟨a1, a2, a3⟩ := ha.out
        refine Lib.hid ?_
        rw [HN.out, Fo.nX_snoc, Fo.nY_snoc, Fo.ok_snoc, h, h', ← a1, ← a2, a3]
        simp
      have KX := Lib.hid keyX
      have KY := Lib.hid keyY
      clear keyX keyY
      by_cases h76 : c.toNat = 76
      · have HL : Hid (Fo.isX c = true) := by
          have : c = 76 := UInt8.toNat_inj.mp h76
          subst this
          exact Lib.hid rfl
        rw [h76] at hix
        clear h76
        go_wp2_with fail
        go_round
        case rel => exact ⟨k + 1, x + 1, y, by omega, by omega, by omega, by go_num, by congr 1; omega, rfl, KX.out HL.out⟩
        case measure => simp [intOf]; omega
      by_cases h82 : c.toNat = 82
      · have HL : Hid (Fo.isX c = true) := by
          have : c = 82 := UInt8.toNat_inj.mp h82
          subst this
          exact Lib.hid rfl
        rw [h82] at hix
        clear h82 h76
        go_wp2_with fail
        go_round
        case rel => exact ⟨k + 1, x + 1, y, by omega, by omega, by omega, by go_num, by congr 1; omega, rfl, KX.out HL.out⟩
        case measure => simp [intOf]; omega
      by_cases h84 : c.toNat = 84
      · have HL : Hid (Fo.isX c = false ∧ Fo.isY c = true) := by
          have : c = 84 := UInt8.toNat_inj.mp h84
          subst this
          exact Lib.hid ⟨rfl, rfl⟩
        rw [h84] at hix
        clear h82 h76 h84
        go_wp2_with fail
        go_round
        case rel => exact ⟨k + 1, x, y + 1, by omega, by omega, by omega, by go_num, rfl, by congr 1; omega, KY.out HL.out.1 HL.out.2⟩
        case measure => simp [intOf]; omega
      by_cases h66 : c.toNat = 66
      · have HL : Hid (Fo.isX c = false ∧ Fo.isY c = true) := by
          have : c = 66 := UInt8.toNat_inj.mp h66
          subst this
          exact Lib.hid ⟨rfl, rfl⟩
        rw [h66] at hix
        clear h82 h76 h84 h66
        go_wp2_with fail
        go_round
        case rel => exact ⟨k + 1, x, y + 1, by omega, by omega, by omega, by go_num, rfl, by congr 1; omega, KY.out HL.out.1 HL.out.2⟩
        case measure => simp [intOf]; omega
      · have HL : Hid (Fo.scheme a b s.data.toList = false) := by
          have i1 : Fo.isX c = false := by
            simp only [Fo.isX, Bool.or_eq_false_iff, beq_eq_false_iff_ne]
            exact ⟨fun h => h76 (by rw [h]; rfl), fun h => h82 (by rw [h]; rfl)⟩
          have i2 : Fo.isY c = false := by
            simp only [Fo.isY, Bool.or_eq_false_iff, beq_eq_false_iff_ne]
            exact ⟨fun h => h84 (by rw [h]; rfl), fun h => h66 (by rw [h]; rfl)⟩
          refine Lib.hid ?_
          rw [HR.out, Fo.not_ok_at HC.out i1 i2]
          simp
        have n1 : ¬ ((c.toNat : Int) = 76) := by omega
        have n2 : ¬ ((c.toNat : Int) = 82) := by omega
        have n3 : ¬ ((c.toNat : Int) = 84) := by omega
        have n4 : ¬ ((c.toNat : Int) = 66) := by omega
        clear h76 h82 h84 h66
        go_wp2_with fail
        go_ret
        exact ⟨ret_b HL.out.symm, rfl⟩
    · obtain rfl : k = s.size := by omega
      obtain ⟨a1, a2, a3⟩ := ha.out
      rw [List.take_of_length_le (Nat.le_of_eq (toList_len s))] at a1 a2 a3
      have HE : Hid (Fo.scheme a b s.data.toList = (sa && sb && (x == p) && (y == q))) := by
        rw [HR.out, a3, ← a1, ← a2, Bool.and_true]
        exact Lib.hid rfl
      clear a1 a2 a3 hlt
      have HB : Hid (Fo.scheme a b s.data.toList = (sa && sb && decide ((p : Int) - x = 0) && decide ((q : Int) - y = 0))) := by
        rw [HE.out]
        refine Lib.hid ?_
        congr 1
        · congr 1
          rw [Bool.eq_iff_iff]
          simp
          omega
        · rw [Bool.eq_iff_iff]
          simp
          omega
      cases sa <;> cases sb
      case true.true =>
        by_cases hx0 : (p : Int) - x = 0
        · have b1 : decide ((p : Int) - x = 0) = true := by simpa using hx0
          by_cases hy0 : (q : Int) - y = 0
          · go_wp2_with fail
            go_ret
            exact ⟨ret_b (by rw [HB.out]; simp [hx0, hy0]), rfl⟩
          · go_wp2_with fail
            go_ret
            exact ⟨ret_b (by rw [HB.out]; simp [hx0, hy0]), rfl⟩
        · go_wp2_with fail
          go_ret
          exact ⟨ret_b (by rw [HB.out]; simp [hx0]), rfl⟩
      all_goals
        go_wp2_with fail
        go_ret
        exact ⟨ret_b (by rw [HB.out]; rfl), rfl⟩

end Go.Proofs.Ytnfnmdeiaihgnaa
