/- Contracts of the model's code of a sheet of cells, and of the size of a sheet while it is folded. -/
import Derived.Test.YtnfnmdeiaihgnaaSuMath
import Derived.Test.YtnfnmdeiaihgnaaFoIs
import Derived.Test.YtnfnmdeiaihgnaaGuIm
namespace Go.Proofs.Ytnfnmdeiaihgnaa
open Go.RowKit
set_option linter.unusedVariables false

theorem specAl_any (x : UInt8) (b : Bool) (w : World) (hb : Fo.isX x = b) :
    Calls Try.prog 59 #[.int .u8 x.toNat] w fun e w' => e = .returned (.bool b) ∧ w = w' := by
  subst hb
  by_cases h76 : x.toNat = 76
  · have e : x = 76 := UInt8.toNat_inj.mp h76
    subst e
    go_enter Try.func59, Try.ntmps59
    go_wp2_with fail
    go_ret
    exact ⟨rfl, rfl⟩
  by_cases h82 : x.toNat = 82
  · have e : x = 82 := UInt8.toNat_inj.mp h82
    subst e
    go_enter Try.func59, Try.ntmps59
    go_wp2_with fail
    go_ret
    exact ⟨rfl, rfl⟩
  have HF : Hid (Fo.isX x = false) := Lib.hid (by
    unfold Fo.isX
    simp only [Bool.or_eq_false_iff, beq_eq_false_iff_ne]
    exact ⟨fun h => h76 (by rw [h]; rfl), fun h => h82 (by rw [h]; rfl)⟩)
  have hi1 : ¬ ((x.toNat : Int) = 76) := by omega
  have hi2 : ¬ ((x.toNat : Int) = 82) := by omega
  have hj1 : ((x.toNat : Int) == 76) = false := by simpa using hi1
  have hj2 : ((x.toNat : Int) == 82) = false := by simpa using hi2
  go_enter Try.func59, Try.ntmps59
  go_wp2_with fail
  go_ret
  exact ⟨ret_b (by rw [HF.out]), rfl⟩

set_option maxRecDepth 100000 in
theorem specSu_any (a b : Int) (c : Pc) (s : ByteArray) (C : Int) (w : World) (hs : s.size ≤ 1048577) (hC : Su.code a b c s.data.toList = C) :
    Calls Try.prog 57 #[.int .i64 a, .int .i64 b, c.agg, .string s] w fun e w' => e = .returned (.int .i64 C) ∧ Below w.heap.size w w' := by
  have HB := Lib.hid (below_new9 w (.cells #[.int .i64 c.w, .int .i64 c.h] 25))
  obtain ⟨p, hp⟩ : ∃ p, Fo.sheet a b = p := ⟨_, rfl⟩
  obtain ⟨q, hq⟩ : ∃ q, Gu.okP c = q := ⟨_, rfl⟩
  obtain ⟨r, hr⟩ : ∃ r, Fo.scheme a b s.data.toList = r := ⟨_, rfl⟩
  have HC : Hid ((if p = true ∧ q = true then (if r = true then 0 else 2) else 1 : Int) = C) := Lib.hid (by rw [← hC, ← hp, ← hq, ← hr]; rfl)
  have HP := fun W => (specSheet_any a b W)
  have HR := fun W => (specIsScheme_any a b s W hs)
  rw [hp] at HP
  rw [hr] at HR
  have HQ := Lib.hid hq
  clear hC hp hq hr
  go_enter Try.func57, Try.ntmps57
  go_wp2_with fail
  refine (HP _).mono ?_
  rintro e _ ⟨rfl, rfl⟩
  cases p
  · go_wp2_with fail
    go_ret
    exact ⟨ret_i HC.out, HB.out⟩
  · go_wp2_with fail
    refine (specPc_any c q _ HQ.out).mono ?_
    rintro e w1 ⟨rfl, hb1⟩
    have HB1 := Lib.hid (HB.out.trans (hb1.mono HB.out.size))
    cases q
    · go_wp2_with fail
      go_ret
      exact ⟨ret_i HC.out, HB1.out⟩
    · go_wp2_with fail
      refine (HR _).mono ?_
      rintro e _ ⟨rfl, rfl⟩
      cases r
      · go_wp2_with fail
        go_ret
        exact ⟨ret_i HC.out, HB1.out⟩
      · go_wp2_with fail
        go_ret
        exact ⟨ret_i HC.out, HB1.out⟩
end Go.Proofs.Ytnfnmdeiaihgnaa
