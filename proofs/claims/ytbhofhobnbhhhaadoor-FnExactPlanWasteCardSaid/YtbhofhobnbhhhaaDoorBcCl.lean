/- Contract of the model's l12Close: the bracket that closes one. -/
import Derived.Test.YtbhofhobnbhhhaaDoorStr
import Derived.Test.YtbhofhobnbhhhaaDoorBcIm
namespace Go.Proofs.YtbhofhobnbhhhaaDoor
open Go.RowKit
set_option linter.unusedVariables false
namespace Bc
/-- The depth behind a byte. -/
def dep (c : Nat) (d : Int) : Int := if c = 40 then d + 1 else if c = 41 then d - 1 else d
/-- The place of the first byte behind which the depth is 0, or -1. -/
def closeF : List UInt8 → Nat → Int → Int
  | [], _, _ => -1
  | c :: l, i, d => if dep c.toNat d = 0 then (i : Int) else closeF l (i + 1) (dep c.toNat d)
def close (l : List UInt8) (i : Nat) : Int := closeF (l.drop i) i 0
theorem closeF_at {l : List UInt8} {k : Nat} {c : UInt8} {d : Int} (hc : l[k]? = some c) : closeF (l.drop k) k d = if dep c.toNat d = 0 then (k : Int) else closeF (l.drop (k + 1)) (k + 1) (dep c.toNat d) := by
  have hlt := (List.getElem?_eq_some_iff.1 hc).1
  have hd : l.drop k = c :: l.drop (k + 1) := by
    rw [List.drop_eq_getElem_cons hlt]
    congr 1
    rw [List.getElem?_eq_getElem hlt] at hc
    injection hc
  rw [hd]
  rfl
theorem closeF_end {l : List UInt8} {k : Nat} {d : Int} (h : l.length ≤ k) : closeF (l.drop k) k d = -1 := by
  rw [List.drop_of_length_le h]
  rfl
end Bc

set_option maxRecDepth 100000 in
set_option maxHeartbeats 2000000 in
theorem specCl_any (s : ByteArray) (p : Nat) (R : Int) (w : World) (hs : s.size ≤ 1048576) (hp : p ≤ s.size) (hR : Bc.close s.data.toList p = R) :
    Calls Tryd.prog 100 #[.string s, .int .i64 p] w fun e w' => e = .returned (.int .i64 R) ∧ w = w' := by
  have HR : Hid (Bc.closeF (s.data.toList.drop p) p 0 = R) := Lib.hid hR
  clear hR
  go_enter Tryd.func100, Tryd.ntmps100
  go_wp2_with fail
  go_loop [5, 6] (fun d i => ∃ (k : Nat) (y : Int), (p ≤ k ∧ k ≤ s.size) ∧ i = .int .i64 k ∧ d = .int .i64 y ∧ (-1048577 ≤ y + (s.size - k : Int) ∧ -(k : Int) ≤ y ∧ y ≤ k) ∧ Hid (Bc.closeF (s.data.toList.drop k) k y = R)) (fun _ i => s.size - (intOf i).toNat)
  case atStart => exact ⟨p, 0, by omega, rfl, rfl, by omega, HR⟩
  case round =>
    obtain ⟨k, y, hk, rfl, rfl, hy, HT⟩ := hrel
    by_cases hlt : k < s.size
    · have hltI : (k : Int) < s.size := by omega
      obtain ⟨c, hc⟩ := str_get s k hlt
      have hix := index_str s k c hc
      have HC : Hid ((if Bc.dep c.toNat y = 0 then (k : Int) else Bc.closeF (s.data.toList.drop (k + 1)) (k + 1) (Bc.dep c.toNat y)) = R) := Lib.hid ((Bc.closeF_at hc).symm.trans HT.out)
      clear hc HT
      have ey1 : IntKind.i64.wrap (y + 1) = y + 1 := IntWalk.i64_in _ (by omega)
      have ey2 : IntKind.i64.wrap (y - 1) = y - 1 := IntWalk.i64_in _ (by omega)
      obtain ⟨b, hb⟩ : ∃ b, c.toNat = b := ⟨_, rfl⟩
      rw [hb] at hix HC
      clear hb
      by_cases h40 : b = 40
      · subst h40
        have HD : Hid (Bc.dep 40 y = y + 1) := Lib.hid rfl
        obtain ⟨z, hz⟩ : ∃ z, y + 1 = z := ⟨_, rfl⟩
        rw [hz] at HD ey1
        have HC2 := HC.out
        rw [HD.out] at HC2
        by_cases z0 : z = 0
        · rw [if_pos z0] at HC2
          have HE := Lib.hid HC2
          subst z0
          clear HC2
          go_wp2_with fail
          go_ret
          exact ⟨congrArg (fun v => Ending.returned (.int .i64 v)) HE.out, rfl⟩
        · rw [if_neg z0] at HC2
          have HE := Lib.hid HC2
          have zb : (-1048577 ≤ z + (s.size - (k + 1 : Nat) : Int) ∧ -((k + 1 : Nat) : Int) ≤ z ∧ z ≤ (k + 1 : Nat)) := by omega
          have z0' : (z == 0) = false := by simpa using z0
          clear HC2
          go_wp2_with fail
          go_round
          case rel => exact ⟨k + 1, _, by omega, by go_num, rfl, zb, HE⟩
          case measure => simp [intOf]; omega
      · by_cases h41 : b = 41
        · subst h41
          have HD : Hid (Bc.dep 41 y = y - 1) := Lib.hid rfl
          obtain ⟨z, hz⟩ : ∃ z, y - 1 = z := ⟨_, rfl⟩
          rw [hz] at HD ey2
          have HC2 := HC.out
          rw [HD.out] at HC2
          by_cases z0 : z = 0
          · rw [if_pos z0] at HC2
            have HE := Lib.hid HC2
            subst z0
            clear HC2
            go_wp2_with fail
            go_ret
            exact ⟨congrArg (fun v => Ending.returned (.int .i64 v)) HE.out, rfl⟩
          · rw [if_neg z0] at HC2
            have HE := Lib.hid HC2
            have zb : (-1048577 ≤ z + (s.size - (k + 1 : Nat) : Int) ∧ -((k + 1 : Nat) : Int) ≤ z ∧ z ≤ (k + 1 : Nat)) := by omega
            have z0' : (z == 0) = false := by simpa using z0
            clear HC2
            go_wp2_with fail
            go_round
            case rel => exact ⟨k + 1, _, by omega, by go_num, rfl, zb, HE⟩
            case measure => simp [intOf]; omega
        · have HD : Hid (Bc.dep b y = y) := Lib.hid (by unfold Bc.dep; rw [if_neg h40, if_neg h41])
          have n1 : ¬ ((b : Int) = 40) := by omega
          have n2 : ¬ ((b : Int) = 41) := by omega
          have m1 : ((b : Int) == 40) = false := by simp; omega
          have m2 : ((b : Int) == 41) = false := by simp; omega
          clear h40 h41
          have HC2 := HC.out
          rw [HD.out] at HC2
          by_cases z0 : y = 0
          · rw [if_pos z0] at HC2
            have HE := Lib.hid HC2
            subst z0
            clear HC2
            go_wp2_with fail
            go_ret
            exact ⟨congrArg (fun v => Ending.returned (.int .i64 v)) HE.out, rfl⟩
          · rw [if_neg z0] at HC2
            have HE := Lib.hid HC2
            have zb : (-1048577 ≤ y + (s.size - (k + 1 : Nat) : Int) ∧ -((k + 1 : Nat) : Int) ≤ y ∧ y ≤ (k + 1 : Nat)) := by omega
            have z0' : (y == 0) = false := by simpa using z0
            clear HC2
            go_wp2_with fail
            go_round
            case rel => exact ⟨k + 1, _, by omega, by go_num, rfl, zb, HE⟩
            case measure => simp [intOf]; omega
    · obtain rfl : k = s.size := by omega
      have HE : Hid (R = -1) := Lib.hid (HT.out.symm.trans (Bc.closeF_end (Nat.le_of_eq (toList_len s))))
      go_wp2_with fail
      go_ret
      exact ⟨congrArg (fun v => Ending.returned (.int .i64 v)) HE.out.symm, rfl⟩
end Go.Proofs.YtbhofhobnbhhhaaDoor
