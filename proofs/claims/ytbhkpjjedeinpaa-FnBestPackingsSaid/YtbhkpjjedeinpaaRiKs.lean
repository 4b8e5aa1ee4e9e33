/- Contracts of the library's comparison and insertion sort over an array of twelve numbers. -/
import Derived.Test.YtbhkpjjedeinpaaRiVt
import Derived.BigQuiet
import Derived.Deep.QuietTactic
namespace Go.Proofs.Ytbhkpjjedeinpaa
open Go.RowKit
set_option linter.unusedVariables false

theorem isNan_any (x : Int) (w : World) :
    Calls Try.prog 70 #[.int .i64 x] w fun e w' => e = .returned (.bool false) ∧ w = w' := by
  have hx : (x != x) = false := by simp
  go_enter Try.func70, Try.ntmps70
  go_wp2_with fail
  go_ret
  exact ⟨ret_b (by simp), rfl⟩
theorem less_any (x y : Int) (w : World) :
    Calls Try.prog 91 #[.int .i64 x, .int .i64 y] w fun e w' => e = .returned (.bool (decide (x < y))) ∧ w = w' := by
  have hn := fun W => isNan_any x W
  go_enter Try.func91, Try.ntmps91
  go_wp2_with fail
  refine (hn _).mono ?_
  rintro e _ ⟨rfl, rfl⟩
  go_wp2_with fail
  go_ret
  exact ⟨rfl, rfl⟩
/-- An array of twelve numbers. -/
def Ar (w : World) (g : Nat) (l : List Int) : Prop := l.length = 12 ∧ Blk w g (l.map I).toArray 74
theorem Ar.at_ {w : World} {g k : Nat} {l : List Int} (h : Ar w g l) (hk : k < 12) : ∃ x, l[k]? = some x ∧ w.cell? ⟨g, k, none⟩ = some (.int .i64 x) ∧ w.frozen? ⟨g, k, none⟩ = false := by
  have hl : k < l.length := by rw [h.1]; exact hk
  refine ⟨l[k], List.getElem?_eq_getElem hl, h.2.cell k ?_, h.2.free k⟩
  rw [List.getElem?_toArray, List.getElem?_map, List.getElem?_eq_getElem hl]
  rfl
theorem Ar.set_ {w : World} {g : Nat} {l : List Int} (h : Ar w g l) (k : Nat) (x : Int) : Ar (w.setCell ⟨g, k, none⟩ (.int .i64 x)) g (l.set k x) := by
  refine ⟨by rw [List.length_set]; exact h.1, ?_⟩
  have := h.2.set k (.int .i64 x)
  rw [List.map_set]
  simpa using this
theorem Ar.q {w w' : World} {g : Nat} {l : List Int} (h : Ar w g l) (hq : Q w w') : Ar w' g l := ⟨h.1, h.2.q hq⟩
theorem swap_perm {l : List Int} {k : Nat} {x y : Int} (hx : l[k + 1]? = some x) (hy : l[k]? = some y) : ((l.set (k + 1) y).set k x).Perm l := by
  have h1 : (l.set k x)[k + 1]? = some x := by rw [List.getElem?_set_ne (by omega)]; exact hx
  have e : (l.set (k + 1) y).set k x = (l.set k x).set (k + 1) y := by rw [List.set_comm _ _ (by omega)]
  obtain ⟨hk1, ex⟩ := List.getElem?_eq_some_iff.1 hx
  obtain ⟨hk, ey⟩ := List.getElem?_eq_some_iff.1 hy
  have e1 : l = l.take k ++ y :: x :: l.drop (k + 2) := by
    have h2 := List.take_append_drop k l
    rw [List.drop_eq_getElem_cons hk, List.drop_eq_getElem_cons hk1, ex, ey] at h2
    exact h2.symm
  have hlt : (l.take k).length = k := by rw [List.length_take]; omega
  have e2 : (l.set (k + 1) y).set k x = l.take k ++ x :: y :: l.drop (k + 2) := by
    conv => lhs; rw [e1]
    rw [List.set_append_right _ _ (by omega), hlt]
    have : k + 1 - k = 1 := by omega
    rw [this]
    simp only [List.set_cons_succ, List.set_cons_zero]
    rw [List.set_append_right _ _ (by omega), hlt]
    simp
  rw [e2]
  conv => rhs; rw [e1]
  exact List.Perm.append_left _ (List.Perm.swap _ _ _)
set_option maxRecDepth 100000 in
set_option maxHeartbeats 8000000 in
theorem insOrd_any (g : Nat) (l : List Int) (w : World) (h : Ar w g l) :
    Calls Try.prog 85 #[.slice (some ⟨g, 0, none⟩) 12 12, .int .i64 0, .int .i64 12] w fun e w' => e = .returned (.tuple #[]) ∧ ∃ l', Ar w' g l' ∧ l'.Perm l ∧ Only g (g + 1) w w' := by
  go_enter Try.func85, Try.ntmps85
  go_wp2_with fail
  go_loopw [6, 7] (fun i _ wr => ∃ (k : Nat) (l' : List Int), 1 ≤ k ∧ k ≤ 12 ∧ i = .int .i64 k ∧ Ar wr g l' ∧ Hid (l'.Perm l) ∧ Only g (g + 1) w wr) (fun i _ _ => 12 - (intOf i).toNat)
  case atStart => exact ⟨1, l, by omega, by omega, rfl, h, Lib.hid (List.Perm.refl _), Only.refl _ _ _⟩
  case round =>
    obtain ⟨k, l1, hk1, hk, rfl, ha, HP, ho⟩ := hrel
    by_cases hlt : k < 12
    · have hltI : (k : Int) < 12 := by omega
      go_wp2_with fail
      obtain ⟨w1, hw1⟩ : ∃ w1, w1 = wr := ⟨_, rfl⟩
      have HW1 := Lib.hid hw1
      clear hw1
      go_loopw [7] (fun j wr => ∃ (m : Nat) (l' : List Int), m ≤ k ∧ j = .int .i64 m ∧ Ar wr g l' ∧ Hid (l'.Perm l) ∧ Only g (g + 1) w wr) (fun j _ => (intOf j).toNat)
      case atStart => exact ⟨k, l1, Nat.le_refl _, rfl, ha, HP, ho⟩
      case round =>
        clear ha HP ho
        obtain ⟨m, l2, hm, rfl, ha, HP, ho⟩ := hrel
        rcases m with _ | q
        · have hd0 : decide ((0 : Int) > 0) = false := by decide
          go_wp2_with fail
          go_quiet (fail)
          go_wp2_with fail
          go_roundw
          case rel => exact ⟨k + 1, l2, by omega, by omega, by go_num, ha.q (Q.drewN _ _), HP, ho.drewN _⟩
          case measure => simp [intOf]; omega
        · obtain ⟨x, hx, cx, fx⟩ := ha.at_ (k := q + 1) (by omega)
          obtain ⟨y, hy, cy, fy⟩ := ha.at_ (k := q) (by omega)
          have HX := Lib.hid hx
          have HY := Lib.hid hy
          have ep : ((q + 1 : Nat) : Int) = (q : Int) + 1 := by omega
          have i1 : (q : Int) + 1 < 12 := by omega
          have i2 : (q : Int) < 12 := by omega
          have i3 : 0 < (q : Int) + 1 := by omega
          have ew : IntKind.i64.wrap ((q : Int) + 1 - 1) = (q : Int) := by rw [show (q : Int) + 1 - 1 = q from by omega]; exact IntWalk.i64_in _ (by omega)
          have hls := fun W => less_any x y W
          clear hx hy
          by_cases hxy : x < y
          · rw [decide_eq_true hxy] at hls
            go_wp2_with fail
            go_quiet (first | (go_at_call 91; with_reducible exact quiet_same (hls _)))
            have hset := (ha.set_ (q + 1) y).set_ q x
            have HPM : Hid (((l2.set (q + 1) y).set q x).Perm l) := Lib.hid ((swap_perm HX.out HY.out).trans HP.out)
            have HO2 := Lib.hid (only_set (only_set ho (.int .i64 y) (g := g) (i := q + 1) (Nat.le_refl _) (by omega)) (.int .i64 x) (g := g) (i := q) (Nat.le_refl _) (by omega))
            have HS := Lib.hid hset
            clear hset ha ho HP
            go_wp2_with fail
            go_region
            go_wp2_with fail
            go_roundw
            case rel => exact ⟨q, _, by omega, by go_num, HS.out.q (Q.drewN _ _), HPM, HO2.out.drewN _⟩
            case measure => simp [intOf]
          · rw [decide_eq_false hxy] at hls
            go_wp2_with fail
            go_quiet (first | (go_at_call 91; with_reducible exact quiet_same (hls _)))
            go_wp2_with fail
            go_roundw
            case rel => exact ⟨k + 1, l2, by omega, by omega, by go_num, ha.q (Q.drewN _ _), HP, ho.drewN _⟩
            case measure => simp [intOf]; omega
    · obtain rfl : k = 12 := by omega
      go_wp2_with fail
      go_end0
      exact ⟨rfl, l1, ha, HP.out, ho⟩
end Go.Proofs.Ytbhkpjjedeinpaa
