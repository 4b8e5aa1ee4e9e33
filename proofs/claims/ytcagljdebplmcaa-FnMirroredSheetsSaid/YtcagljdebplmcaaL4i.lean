/- The walk of the law FnMirroredSheets. -/
import Derived.Test.YtcagljdebplmcaaFoDs
import Derived.Test.YtcagljdebplmcaaFoMi
import Derived.Test.YtcagljdebplmcaaFoCe
import Derived.Test.YtcagljdebplmcaaFoEq
namespace Go.Proofs.Ytcagljdebplmcaa
open Go.RowKit

theorem sw_mir : swB = Fo.mir := by funext c; unfold swB Fo.mir; simp
theorem ms_nX (l : List UInt8) : Fo.nX (l.map Fo.mir) = Fo.nX l := by
  unfold Fo.nX
  rw [List.countP_map]
  congr 1
  funext c
  exact Fo.mir_isX c
theorem ms_nY (l : List UInt8) : Fo.nY (l.map Fo.mir) = Fo.nY l := by
  unfold Fo.nY
  rw [List.countP_map]
  congr 1
  funext c
  simp [Fo.mir_isX]
theorem mir_letter (c : UInt8) : (Fo.isX (Fo.mir c) || Fo.isY (Fo.mir c)) = (Fo.isX c || Fo.isY c) := by
  by_cases h1 : c = 76
  · subst h1; rfl
  · by_cases h2 : c = 82
    · subst h2; rfl
    · have : Fo.mir c = c := by unfold Fo.mir; simp [h1, h2]
      rw [this]
theorem ms_ok (l : List UInt8) : Fo.ok (l.map Fo.mir) = Fo.ok l := by
  unfold Fo.ok
  rw [List.all_map]
  congr 1
  funext c
  exact mir_letter c
theorem ms_code {a b : Int} {l : List UInt8} (h : Fo.code a b l = 0) : Fo.code a b (l.map swB) = 0 := by
  have h1 := Fo.code_zero h
  have h2 : Fo.scheme a b (l.map swB) = Fo.scheme a b l := by
    rw [sw_mir]
    unfold Fo.scheme
    rw [ms_nX, ms_nY, ms_ok]
  have := code_scheme a b (l.map swB)
  rw [h2, h1] at this
  simpa using this
theorem ms_leaf {a b : Int} {l : List UInt8} (h : Fo.code a b l = 0) {j : Nat} {x : Lv} (hx : (LVs l)[j]? = some x) :
    (LVs (l.map swB))[j]? = some ⟨a - 1 - x.x, x.y, x.fx, x.fy⟩ ∧ 0 ≤ x.x ∧ x.x < a ∧ 0 ≤ x.y ∧ x.y < b := by
  have hs := Fo.code_zero h
  have hc := LVs_cell hx
  have hin := cell_in hs hc.1
  refine ⟨?_, by rw [hc.2.1]; exact hin.1, by rw [hc.2.1]; exact hin.2.1, by rw [hc.2.2]; exact hin.2.2.1, by rw [hc.2.2]; exact hin.2.2.2⟩
  have hj := hc.1
  rw [LVs_get l j hj] at hx
  injection hx with hx
  subst hx
  rw [LVs_get _ j (by rw [List.length_map]; exact hj), sw_mir, ← List.map_reverse]
  have hm := Fo.leaf_mir l.reverse 1 1 0 0 j (by omega) (by omega) (by rw [List.length_reverse]; exact hj)
  have hm' : Fo.leaf (l.reverse.map Fo.mir) 1 1 0 0 j = (Fo.leaf l.reverse 1 1 0 0 j).mir (1 * 2 ^ Fo.nX l.reverse) := hm
  rw [hm', Nat.one_mul]
  have hw := (sheet_side hs).1
  have hlt := hin.2.1
  unfold cellX Fo.Lf.v at hlt
  simp only at hlt
  unfold Fo.Lf.mir Fo.Lf.v
  simp only
  congr 2
  rw [hw] at hlt ⊢
  generalize 2 ^ Fo.nX l.reverse = W at hlt ⊢
  omega
theorem fo_side {a b : Int} {l : List UInt8} (h : Fo.code a b l = 0) : 0 ≤ a ∧ a ≤ 8 ∧ 0 ≤ b ∧ b ≤ 8 := by
  obtain ⟨_, _, _, h3, h4, _⟩ := Fo.scheme_len (Fo.code_zero h)
  rcases Fo.side_cases h3 with h | h | h | h <;> rcases Fo.side_cases h4 with h' | h' | h' | h' <;> omega

set_option maxRecDepth 100000 in
set_option maxHeartbeats 2000000 in
theorem w_FnMirroredSheets (A : Option Addr) (N C : Nat) (l : List Int) (w : World) (h : Rd U w w.heap.size A N l) (hl : inByte l) :
    Calls Try.prog 5 #[.slice A N C] w fun e w' => e = .returned (.bool true) ∧ Below w.heap.size w w' := by
  by_cases hN : N ≤ 4096
  · have HF : Hid (decide (4096 < N) = false) := decide_eq_false (by omega)
    go_enter Try.func5, Try.ntmps5
    go_wp2_with fail
    refine (big_any A N C _).mono ?_
    rintro e _ ⟨rfl, rfl⟩
    rw [HF.out]
    go_wp2_with fail
    refine (DrawMs_any N C w.heap.size A l w h hl (Nat.le_refl _) (by omega)).mono ?_
    rintro e w1 ⟨a, b, s, rfl, a1, a2, b1, b2, hs7, hb1⟩
    have hz1 := hb1.size
    have HB1 := Lib.hid hb1
    obtain ⟨m, hm⟩ : ∃ v, msR a b s.data.toList = v := ⟨_, rfl⟩
    obtain ⟨cd, hc⟩ : ∃ v, Fo.code a b s.data.toList = v := ⟨_, rfl⟩
    have HM := Lib.hid hm
    have HC := Lib.hid hc
    clear hm hc hb1 h hl hN
    go_wp2_with fail
    refine (implMs_any a b s _ (by omega)).mono ?_
    rintro e w2 ⟨rfl, hb2⟩
    rw [HM.out, HC.out]
    have HB2 := Lib.hid (HB1.out.trans (hb2.mono hz1))
    have hz2 := hb2.size
    clear hb2
    go_wp2_with fail
    refine (specMs_any a b s _ (by omega)).mono ?_
    rintro e w3 ⟨rfl, hb3⟩
    rw [HM.out, HC.out]
    have HB3 := Lib.hid (HB2.out.trans (hb3.mono (by omega)))
    have hz3 := hb3.size
    clear hb3
    by_cases hf : cd = 0
    · subst hf
      have HMM : Hid (m.data.toList = s.data.toList.map swB) := by
        rw [← HM.out]; unfold msR; rw [if_pos HC.out]; exact Lib.hid (by simp)
      have hms : m.size ≤ 7 := by
        have := congrArg List.length HMM.out
        rw [List.length_map, toList_len, toList_len] at this
        omega
      obtain ⟨N1, hN1⟩ : ∃ n : Nat, n = 2 ^ s.data.toList.length := ⟨_, rfl⟩
      have HN1 := Lib.hid hN1
      clear hN1
      go_wp2_with fail
      refine (implFo_any a b s _ (by omega)).mono ?_
      rintro e w4 ⟨A4, n4, c4, rfl, ho4, hn4, hb4⟩
      have HF4 : Hid (foR a b s.data.toList = LVs s.data.toList) := by unfold foR; rw [if_pos HC.out]; exact Lib.hid rfl
      rw [HC.out]
      rw [HF4.out] at ho4
      obtain rfl : n4 = N1 := by
        have := ho4.rd.1
        rw [LVs_len, ← HN1.out] at this
        exact this.symm
      have HB4 := Lib.hid (HB3.out.trans (hb4.mono (by omega)))
      have hz4 := hb4.size
      clear hb4
      go_wp2_with fail
      refine (implFo_any a b m _ (by omega)).mono ?_
      rintro e w5 ⟨A5, n5, c5, rfl, ho5, hn5, hb5⟩
      have HC5 : Hid (Fo.code a b m.data.toList = 0) := by rw [HMM.out]; exact Lib.hid (ms_code HC.out)
      have HF5 : Hid (foR a b m.data.toList = LVs (s.data.toList.map swB)) := by unfold foR; rw [if_pos HC5.out, HMM.out]; exact Lib.hid rfl
      rw [HC5.out]
      rw [HF5.out] at ho5
      obtain rfl : n5 = n4 := by
        have := ho5.rd.1
        rw [LVs_len, List.length_map, ← HN1.out] at this
        exact this.symm
      have HB5 := Lib.hid (HB4.out.trans (hb5.mono (by omega)))
      have hz5 := hb5.size
      have HO4 := Lib.hid (ho4.below hb5 (Nat.le_refl _)).rd
      have HO5 := Lib.hid ho5.rd
      have hsd := fo_side HC.out
      have ea : IntKind.i64.wrap (a - 1) = a - 1 := IntWalk.i64_in _ (by omega)
      clear hb5 ho4 ho5
      go_wp2_with fail
      go_loopw [14] (fun i wr => ∃ k : Nat, k ≤ n5 ∧ i = .int .i64 k ∧ Q w5 wr) (fun i _ => n5 - (intOf i).toNat)
      case atStart => exact ⟨0, Nat.zero_le _, rfl, Q.refl _⟩
      case round =>
        obtain ⟨k, hk, rfl, hq⟩ := hrel
        by_cases hlt : k < n5
        · obtain ⟨b4, o4, x, rfl, hbB, hx, q0, q1, q2, q3⟩ := (HO4.out.q hq).at_ hlt
          obtain ⟨b5, o5, x5, rfl, hbB5, hx5, d0, d1, d2, d3⟩ := (HO5.out.q hq).at_ hlt
          obtain ⟨hmx, x0, x1, y0, y1⟩ := ms_leaf HC.out hx
          obtain rfl : (⟨a - 1 - x.x, x.y, x.fx, x.fy⟩ : Lv) = x5 := by rw [hmx] at hx5; injection hx5
          have ex : IntKind.i64.wrap (a - 1 - x.x) = a - 1 - x.x := IntWalk.i64_in _ (by omega)
          have hneq : ∀ W, (binOp .neq 37 (.agg #[.int .i64 (a - 1 - x.x), .int .i64 x.y, .bool x.fx, .bool x.fy]) (.agg #[.int .i64 (a - 1 - x.x), .int .i64 x.y, .bool x.fx, .bool x.fy])).run Try.prog W = .ok (.bool false) W := fun W => by
            have := neLf ⟨a - 1 - x.x, x.y, x.fx, x.fy⟩ ⟨a - 1 - x.x, x.y, x.fx, x.fy⟩ W
            rw [(Lv.eqv_iff _ _).2 rfl] at this
            exact this
          clear hx hx5 hmx
          simp only at d0 d1 d2 d3
          go_wp2
          go_quiet (fail)
          go_wp2
          go_roundw
          case rel => exact ⟨k + 1, by omega, by go_num, hq.more _⟩
          case measure => simp [intOf]; omega
        · obtain rfl : k = n5 := by omega
          go_wp2
          go_ret
          exact ⟨rfl, HB5.out.trans (hq.below _)⟩
    · go_wp2_with fail
      go_ret
      exact ⟨rfl, HB3.out⟩
  · have HF : Hid (decide (4096 < N) = true) := decide_eq_true (by omega)
    go_enter Try.func5, Try.ntmps5
    go_wp2_with fail
    refine (big_any A N C _).mono ?_
    rintro e _ ⟨rfl, rfl⟩
    rw [HF.out]
    go_wp2_with fail
    go_ret
    exact ⟨rfl, Below.refl _ _⟩
end Go.Proofs.Ytcagljdebplmcaa
