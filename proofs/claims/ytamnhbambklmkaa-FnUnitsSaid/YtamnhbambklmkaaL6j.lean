/- The walk of the law FnUnits, out of the contracts. -/
import Derived.Test.YtamnhbambklmkaaSgDy
import Derived.Test.YtamnhbambklmkaaSgBu
import Derived.Test.YtamnhbambklmkaaSgBs
import Derived.Test.YtamnhbambklmkaaSgLk
namespace Go.Proofs.Ytamnhbambklmkaa
open Go.RowKit

/-- The pages of the first k units. -/
def dot_is (R L : List Int) (k : Nat) (x : Int) : Prop := Sg.dot (R.take k) (L.take k) = x

set_option maxRecDepth 100000 in
set_option maxHeartbeats 4000000 in
theorem w_FnUnits (A : Option Addr) (N C : Nat) (l : List Int) (w : World) (h : Rd U w w.heap.size A N l) (hl : inByte l) :
    Calls Try.prog 4 #[.slice A N C] w fun e w' => e = .returned (.bool true) ∧ Below w.heap.size w w' := by
  by_cases hN : N ≤ 4096
  · have HF : Hid (decide (4096 < N) = false) := decide_eq_false (by omega)
    go_enter Try.func4, Try.ntmps4
    go_wp2_with fail
    refine (sgBig_any A N C _).mono ?_
    rintro e _ ⟨rfl, rfl⟩
    rw [HF.out]
    go_wp2_with fail
    refine (DrawBu_any N C w.heap.size A l w h hl (Nat.le_refl _) (by omega)).mono ?_
    rintro e w1 ⟨p, A1, n, c1, L, rfl, hp, hn, ho1, hb1⟩
    have z1 := hb1.size
    obtain ⟨R, hR⟩ : ∃ R, Sg.buR p L = R := ⟨_, rfl⟩
    obtain ⟨q, hq⟩ : ∃ q, Sg.buC p L = q := ⟨_, rfl⟩
    have HR := Lib.hid hR
    have HQ := Lib.hid hq
    clear hR hq
    go_wp2_with fail
    refine (implBu_any p A1 n c1 _ L R q w1 ho1.rd (Nat.le_refl _) (by omega) HR.out HQ.out (by omega)).mono ?_
    rintro e w2 ⟨A2, n2, c2, rfl, ho2, hn2, hb2⟩
    have z2 := hb2.size
    have hB2 := hb1.trans (hb2.mono z1)
    have hu2 := ho1.below hb2 (Nat.le_refl _)
    go_wp2_with fail
    refine (specBu_any p A1 n c1 _ L R q w2 hu2.rd z2 (by omega) HR.out HQ.out).mono ?_
    rintro e w3 ⟨A3, n3, c3, rfl, ho3, hn3, hb3⟩
    have z3 := hb3.size
    have hB3 := hB2.trans (hb3.mono (by omega))
    have hu3 := hu2.below hb3 z2
    have hr3 := ho2.below hb3 (Nat.le_refl _)
    go_wp2_with fail
    refine (sgLike_true A2 A3 n2 n3 c2 c3 _ _ R w3 hr3.rd ho3.rd hn2).mono ?_
    rintro e w4 ⟨rfl, hq4⟩
    have hB4 := hB3.trans (hq4.below _)
    have hu := (hu3.q hq4).rd
    have hr := (hr3.q hq4).rd
    have HB := Lib.hid hB4
    clear ho1 ho2 ho3 hb1 hb2 hb3 hB2 hB3 hB4 hu2 hu3 hr3 hq4 hn3 h
    cases hk : Sg.canB p L
    · have HZ : Hid (q = 2) := Lib.hid (by rw [← HQ.out]; unfold Sg.buC; rw [hk]; rfl)
      rw [HZ.out]
      clear hk
      go_wp2_with fail
      go_ret
      exact ⟨rfl, HB.out⟩
    · have HZ : Hid (q = 0) := Lib.hid (by rw [← HQ.out]; unfold Sg.buC; rw [hk]; rfl)
      obtain ⟨u, t, hLu, hip, hall, hmin, hfit, hfst, hX1, hX2, hX3, hdot⟩ := Sg.bu_all hk
      obtain ⟨X, hX⟩ : ∃ X, Sg.least p L = X := ⟨_, rfl⟩
      have hRX : R = (Sg.bs X L).1 := by rw [← HR.out, ← hX]; unfold Sg.buR; rw [if_pos hk]
      rw [hX] at hX1 hX2 hX3 hdot
      rw [← hRX] at hdot
      have hub := Sg.un_bd (Sg.fits_out hfit).2
      have hpb := (Sg.fits_out hfit).1
      have hX5 : 0 ≤ X ∧ X ≤ 5000 := by omega
      have hnn : n2 = n := by rw [← hr.1, hRX, Sg.bs_len, hu.1]
      subst hnn
      have hR0 : ∀ a ∈ R, 0 ≤ a := by rw [hRX]; exact Sg.bs_nonneg X hX5.1 L hall
      have hU0 : ∀ a ∈ L, 0 ≤ a := fun a ha => by
        rw [List.all_eq_true] at hall
        have := Sg.un_bd (hall a ha)
        omega
      have HD := Lib.hid hdot
      have HR0 := Lib.hid hR0
      have HU0 := Lib.hid hU0
      have HMIN := Lib.hid hmin
      have HALL := Lib.hid hall
      have n0 : 0 < n2 := by rw [← hu.1, hLu]; simp
      obtain ⟨b0, o0, x0, rfl, hbB0, hx0, hc0⟩ := hu.at_ n0
      obtain rfl : u = x0 := by rw [hLu] at hx0; simpa using hx0
      rw [Nat.add_zero] at hc0
      have HU1 : Hid (∀ y, L[0]? = some y → y = u) := Lib.hid (fun y hy => by rw [hLu] at hy; simpa using hy.symm)
      have HUU := Lib.hid hu
      have HRR := Lib.hid hr
      have HX3 : Hid (X < p + u) := Lib.hid hX3
      have HX2 : Hid (p ≤ X) := Lib.hid hX2
      clear hk hLu hip hall hmin hfit hfst hX1 hX2 hX3 hdot hX hRX hR0 hU0 hx0
      rw [HZ.out]
      go_wp2_with fail
      go_loopw [9, 10] (fun s i wr => ∃ (k : Nat) (x : Int), k ≤ n2 ∧ i = .int .i64 k ∧ s = .int .i64 x ∧ Hid (dot_is R L k x) ∧ Q w4 wr) (fun _ i _ => n2 - (intOf i).toNat)
      case atStart => exact ⟨0, 0, Nat.zero_le _, rfl, rfl, Lib.hid (by unfold dot_is; simp [Sg.dot]), Q.refl _⟩
      case round =>
        obtain ⟨k, x, hk, rfl, rfl, HX, hqq⟩ := hrel
        have hu := hu.q hqq
        have hr := hr.q hqq
        by_cases hlt : k < n2
        · obtain ⟨b1, o1, y, e1, _, hy, hcy⟩ := hu.at_ hlt
          injection e1 with e1
          injection e1 with e1 e2 _
          subst e1 e2
          obtain ⟨b2, o2, a, rfl, _, ha, hca⟩ := hr.at_ hlt
          have hs := Sg.dot_next R L k a y ha hy
          have hb1 := Sg.dot_take_le R L k HR0.out HU0.out
          have hb2 := Sg.dot_take_le R L (k + 1) HR0.out HU0.out
          have hxo : Sg.dot (R.take k) (L.take k) = x := HX.out
          rw [hxo] at hs hb1
          rw [HD.out] at hb1 hb2
          obtain ⟨m, hm⟩ : ∃ m, a * y = m := ⟨_, rfl⟩
          rw [hm] at hs
          have hm0 : 0 ≤ m := by rw [← hm]; exact Int.mul_nonneg (HR0.out a (List.mem_of_getElem? ha)) (HU0.out y (List.mem_of_getElem? hy))
          have HX' : Hid (dot_is R L (k + 1) (x + m)) := Lib.hid hs
          rw [hs] at hb2
          have f1 : IntKind.i64.wrap (a * y) = m := by rw [hm]; exact IntWalk.i64_in _ (by omega)
          have f2 : IntKind.i64.wrap (x + m) = x + m := IntWalk.i64_in _ (by omega)
          clear hs hb1 hb2 hm ha hy
          go_wp2
          go_quiet (fail)
          go_wp2
          go_roundw
          case rel => exact ⟨k + 1, x + m, by omega, by go_num, rfl, HX', hqq.more _⟩
          case measure => simp [intOf]; omega
        · obtain rfl : k = n2 := by omega
          have hxX : x = X := by
            have h1 := HX.out
            unfold dot_is at h1
            rw [List.take_of_length_le (Nat.le_of_eq hr.1), List.take_of_length_le (Nat.le_of_eq hu.1), HD.out] at h1
            exact h1.symm
          subst hxX
          obtain ⟨w5, rfl⟩ : ∃ w5, w5 = wr := ⟨_, rfl⟩
          go_wp2
          go_loopw [11] (fun i wr => ∃ j : Nat, j ≤ k ∧ i = .int .i64 j ∧ Q w4 wr) (fun i _ => k - (intOf i).toNat)
          case atStart => exact ⟨0, Nat.zero_le _, rfl, hqq⟩
          case round =>
            clear hu hr hqq
            obtain ⟨j, hj, rfl, hqq⟩ := hrel
            have hu := HUU.out.q hqq
            have hr := HRR.out.q hqq
            by_cases hjk : j < k
            · obtain ⟨b1, o1, y, e1, _, hy, hcy⟩ := hu.at_ hjk
              injection e1 with e1
              injection e1 with e1 e2 _
              subst e1 e2
              obtain ⟨b2, o2, a, rfl, _, ha, hca⟩ := hr.at_ hjk
              have hyu := HMIN.out y (List.mem_of_getElem? hy)
              have hyb : y ≤ 128 := by
                have := HALL.out
                rw [List.all_eq_true] at this
                exact (Sg.un_bd (this y (List.mem_of_getElem? hy))).2
              have f1 : IntKind.i64.wrap (x - y) = x - y := IntWalk.i64_in _ (by omega)
              have hlt : x - y < p := by have := HX3.out; omega
              clear hyu hyb hy ha
              by_cases ha0 : 0 < a
              · go_wp2
                go_roundw
                case rel => exact ⟨j + 1, by omega, by go_num, hqq⟩
                case measure => simp [intOf]; omega
              · have ha1 : a ≤ 0 := by omega
                go_wp2
                go_roundw
                case rel => exact ⟨j + 1, by omega, by go_num, hqq⟩
                case measure => simp [intOf]; omega
            · obtain rfl : j = k := by omega
              obtain ⟨b1, o1, y, e1, _, hy, hcy⟩ := hu.at_ n0
              injection e1 with e1
              injection e1 with e1 e2 _
              subst e1 e2
              rw [Nat.add_zero] at hcy
              obtain rfl : y = u := HU1.out y hy
              have f1 : IntKind.i64.wrap (x - p) = x - p := IntWalk.i64_in _ (by omega)
              have g1 : p ≤ x := HX2.out
              have g2 : x - p < y := by have := HX3.out; omega
              clear hy
              go_wp2
              go_ret
              exact ⟨rfl, HB.out.trans (hqq.below _)⟩
  · have HF : Hid (decide (4096 < N) = true) := decide_eq_true (by omega)
    go_enter Try.func4, Try.ntmps4
    go_wp2_with fail
    refine (sgBig_any A N C _).mono ?_
    rintro e _ ⟨rfl, rfl⟩
    rw [HF.out]
    go_wp2_with fail
    go_ret
    exact ⟨rfl, Below.refl _ _⟩
end Go.Proofs.Ytamnhbambklmkaa
