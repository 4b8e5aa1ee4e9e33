/- Contracts of NestedPlace, the model's, and of PartnerOf, the program's and the model's. -/
import Derived.Test.YtfiefjbipjalpaaSgNs
namespace Go.Proofs.Ytfiefjbipjalpaa
open Go.RowKit

set_option maxRecDepth 100000 in
set_option maxHeartbeats 1000000 in
theorem specNs_any (n p a b c : Int) (w : World) (ha : Sg.nsA n p = a) (hb : Sg.nsB n p = b) (hc : Sg.nsC n p = c) :
    Calls Try.prog 45 #[.int .i64 n, .int .i64 p] w fun e w' => e = .returned (.tuple #[.int .i64 a, .int .i64 b, .int .i64 c]) ∧ Below w.heap.size w w' := by
  cases hs : Sg.nsOk n p
  · obtain ⟨rfl, rfl, rfl⟩ := Sg.ns_no hs ha hb hc
    have hs' := of_decide_eq_false hs
    clear ha hb hc hs
    by_cases hn : 1 ≤ n ∧ n ≤ 64
    · obtain ⟨h1, h2⟩ := hn
      have HP : Hid (p < 1 ∨ 4 * n < p) := Lib.hid (by omega)
      have e1 : IntKind.i64.wrap (4 * n) = 4 * n := IntWalk.i64_in _ (by omega)
      clear hs'
      go_enter Try.func45, Try.ntmps45
      go_wp2_with fail
      refine (l01In_yes _ _ _ _ h1 h2).mono ?_
      rintro e _ ⟨rfl, rfl⟩
      go_wp2_with fail
      refine (l01In_no _ _ _ _ HP.out).mono ?_
      rintro e _ ⟨rfl, rfl⟩
      go_wp2_with fail
      exact bodyPost_ret (v := .tuple #[.int .i64 0, .int .i64 0, .int .i64 2]) (by simp [results, Try.results45, go_sem]) rfl ⟨rfl, Below.refl _ _⟩
    · have HN : Hid (n < 1 ∨ 64 < n) := Lib.hid (by omega)
      clear hs' hn
      go_enter Try.func45, Try.ntmps45
      go_wp2_with fail
      refine (l01In_no _ _ _ _ HN.out).mono ?_
      rintro e _ ⟨rfl, rfl⟩
      go_wp2_with fail
      exact bodyPost_ret (v := .tuple #[.int .i64 0, .int .i64 0, .int .i64 2]) (by simp [results, Try.results45, go_sem]) rfl ⟨rfl, Below.refl _ _⟩
  · obtain ⟨q1, q2, q3⟩ := Sg.ns_yes hs ha hb hc
    obtain ⟨⟨h1, h2⟩, h3, h4⟩ := of_decide_eq_true hs
    obtain ⟨N, rfl⟩ := Int.eq_ofNat_of_zero_le (show 0 ≤ n by omega)
    have hbd := Sg.ns_bd hs
    rw [← q1] at hbd
    have HS := Lib.hid hs
    have HA := Lib.hid q1
    have HBB := Lib.hid q2
    have HC := Lib.hid q3
    have HBD := Lib.hid hbd
    have e1 : IntKind.i64.wrap (4 * (N : Int)) = 4 * (N : Int) := IntWalk.i64_in _ (by omega)
    clear ha hb hc hs q1 q2 q3 hbd
    rw [HC.out]
    go_enter Try.func45, Try.ntmps45
    go_wp2_with fail
    refine (l01In_yes _ _ _ _ h1 h2).mono ?_
    rintro e _ ⟨rfl, rfl⟩
    go_wp2_with fail
    refine (l01In_yes _ _ _ _ h3 h4).mono ?_
    rintro e _ ⟨rfl, rfl⟩
    go_wp2_with fail
    go_loopw [7, 9] (fun i _ wr => ∃ k : Nat, k ≤ N ∧ i = .int .i64 k ∧ Hid ((k : Int) ≤ a) ∧ Below w.heap.size w wr) (fun i _ _ => N - (intOf i).toNat)
    case atStart => exact ⟨0, Nat.zero_le _, rfl, Lib.hid (by have := HBD.out.1; simp; omega), Below.refl _ _⟩
    case round =>
      obtain ⟨k, hk, rfl, HI, hb⟩ := hrel
      by_cases hlt : k < N
      · have hki : (k : Int) < (N : Int) := by omega
        have z := hb.size
        obtain ⟨w4, rfl⟩ : ∃ w4, w4 = wr := ⟨_, rfl⟩
        go_wp2_with (go_at_call 88; refine (l06Four_any (N : Int) (k : Int) _ h1 h2 (by omega) hki).mono ?_; rintro e w1 ⟨g, rfl, ho1, hb1⟩)
        have hB1 := hb.trans (hb1.mono z)
        clear hb hb1
        go_loopw [9] (fun i wr => ∃ j : Nat, j ≤ 4 ∧ i = .int .i64 j ∧ Hid (p ∉ (Sg.four (N : Int) (k : Int)).take j) ∧ Q w1 wr) (fun i _ => 4 - (intOf i).toNat)
        case atStart => exact ⟨0, Nat.zero_le _, rfl, Lib.hid (by simp), Q.refl _⟩
        case round =>
          obtain ⟨j, hj, rfl, HJ, hq⟩ := hrel
          by_cases hj4 : j < 4
          · obtain ⟨g', x, eg, _, _, _, hx, hc, _⟩ := (ho1.q hq).at_ hj4
            injection eg with eg
            injection eg with eg _ _
            subst eg
            have HX := Lib.hid hx
            clear hx
            have hji : (j : Int) < 4 := by omega
            by_cases hxp : x = p
            · have HE : Hid ((k : Int) = a ∧ (j : Int) = b) := Lib.hid (by
                have hm : p ∈ Sg.four (N : Int) (k : Int) := by rw [← hxp]; exact List.mem_of_getElem? HX.out
                have hKa : (k : Int) = a := by
                  refine Decidable.byContradiction fun hne => ?_
                  exact Sg.four_not (by omega) hki (.inr (by rw [← HA.out]; exact hne)) h2 hm
                refine ⟨hKa, ?_⟩
                have h5 := Sg.four_here HS.out
                rw [← HA.out, ← hKa, if_pos hm, ← HBB.out] at h5
                rw [← h5, Sg.idx_first (by rw [HX.out, hxp]) HJ.out])
              subst hxp
              go_wp2
              exact bodyPost_ret (v := .tuple #[.int .i64 (k : Int), .int .i64 (j : Int), .int .i64 0]) (by simp [results, Try.results45, go_sem]) rfl ⟨by rw [HE.out.1, HE.out.2], hB1.trans (hq.below _)⟩
            · have hne : (x == p) = false := by simpa using hxp
              have HJ' : Hid (p ∉ (Sg.four (N : Int) (k : Int)).take (j + 1)) := Lib.hid (by
                rw [take_next _ j x HX.out, List.mem_append]
                rintro (hh | hh)
                · exact HJ.out hh
                · exact hxp (List.mem_singleton.1 hh).symm)
              go_wp2
              go_roundw
              case rel => exact ⟨j + 1, by omega, by go_num, HJ', hq⟩
              case measure => simp [intOf]; omega
          · obtain rfl : j = 4 := by omega
            have HI' : Hid (((k + 1 : Nat) : Int) ≤ a) := Lib.hid (by
              have h5 := HI.out
              have h6 : ¬ (k : Int) = a := fun e => by
                have h7 := Sg.four_here HS.out
                rw [← HA.out, ← e] at h7
                have h8 : p ∉ Sg.four (N : Int) (k : Int) := HJ.out
                rw [if_neg h8, ← HBB.out] at h7
                have := HBD.out
                rw [← HBB.out] at this
                omega
              omega)
            go_wp2
            go_roundw
            case rel => exact ⟨k + 1, by omega, by go_num, HI', hB1.trans (hq.below _)⟩
            case measure => simp [intOf]; omega
      · exfalso
        have := HBD.out.2.1
        have := HI.out
        omega

theorem Sg.pt_no {n p r c : Int} (h : Sg.nsOk n p = false) (hr : Sg.ptR n p = r) (hc : Sg.nsC n p = c) : r = 0 ∧ c = 2 := by
  unfold Sg.ptR at hr
  unfold Sg.nsC at hc
  rw [h] at hr hc
  exact ⟨hr.symm, hc.symm⟩
theorem Sg.pt_yes {n p r c : Int} (h : Sg.nsOk n p = true) (hr : Sg.ptR n p = r) (hc : Sg.nsC n p = c) : r = 4 * n + 1 - p ∧ c = 0 := by
  unfold Sg.ptR at hr
  unfold Sg.nsC at hc
  rw [h] at hr hc
  exact ⟨hr.symm, hc.symm⟩

set_option maxHeartbeats 1000000 in
theorem implPt_any (n p r c : Int) (w : World) (hr : Sg.ptR n p = r) (hc : Sg.nsC n p = c) :
    Calls Try.prog 46 #[.int .i64 n, .int .i64 p] w fun e w' => e = .returned (.tuple #[.int .i64 r, .int .i64 c]) ∧ w = w' := by
  cases hs : Sg.nsOk n p
  · obtain ⟨rfl, rfl⟩ := Sg.pt_no hs hr hc
    have hs' := of_decide_eq_false hs
    clear hr hc hs
    by_cases hn : 1 ≤ n ∧ n ≤ 64
    · have HN : Hid (decide (1 ≤ n ∧ n ≤ 64) = true) := Lib.hid (decide_eq_true hn)
      obtain ⟨h1, h2⟩ := hn
      have e1 : IntKind.i64.wrap (4 * n) = 4 * n := IntWalk.i64_in _ (by omega)
      by_cases hp : p < 1
      · clear hs'
        go_enter Try.func46, Try.ntmps46
        go_wp2_with fail
        refine (canNest_any n true _ HN.out).mono ?_
        rintro e _ ⟨rfl, rfl⟩
        go_wp2_with fail
        go_ret2
        exact ⟨rfl, rfl⟩
      · have hp1 : 1 ≤ p := by omega
        have hp2 : 4 * n < p := by omega
        clear hs' hp
        go_enter Try.func46, Try.ntmps46
        go_wp2_with fail
        refine (canNest_any n true _ HN.out).mono ?_
        rintro e _ ⟨rfl, rfl⟩
        go_wp2_with fail
        go_ret2
        exact ⟨rfl, rfl⟩
    · have HN : Hid (decide (1 ≤ n ∧ n ≤ 64) = false) := Lib.hid (decide_eq_false hn)
      clear hs' hn
      go_enter Try.func46, Try.ntmps46
      go_wp2_with fail
      refine (canNest_any n false _ HN.out).mono ?_
      rintro e _ ⟨rfl, rfl⟩
      go_wp2_with fail
      go_ret2
      exact ⟨rfl, rfl⟩
  · obtain ⟨rfl, rfl⟩ := Sg.pt_yes hs hr hc
    obtain ⟨⟨h1, h2⟩, h3, h4⟩ := of_decide_eq_true hs
    have HN : Hid (decide (1 ≤ n ∧ n ≤ 64) = true) := Lib.hid (decide_eq_true ⟨h1, h2⟩)
    have e1 : IntKind.i64.wrap (4 * n) = 4 * n := IntWalk.i64_in _ (by omega)
    have e2 : IntKind.i64.wrap (4 * n + 1) = 4 * n + 1 := IntWalk.i64_in _ (by omega)
    have e3 : IntKind.i64.wrap (4 * n + 1 - p) = 4 * n + 1 - p := IntWalk.i64_in _ (by omega)
    clear hr hc hs
    go_enter Try.func46, Try.ntmps46
    go_wp2_with fail
    refine (canNest_any n true _ HN.out).mono ?_
    rintro e _ ⟨rfl, rfl⟩
    go_wp2_with fail
    go_ret2
    exact ⟨rfl, rfl⟩

set_option maxHeartbeats 1000000 in
theorem specPt_any (n p r c : Int) (w : World) (hr : Sg.ptR n p = r) (hc : Sg.nsC n p = c) :
    Calls Try.prog 47 #[.int .i64 n, .int .i64 p] w fun e w' => e = .returned (.tuple #[.int .i64 r, .int .i64 c]) ∧ w = w' := by
  cases hs : Sg.nsOk n p
  · obtain ⟨rfl, rfl⟩ := Sg.pt_no hs hr hc
    have hs' := of_decide_eq_false hs
    clear hr hc hs
    by_cases hn : 1 ≤ n ∧ n ≤ 64
    · obtain ⟨h1, h2⟩ := hn
      have HP : Hid (p < 1 ∨ 4 * n < p) := Lib.hid (by omega)
      have e1 : IntKind.i64.wrap (4 * n) = 4 * n := IntWalk.i64_in _ (by omega)
      clear hs'
      go_enter Try.func47, Try.ntmps47
      go_wp2_with fail
      refine (l01In_yes _ _ _ _ h1 h2).mono ?_
      rintro e _ ⟨rfl, rfl⟩
      go_wp2_with fail
      refine (l01In_no _ _ _ _ HP.out).mono ?_
      rintro e _ ⟨rfl, rfl⟩
      go_wp2_with fail
      go_ret2
      exact ⟨rfl, rfl⟩
    · have HN : Hid (n < 1 ∨ 64 < n) := Lib.hid (by omega)
      clear hs' hn
      go_enter Try.func47, Try.ntmps47
      go_wp2_with fail
      refine (l01In_no _ _ _ _ HN.out).mono ?_
      rintro e _ ⟨rfl, rfl⟩
      go_wp2_with fail
      go_ret2
      exact ⟨rfl, rfl⟩
  · obtain ⟨rfl, rfl⟩ := Sg.pt_yes hs hr hc
    obtain ⟨⟨h1, h2⟩, h3, h4⟩ := of_decide_eq_true hs
    have e1 : IntKind.i64.wrap (4 * n) = 4 * n := IntWalk.i64_in _ (by omega)
    have e2 : IntKind.i64.wrap (4 * n + 1) = 4 * n + 1 := IntWalk.i64_in _ (by omega)
    have e3 : IntKind.i64.wrap (4 * n + 1 - p) = 4 * n + 1 - p := IntWalk.i64_in _ (by omega)
    clear hr hc hs
    go_enter Try.func47, Try.ntmps47
    go_wp2_with fail
    refine (l01In_yes _ _ _ _ h1 h2).mono ?_
    rintro e _ ⟨rfl, rfl⟩
    go_wp2_with fail
    refine (l01In_yes _ _ _ _ h3 h4).mono ?_
    rintro e _ ⟨rfl, rfl⟩
    go_wp2_with fail
    go_ret2
    exact ⟨rfl, rfl⟩
theorem to_below {P : Program} {f : FuncId} {args : Array Value} {w : World} {v : Ending} (h : Calls P f args w fun e w' => e = v ∧ w = w') : Calls P f args w fun e w' => e = v ∧ Below w.heap.size w w' :=
  h.mono fun _ _ ⟨he, hw⟩ => ⟨he, by rw [← hw]; exact Below.refl _ _⟩
end Go.Proofs.Ytfiefjbipjalpaa
