/- The walk of the law FnFolded. -/
import Derived.Test.YtcagljdebplmcaaFoLk
import Derived.Test.YtcagljdebplmcaaFoLo
namespace Go.Proofs.Ytcagljdebplmcaa
open Go.RowKit

theorem fo_area {a b : Int} {l : List UInt8} (h : Fo.code a b l = 0) : a * b = ((2 ^ l.length : Nat) : Int) := by
  obtain ⟨ha, hb⟩ := sheet_side (Fo.code_zero h)
  have := Fo.nX_add_nY l.reverse
  rw [List.length_reverse] at this
  rw [ha, hb, ← this, Nat.pow_add]
  push_cast
  rfl
theorem fo_half {a b : Int} {l : List UInt8} (h : Fo.code a b l = 0) (hn : l ≠ []) : 2 * fdR a b l = 2 ^ l.length := by
  unfold fdR foR
  rw [if_pos h]
  unfold LVs Fo.leaves
  rw [List.countP_map]
  have e : (Lv.down ∘ Fo.Lf.v) = Fo.Lf.down := rfl
  have := Fo.downs_half l.reverse 1 1 0 0 (by simpa using hn)
  rw [e, this, List.length_reverse]
theorem fo_own {a b : Int} {l : List UInt8} (h : Fo.code a b l = 0) {k : Nat} {x : Lv} (hx : (LVs l)[k]? = some x) : loC a b l x.x x.y = 0 ∧ loR a b l x.x x.y = k ∧ 0 ≤ x.x ∧ x.x ≤ 8 ∧ 0 ≤ x.y ∧ x.y ≤ 8 := by
  have hs := Fo.code_zero h
  have hc := LVs_cell hx
  have hin := cell_in hs hc.1
  have h0 : loC a b l x.x x.y = 0 := by
    unfold loC
    rw [if_pos h, hc.2.1, hc.2.2, if_pos ⟨hin.1, hin.2.1, hin.2.2.1, hin.2.2.2⟩]
  refine ⟨h0, loR_at hc.1 ⟨hc.2.1.symm, hc.2.2.symm⟩ h0, ?_⟩
  obtain ⟨_, _, _, h3, h4, _⟩ := Fo.scheme_len hs
  rw [hc.2.1, hc.2.2]
  rcases Fo.side_cases h3 with h | h | h | h <;> rcases Fo.side_cases h4 with h' | h' | h' | h' <;> omega

set_option maxRecDepth 100000 in
set_option maxHeartbeats 4000000 in
theorem w_FnFolded (A : Option Addr) (N C : Nat) (l : List Int) (w : World) (h : Rd U w w.heap.size A N l) (hl : inByte l) :
    Calls Try.prog 3 #[.slice A N C] w fun e w' => e = .returned (.bool true) ∧ Below w.heap.size w w' := by
  by_cases hN : N ≤ 4096
  · have HF : Hid (decide (4096 < N) = false) := decide_eq_false (by omega)
    go_enter Try.func3, Try.ntmps3
    go_wp2_with fail
    refine (big_any A N C _).mono ?_
    rintro e _ ⟨rfl, rfl⟩
    rw [HF.out]
    go_wp2_with fail
    refine (DrawFo_any N C w.heap.size A l w h hl (Nat.le_refl _) (by omega)).mono ?_
    rintro e w1 ⟨a, b, s, rfl, a1, a2, b1, b2, hs7, hb1⟩
    have hz1 := hb1.size
    have HB1 := Lib.hid hb1
    obtain ⟨R, hR⟩ : ∃ v, foR a b s.data.toList = v := ⟨_, rfl⟩
    obtain ⟨cd, hc⟩ : ∃ v, Fo.code a b s.data.toList = v := ⟨_, rfl⟩
    obtain ⟨d, hd⟩ : ∃ v, fdR a b s.data.toList = v := ⟨_, rfl⟩
    obtain ⟨sc, hsc⟩ : ∃ v, Fo.scheme a b s.data.toList = v := ⟨_, rfl⟩
    have HR := Lib.hid hR
    have HC := Lib.hid hc
    have HD := Lib.hid hd
    have HS := Lib.hid hsc
    clear hR hc hd hsc hb1
    go_wp2_with fail
    refine (implFo_any a b s _ (by omega)).mono ?_
    rintro e w2 ⟨A2, n2, c2, rfl, ho2, hn2, hb2⟩
    rw [HC.out]
    rw [HR.out] at ho2
    have HB2 := Lib.hid (HB1.out.trans (hb2.mono hz1))
    have hz2 := hb2.size
    have HO2 := Lib.hid ho2.rd
    clear hb2 ho2
    go_wp2_with fail
    refine (specFo_any a b s _ (by omega)).mono ?_
    rintro e w3 ⟨A3, n3, c3, rfl, ho3, hn3, hb3⟩
    rw [HC.out]
    rw [HR.out] at ho3
    have HB3 := Lib.hid (HB2.out.trans (hb3.mono (by omega)))
    have hz3 := hb3.size
    have HO23 := Lib.hid (HO2.out.below hb3 (Nat.le_refl _))
    have HO3 := Lib.hid ho3.rd
    obtain rfl : n3 = n2 := HO3.out.1.symm.trans HO2.out.1
    clear hb3 ho3 HO2
    have h3 := h.below HB3.out (Nat.le_refl _)
    go_wp2_with fail
    refine (DrawLo_any N C w.heap.size A l w3 h3 hl (by omega) (by omega)).mono ?_
    rintro e w4 ⟨a', b', x, y, t, rfl, x1, x2, y1, y2, ht7, hb4⟩
    have HB4 := Lib.hid (HB3.out.trans (hb4.mono (by omega)))
    have hz4 := hb4.size
    have HO24 := Lib.hid (HO23.out.below hb4 (by omega))
    have HO34 := Lib.hid (HO3.out.below hb4 (by omega))
    clear hb4 h3 h HO23 HO3 hN hl
    obtain ⟨p, hp⟩ : ∃ v, loR a' b' t.data.toList x y = v := ⟨_, rfl⟩
    obtain ⟨cp, hcp⟩ : ∃ v, loC a' b' t.data.toList x y = v := ⟨_, rfl⟩
    have HP := Lib.hid hp
    have HCP := Lib.hid hcp
    clear hp hcp
    go_wp2_with fail
    refine (implLo_any a' b' x y t _ (by omega) (by omega) (by omega)).mono ?_
    rintro e w5 ⟨rfl, hb5⟩
    rw [HP.out, HCP.out]
    have HB5 := Lib.hid (HB4.out.trans (hb5.mono (by omega)))
    have hz5 := hb5.size
    have HO25 := Lib.hid (HO24.out.below hb5 (by omega))
    have HO35 := Lib.hid (HO34.out.below hb5 (by omega))
    clear hb5 HO24 HO34
    go_wp2_with fail
    refine (specLo_any a' b' x y t _ (by omega) (by omega) (by omega)).mono ?_
    rintro e w6 ⟨rfl, hb6⟩
    rw [HP.out, HCP.out]
    have HB6 := Lib.hid (HB5.out.trans (hb6.mono (by omega)))
    have hz6 := hb6.size
    have HO26 := Lib.hid (HO25.out.below hb6 (by omega))
    have HO36 := Lib.hid (HO35.out.below hb6 (by omega))
    clear hb6 HO25 HO35
    go_wp2_with fail
    refine (implFd_any a b s _ (by omega)).mono ?_
    rintro e w7 ⟨rfl, hb7⟩
    rw [HC.out, HD.out]
    have HB7 := Lib.hid (HB6.out.trans (hb7.mono (by omega)))
    have hz7 := hb7.size
    have HO27 := Lib.hid (HO26.out.below hb7 (by omega))
    have HO37 := Lib.hid (HO36.out.below hb7 (by omega))
    clear hb7 HO26 HO36
    go_wp2_with fail
    refine (specFd_any a b s _ (by omega)).mono ?_
    rintro e w8 ⟨rfl, hb8⟩
    rw [HC.out, HD.out]
    have HB8 := Lib.hid (HB7.out.trans (hb8.mono (by omega)))
    have hz8 := hb8.size
    have HO28 := Lib.hid (HO27.out.below hb8 (by omega))
    have HO38 := Lib.hid (HO37.out.below hb8 (by omega))
    clear hb8 HO27 HO37
    go_wp2_with fail
    refine (likeLeaves_true A2 A3 n3 c2 c3 _ _ R _ HO28.out HO38.out (by omega)).mono ?_
    rintro e w9 ⟨rfl, hq9⟩
    have HB9 := Lib.hid (HB8.out.trans (hq9.below _))
    have hz9 := hq9.size
    have HO29 := Lib.hid (HO28.out.q hq9)
    clear hq9 HO28 HO38
    go_wp2_with fail
    refine (implIsScheme_any a b s _ (by omega)).mono ?_
    rintro e _ ⟨rfl, rfl⟩
    rw [HS.out]
    go_wp2_with fail
    refine (specIsScheme_any a b s _ (by omega)).mono ?_
    rintro e _ ⟨rfl, rfl⟩
    rw [HS.out]
    by_cases hf : cd = 0
    · subst hf
      have HRR : Hid (R = LVs s.data.toList) := by rw [← HR.out]; unfold foR; rw [if_pos HC.out]; exact Lib.hid rfl
      have HL : Hid (n3 = 2 ^ s.data.toList.length) := by
        have := HO29.out.1
        rw [HRR.out, LVs_len] at this
        exact Lib.hid this.symm
      go_wp2_with fail
      go_loopw [23] (fun i wr => ∃ k : Nat, k ≤ n3 ∧ i = .int .i64 k ∧ Below w9.heap.size w9 wr) (fun i _ => n3 - (intOf i).toNat)
      case atStart => exact ⟨0, Nat.zero_le _, rfl, Below.refl _ _⟩
      case round =>
        obtain ⟨k, hk, rfl, hb⟩ := hrel
        have hz := hb.size
        by_cases hlt : k < n3
        · obtain ⟨b4, o4, q, rfl, hbB, hx, q0, q1, q2, q3⟩ := (HO29.out.below hb (by omega)).at_ hlt
          rw [HRR.out] at hx
          obtain ⟨e0, e1, x0, x3, y0, y3⟩ := fo_own HC.out hx
          have hlo : ∀ W, Calls Try.prog 19 #[.int .i64 a, .int .i64 b, .string s, .int .i64 q.x, .int .i64 q.y] W fun e w' => e = .returned (.tuple #[.int .i64 (k : Int), .int .i64 0]) ∧ Below W.heap.size W w' := fun W => by
            have := implLo_any a b q.x q.y s W (by omega) (by omega) (by omega)
            rw [e0, e1] at this
            exact this
          have HBB := Lib.hid hb
          clear hx e0 e1 hb q2 q3
          go_wp2_with fail
          go_region_law (go_simp; go_at_call 19; refine (hlo _).mono ?_; rintro e w11 ⟨rfl, hb11⟩)
          all_goals
            have HB11 := Lib.hid (HBB.out.drew.trans (hb11.mono (by simp; omega)))
            clear hb11
            go_wp2
            go_roundw
            case rel => exact ⟨k + 1, by omega, by go_num, HB11.out⟩
            case measure => simp [intOf]; omega
        · obtain rfl : k = n3 := by omega
          have HBE := Lib.hid (HB9.out.trans (hb.mono (by omega)))
          have ez : a * b = (k : Int) := by rw [fo_area HC.out, ← HL.out]
          have ew : IntKind.i64.wrap (k : Int) = (k : Int) := IntWalk.i64_in _ (by omega)
          clear hb
          by_cases hn : s.data.toList = []
          · have hn0 : s = ⟨#[]⟩ := by cases s; simp_all
            subst hn0
            clear hn
            go_wp2_with fail
            go_ret
            exact ⟨rfl, HBE.out⟩
          · have e2 : 2 * d = k := by rw [← HD.out, fo_half HC.out hn, ← HL.out]
            have hd2 : IntKind.i64.wrap (2 * (d : Int)) = (k : Int) := by
              have : (2 * (d : Int)) = (k : Int) := by omega
              rw [this]; exact ew
            have hne : ¬ s.toList = [] := by rw [Lib.toList_data]; exact hn
            have hne2 : s.toList.isEmpty = false := by simpa using hne
            clear e2 hn
            go_wp2_with fail
            go_ret
            exact ⟨rfl, HBE.out⟩
    · go_wp2_with fail
      go_ret
      exact ⟨rfl, HB9.out⟩
  · have HF : Hid (decide (4096 < N) = true) := decide_eq_true (by omega)
    go_enter Try.func3, Try.ntmps3
    go_wp2_with fail
    refine (big_any A N C _).mono ?_
    rintro e _ ⟨rfl, rfl⟩
    rw [HF.out]
    go_wp2_with fail
    go_ret
    exact ⟨rfl, Below.refl _ _⟩
end Go.Proofs.Ytcagljdebplmcaa
