/- Contracts of the model's two functions that fold rows of piles, along and across. -/
import Derived.Test.YtfiefjbipjalpaaFoSt
import Derived.BigQuiet
import Derived.Deep.QuietTactic
namespace Go.Proofs.Ytfiefjbipjalpaa
open Go.RowKit

set_option maxRecDepth 100000 in
set_option maxHeartbeats 4000000 in
theorem along_82 (A : Option Addr) (m c W L lo B : Nat) (G : Nat → Nat → List Lv) (w : World) (h : GridF w lo B ⟨A, m, c⟩ m (2 * W) G) (hB : B ≤ w.heap.size) (hm8 : m ≤ 8) (hW : 0 < W) (hW4 : W ≤ 4)
    (hG : ∀ y x, y < m → x < 2 * W → (G y x).length = L) (hL0 : 0 < L) (hL64 : L ≤ 64) :
    Calls Try.prog 121 #[.slice A m c, .int .u8 82] w fun e w' => ∃ A' c', e = .returned (.slice A' m c') ∧
      GridF w' w.heap.size w'.heap.size ⟨A', m, c'⟩ m W (fun y x => turnV true (G y (Fo.ab x W true false)) ++ G y (Fo.ab x W false false)) ∧ Below w.heap.size w w' := by
  obtain ⟨iS, hiS, hzS, hsS, hbS⟩ := info_parts infoS
  obtain ⟨iG, hiG, hzG, hsG, hbG⟩ := info_parts infoG
  obtain ⟨S, hS⟩ : ∃ S : Nat → Nat → List Lv, S = fun y x => turnV true (G y (Fo.ab x W true false)) ++ G y (Fo.ab x W false false) := ⟨_, rfl⟩
  rw [← hS]
  have HS := Lib.hid hS
  have HG := Lib.hid hG
  clear hS hG
  obtain ⟨N, hN⟩ : ∃ N : Nat, N = 2 * W := ⟨_, rfl⟩
  rw [← hN] at h
  have hg0 := GridF.empty w W S
  have hb3 : Below w.heap.size w (w.alloc (.cells #[] 132)) := (Below.refl _ _).alloc (Nat.le_refl _) _
  obtain ⟨p, hp⟩ : ∃ p : Nat, N = p + 1 := ⟨N - 1, by omega⟩
  obtain ⟨r, hr⟩ : ∃ r : Nat, W = r + 1 := ⟨W - 1, by omega⟩
  have hd2 : (N : Int).tdiv 2 = (W : Int) := by rw [Int.tdiv_eq_ediv_of_nonneg (by omega)]; omega
  have e1 : IntKind.i64.wrap (W : Int) = (W : Int) := IntWalk.i64_in _ (by omega)
  have e2 : IntKind.i64.wrap ((N : Int) - 1) = (p : Int) := by rw [IntWalk.i64_in _ (by omega)]; omega
  have e4 : IntKind.i64.wrap ((W : Int) - 1) = (r : Int) := by rw [IntWalk.i64_in _ (by omega)]; omega
  have HP := Lib.hid hp
  have HR := Lib.hid hr
  have HNW := Lib.hid hN
  have HW := Lib.hid hW
  clear hp hr hN hW
  go_enter Try.func121, Try.ntmps121
  go_wp2_with fail
  go_loopw [5, 6] (fun v i wr => ∃ k : Nat, k ≤ m ∧ i = .int .i64 (k : Int) ∧ (∃ A3 c3, v = .slice A3 k c3 ∧ GridF wr w.heap.size wr.heap.size ⟨A3, k, c3⟩ k W S) ∧ Below w.heap.size w wr) (fun _ i _ => m - (intOf i).toNat)
  case atStart => exact ⟨0, Nat.zero_le _, rfl, ⟨_, _, rfl, hg0.mono (Nat.le_refl _) (by simp)⟩, hb3⟩
  case round =>
    clear hg0 hb3
    obtain ⟨y, hy, rfl, ⟨A3, c3, rfl, hg⟩, hb⟩ := hrel
    have hsz := hb.size
    obtain ⟨w1, rfl⟩ : ∃ w1, w1 = wr := ⟨_, rfl⟩
    by_cases hlt : y < m
    · have hr0 := RowF.empty w1 (S y)
      have hb4 : Below w1.heap.size w1 (w1.alloc (.cells #[] 106)) := (Below.refl _ _).alloc (Nat.le_refl _) _
      have htrue : decide ((y : Int) < (m : Int)) = true := by simp; omega
      obtain ⟨gA, ⟨Ar, Nr, cr⟩, hA, hgB, hcell, hrow⟩ := (h.below hb hB).at_ hlt
      obtain rfl : Nr = N := hrow.len
      have hA : A = some ⟨gA, 0, none⟩ := hA
      subst hA
      replace hcell : w1.cell? ⟨gA, y, none⟩ = some (.slice Ar Nr cr) := hcell
      have HGr := Lib.hid hg
      have HB := Lib.hid hb
      clear hg hb
      go_wp2_with fail
      go_loopw [8, 9] (fun v i ws => ∃ j : Nat, j ≤ W ∧ i = .int .i64 (j : Int) ∧ (∃ A4 c4, v = .slice A4 j c4 ∧ RowF ws w1.heap.size ws.heap.size ⟨A4, j, c4⟩ j (S y)) ∧ Below w1.heap.size w1 ws) (fun _ i _ => W - (intOf i).toNat)
      case atStart => exact ⟨0, Nat.zero_le _, rfl, ⟨_, _, rfl, hr0.mono (Nat.le_refl _) (by simp)⟩, hb4⟩
      case round =>
        clear hr0 hb4
        obtain ⟨k, hk, rfl, ⟨A4, c4, rfl, hrr⟩, hb5⟩ := hrel
        have hz5 := hb5.size
        have hbw := HB.out.trans (hb5.mono hsz)
        by_cases hkt : k < W
        · have hrow5 := hrow.below hb5 (Nat.le_trans hB hsz)
          have hcell5 : wr.cell? ⟨gA, y, none⟩ = some (.slice Ar Nr cr) := (hb5.cell (p := ⟨gA, y, none⟩) (by show gA < _; omega)).trans hcell
          obtain ⟨q, hq⟩ : ∃ q : Nat, q + k = p := ⟨p - k, by have := HP.out; have := HNW.out; omega⟩
          obtain ⟨t, ht⟩ : ∃ t : Nat, t + k = r := ⟨r - k, by have := HR.out; omega⟩
          obtain ⟨s, hs2⟩ : ∃ s : Nat, s = W + k := ⟨_, rfl⟩
          have e3 : IntKind.i64.wrap ((p : Int) - (k : Int)) = (q : Int) := by have := HP.out; have := HNW.out; rw [IntWalk.i64_in _ (by omega)]; omega
          have e5 : IntKind.i64.wrap ((r : Int) - (k : Int)) = (t : Int) := by have := HR.out; have := HNW.out; rw [IntWalk.i64_in _ (by omega)]; omega
          have e6 : IntKind.i64.wrap ((W : Int) + (k : Int)) = (s : Int) := by rw [IntWalk.i64_in _ (by omega)]; omega
          have hqn : q < Nr := by have := HP.out; omega
          have hkn : k < Nr := by have := HNW.out; omega
          have htn : t < Nr := by have := HR.out; have := HNW.out; omega
          have hsn : s < Nr := by have := HNW.out; omega
          obtain ⟨gR, ⟨Aq, mq, cq⟩, hAr, hgR, cellq, rdq⟩ := hrow5.at_ hqn
          have hAr : Ar = some ⟨gR, 0, none⟩ := hAr
          subst hAr
          obtain ⟨gR2, ⟨Ak, mk, ck⟩, hk2, _, cellk, rdk⟩ := hrow5.at_ hkn
          injection hk2 with hk2
          injection hk2 with hk2 _ _
          subst hk2
          obtain ⟨gR2, ⟨At, mt, ct⟩, hk2, _, cellt, rdt⟩ := hrow5.at_ htn
          injection hk2 with hk2
          injection hk2 with hk2 _ _
          subst hk2
          obtain ⟨gR2, ⟨As, ms, cs⟩, hk2, _, cells, rds⟩ := hrow5.at_ hsn
          injection hk2 with hk2
          injection hk2 with hk2 _ _
          subst hk2
          replace cellq : wr.cell? ⟨gR, q, none⟩ = some (.slice Aq mq cq) := cellq
          replace cellk : wr.cell? ⟨gR, k, none⟩ = some (.slice Ak mk ck) := cellk
          replace cellt : wr.cell? ⟨gR, t, none⟩ = some (.slice At mt ct) := cellt
          replace cells : wr.cell? ⟨gR, s, none⟩ = some (.slice As ms cs) := cells
          have HST : Hid (turnV true (G y q) ++ G y k = S y k) := by
            have h1 := HP.out
            have h2 := HR.out
            have h3 := HNW.out
            have i1 : Fo.ab k W true false = q := by unfold Fo.ab; simp; try omega
            have i2 : Fo.ab k W false false = k := by unfold Fo.ab; simp; try omega
            rw [HS.out]
            show _ = turnV true (G y (Fo.ab k W true false)) ++ G y (Fo.ab k W false false)
            rw [i1, i2]
          have RO := Lib.hid rdq
          have RU := Lib.hid rdk
          have hlo : mq = L := by have h1 : (G y q).length = mq := RO.out.rd.1; have h2 := HG.out y q hlt (by rw [← HNW.out]; exact hqn); omega
          have hlu : mk = L := by have h1 : (G y k).length = mk := RU.out.rd.1; have h2 := HG.out y k hlt (by rw [← HNW.out]; exact hkn); omega
          have HLO := Lib.hid hlo
          have HLU := Lib.hid hlu
          obtain ⟨hs, q1, q2, q3⟩ := hrr
          have HQ1 := Lib.hid q1
          have HQ3 := Lib.hid q3
          clear rdq rdk rdt rds hq ht hs2 q1 q3 hlo hlu hrow5
          go_wp2_with fail
          go_quiet (fail)
          go_wp2_with fail
          refine (turn_any true Aq mq cq B _ _ (RO.out.below (below_drewN' (Below.refl _ _) _) (Nat.le_refl _)).rd (by have := hbw.size; simp; omega) (by have := HLO.out; omega)).mono ?_
          rintro e w2 ⟨A5, c5, rfl, o5, hb6⟩
          have hz6 : wr.heap.size ≤ w2.heap.size := hb6.size
          have hb6' : Below wr.heap.size wr w2 := (below_drewN' (Below.refl _ _) _).trans hb6
          have RU1 := Lib.hid (RU.out.below hb6' (by have := hbw.size; omega))
          have q2' : Own H3.v w2 w1.heap.size wr.heap.size 106 (.slice A4 k c4) hs := q2.below hb6' (Nat.le_refl _)
          have HQ4 : Hid (∀ (j : Nat) (p : H3), hs[j]? = some p → OwnV w2 w1.heap.size wr.heap.size p.v (S y j)) := Lib.hid fun j p hp => (HQ3.out j p hp).below hb6' (Nat.le_refl _)
          clear q2 RO RU HQ3
          go_wp2_with (at_builtin; first
            | (refine wp_push4 w6 rfl _ _ 132 rfl 106 iS _ 24 Try.underlying132 hiS hzS hsS hbS rfl A4 k c4 _ _ _ rfl ho6 (⟨A6, mq + mk, c6⟩ : H3) _ rfl rfl rfl (by omega) (by omega) (by omega) ?_; intro A7 c7 w7 o7 hm7 hk7)
            | (refine wp_spreadV w2 rfl _ _ rfl A5 mq c5 _ _ _ rfl o5 Ak mk ck B _ rfl RU1.out.rd (by have := HLO.out; have := HLU.out; omega) hz6 (by have := HLU.out; omega) ?_; intro A6 c6 w6 o6 hm6; have hz6' := hm6.size; have ho6 := (q2'.only hm6 (.inl (Nat.le_refl _))).mono (Nat.le_refl _) (Nat.le_trans hz6 hz6')))
          have hz7 := hm7.size
          go_roundw
          case rel =>
            have hb8 : Below w1.heap.size w1 w6 := (hb5.trans (hb6'.mono hz5)).trans (hm6.below hz5 (by omega))
            refine ⟨k + 1, by omega, by go_num, ⟨_, _, rfl, ?_⟩, hb8.trans (hm7.below (Nat.le_refl _) (by omega))⟩
            have h3 : ∀ (j : Nat) (p : H3), hs[j]? = some p → OwnV w6 w1.heap.size w6.heap.size p.v (S y j) := fun j p hp => ((HQ4.out j p hp).only hm6 (.inl (Nat.le_refl _))).mono (Nat.le_refl _) (by omega)
            exact RowF.push ho6 h3 (o6.mono (by simpa using hz5) (Nat.le_refl _)) HST.out hk7 (Nat.le_refl _) (Nat.le_refl _) hz7 o7
          case measure => simp [intOf]; omega
        · obtain rfl : k = W := by omega
          obtain ⟨hs, q1, q2, q3⟩ := HGr.out.below hb5 (Nat.le_refl _)
          have HQ := Lib.hid (And.intro q1 q3)
          clear q1 q3
          go_wp2_with (at_builtin; refine wp_push4 _ rfl _ _ 129 rfl 132 iG _ 24 Try.underlying129 hiG hzG hsG hbG rfl A3 y c3 _ _ _ rfl q2 ⟨A4, k, c4⟩ _ rfl rfl rfl (by omega) (by omega) (by omega) ?_; intro A6 c6 w6 ho6 hm6 hk6)
          go_roundw
          case rel =>
            refine ⟨y + 1, by omega, by go_num, ⟨_, _, rfl, ?_⟩, ?_⟩
            · exact GridF.push q2 (fun j' p hp => (HQ.out.2 j' p hp).mono (Nat.le_refl _) hz5) (hrr.mono hsz (Nat.le_refl _)) hk6 (Nat.le_refl _) (Nat.le_refl _) hm6.size ho6
            · exact HB.out.trans ((hb5.mono hsz).trans (hm6.below (Nat.le_refl _) (by omega)))
          case measure => simp [intOf]; omega
    · obtain rfl : y = m := by omega
      go_wp2
      go_ret
      exact ⟨_, _, rfl, hg, hb⟩

set_option maxRecDepth 100000 in
set_option maxHeartbeats 4000000 in
theorem along_76 (A : Option Addr) (m c W L lo B : Nat) (G : Nat → Nat → List Lv) (w : World) (h : GridF w lo B ⟨A, m, c⟩ m (2 * W) G) (hB : B ≤ w.heap.size) (hm8 : m ≤ 8) (hW : 0 < W) (hW4 : W ≤ 4)
    (hG : ∀ y x, y < m → x < 2 * W → (G y x).length = L) (hL0 : 0 < L) (hL64 : L ≤ 64) :
    Calls Try.prog 121 #[.slice A m c, .int .u8 76] w fun e w' => ∃ A' c', e = .returned (.slice A' m c') ∧
      GridF w' w.heap.size w'.heap.size ⟨A', m, c'⟩ m W (fun y x => turnV true (G y (Fo.ab x W true true)) ++ G y (Fo.ab x W false true)) ∧ Below w.heap.size w w' := by
  obtain ⟨iS, hiS, hzS, hsS, hbS⟩ := info_parts infoS
  obtain ⟨iG, hiG, hzG, hsG, hbG⟩ := info_parts infoG
  obtain ⟨S, hS⟩ : ∃ S : Nat → Nat → List Lv, S = fun y x => turnV true (G y (Fo.ab x W true true)) ++ G y (Fo.ab x W false true) := ⟨_, rfl⟩
  rw [← hS]
  have HS := Lib.hid hS
  have HG := Lib.hid hG
  clear hS hG
  obtain ⟨N, hN⟩ : ∃ N : Nat, N = 2 * W := ⟨_, rfl⟩
  rw [← hN] at h
  have hg0 := GridF.empty w W S
  have hb3 : Below w.heap.size w (w.alloc (.cells #[] 132)) := (Below.refl _ _).alloc (Nat.le_refl _) _
  obtain ⟨p, hp⟩ : ∃ p : Nat, N = p + 1 := ⟨N - 1, by omega⟩
  obtain ⟨r, hr⟩ : ∃ r : Nat, W = r + 1 := ⟨W - 1, by omega⟩
  have hd2 : (N : Int).tdiv 2 = (W : Int) := by rw [Int.tdiv_eq_ediv_of_nonneg (by omega)]; omega
  have e1 : IntKind.i64.wrap (W : Int) = (W : Int) := IntWalk.i64_in _ (by omega)
  have e2 : IntKind.i64.wrap ((N : Int) - 1) = (p : Int) := by rw [IntWalk.i64_in _ (by omega)]; omega
  have e4 : IntKind.i64.wrap ((W : Int) - 1) = (r : Int) := by rw [IntWalk.i64_in _ (by omega)]; omega
  have HP := Lib.hid hp
  have HR := Lib.hid hr
  have HNW := Lib.hid hN
  have HW := Lib.hid hW
  clear hp hr hN hW
  go_enter Try.func121, Try.ntmps121
  go_wp2_with fail
  go_loopw [5, 6] (fun v i wr => ∃ k : Nat, k ≤ m ∧ i = .int .i64 (k : Int) ∧ (∃ A3 c3, v = .slice A3 k c3 ∧ GridF wr w.heap.size wr.heap.size ⟨A3, k, c3⟩ k W S) ∧ Below w.heap.size w wr) (fun _ i _ => m - (intOf i).toNat)
  case atStart => exact ⟨0, Nat.zero_le _, rfl, ⟨_, _, rfl, hg0.mono (Nat.le_refl _) (by simp)⟩, hb3⟩
  case round =>
    clear hg0 hb3
    obtain ⟨y, hy, rfl, ⟨A3, c3, rfl, hg⟩, hb⟩ := hrel
    have hsz := hb.size
    obtain ⟨w1, rfl⟩ : ∃ w1, w1 = wr := ⟨_, rfl⟩
    by_cases hlt : y < m
    · have hr0 := RowF.empty w1 (S y)
      have hb4 : Below w1.heap.size w1 (w1.alloc (.cells #[] 106)) := (Below.refl _ _).alloc (Nat.le_refl _) _
      have htrue : decide ((y : Int) < (m : Int)) = true := by simp; omega
      obtain ⟨gA, ⟨Ar, Nr, cr⟩, hA, hgB, hcell, hrow⟩ := (h.below hb hB).at_ hlt
      obtain rfl : Nr = N := hrow.len
      have hA : A = some ⟨gA, 0, none⟩ := hA
      subst hA
      replace hcell : w1.cell? ⟨gA, y, none⟩ = some (.slice Ar Nr cr) := hcell
      have HGr := Lib.hid hg
      have HB := Lib.hid hb
      clear hg hb
      go_wp2_with fail
      go_loopw [8, 9] (fun v i ws => ∃ j : Nat, j ≤ W ∧ i = .int .i64 (j : Int) ∧ (∃ A4 c4, v = .slice A4 j c4 ∧ RowF ws w1.heap.size ws.heap.size ⟨A4, j, c4⟩ j (S y)) ∧ Below w1.heap.size w1 ws) (fun _ i _ => W - (intOf i).toNat)
      case atStart => exact ⟨0, Nat.zero_le _, rfl, ⟨_, _, rfl, hr0.mono (Nat.le_refl _) (by simp)⟩, hb4⟩
      case round =>
        clear hr0 hb4
        obtain ⟨k, hk, rfl, ⟨A4, c4, rfl, hrr⟩, hb5⟩ := hrel
        have hz5 := hb5.size
        have hbw := HB.out.trans (hb5.mono hsz)
        by_cases hkt : k < W
        · have hrow5 := hrow.below hb5 (Nat.le_trans hB hsz)
          have hcell5 : wr.cell? ⟨gA, y, none⟩ = some (.slice Ar Nr cr) := (hb5.cell (p := ⟨gA, y, none⟩) (by show gA < _; omega)).trans hcell
          obtain ⟨q, hq⟩ : ∃ q : Nat, q + k = p := ⟨p - k, by have := HP.out; have := HNW.out; omega⟩
          obtain ⟨t, ht⟩ : ∃ t : Nat, t + k = r := ⟨r - k, by have := HR.out; omega⟩
          obtain ⟨s, hs2⟩ : ∃ s : Nat, s = W + k := ⟨_, rfl⟩
          have e3 : IntKind.i64.wrap ((p : Int) - (k : Int)) = (q : Int) := by have := HP.out; have := HNW.out; rw [IntWalk.i64_in _ (by omega)]; omega
          have e5 : IntKind.i64.wrap ((r : Int) - (k : Int)) = (t : Int) := by have := HR.out; have := HNW.out; rw [IntWalk.i64_in _ (by omega)]; omega
          have e6 : IntKind.i64.wrap ((W : Int) + (k : Int)) = (s : Int) := by rw [IntWalk.i64_in _ (by omega)]; omega
          have hqn : q < Nr := by have := HP.out; omega
          have hkn : k < Nr := by have := HNW.out; omega
          have htn : t < Nr := by have := HR.out; have := HNW.out; omega
          have hsn : s < Nr := by have := HNW.out; omega
          obtain ⟨gR, ⟨Aq, mq, cq⟩, hAr, hgR, cellq, rdq⟩ := hrow5.at_ hqn
          have hAr : Ar = some ⟨gR, 0, none⟩ := hAr
          subst hAr
          obtain ⟨gR2, ⟨Ak, mk, ck⟩, hk2, _, cellk, rdk⟩ := hrow5.at_ hkn
          injection hk2 with hk2
          injection hk2 with hk2 _ _
          subst hk2
          obtain ⟨gR2, ⟨At, mt, ct⟩, hk2, _, cellt, rdt⟩ := hrow5.at_ htn
          injection hk2 with hk2
          injection hk2 with hk2 _ _
          subst hk2
          obtain ⟨gR2, ⟨As, ms, cs⟩, hk2, _, cells, rds⟩ := hrow5.at_ hsn
          injection hk2 with hk2
          injection hk2 with hk2 _ _
          subst hk2
          replace cellq : wr.cell? ⟨gR, q, none⟩ = some (.slice Aq mq cq) := cellq
          replace cellk : wr.cell? ⟨gR, k, none⟩ = some (.slice Ak mk ck) := cellk
          replace cellt : wr.cell? ⟨gR, t, none⟩ = some (.slice At mt ct) := cellt
          replace cells : wr.cell? ⟨gR, s, none⟩ = some (.slice As ms cs) := cells
          have HST : Hid (turnV true (G y t) ++ G y s = S y k) := by
            have h1 := HP.out
            have h2 := HR.out
            have h3 := HNW.out
            have i1 : Fo.ab k W true true = t := by unfold Fo.ab; simp; try omega
            have i2 : Fo.ab k W false true = s := by unfold Fo.ab; simp; try omega
            rw [HS.out]
            show _ = turnV true (G y (Fo.ab k W true true)) ++ G y (Fo.ab k W false true)
            rw [i1, i2]
          have RO := Lib.hid rdt
          have RU := Lib.hid rds
          have hlo : mt = L := by have h1 : (G y t).length = mt := RO.out.rd.1; have h2 := HG.out y t hlt (by rw [← HNW.out]; exact htn); omega
          have hlu : ms = L := by have h1 : (G y s).length = ms := RU.out.rd.1; have h2 := HG.out y s hlt (by rw [← HNW.out]; exact hsn); omega
          have HLO := Lib.hid hlo
          have HLU := Lib.hid hlu
          obtain ⟨hs, q1, q2, q3⟩ := hrr
          have HQ1 := Lib.hid q1
          have HQ3 := Lib.hid q3
          clear rdq rdk rdt rds hq ht hs2 q1 q3 hlo hlu hrow5
          go_wp2_with fail
          go_quiet (fail)
          go_wp2_with fail
          go_quiet (fail)
          go_wp2_with fail
          refine (turn_any true At mt ct B _ _ (RO.out.below (below_drewN' (Below.refl _ _) _) (Nat.le_refl _)).rd (by have := hbw.size; simp; omega) (by have := HLO.out; omega)).mono ?_
          rintro e w2 ⟨A5, c5, rfl, o5, hb6⟩
          have hz6 : wr.heap.size ≤ w2.heap.size := hb6.size
          have hb6' : Below wr.heap.size wr w2 := (below_drewN' (Below.refl _ _) _).trans hb6
          have RU1 := Lib.hid (RU.out.below hb6' (by have := hbw.size; omega))
          have q2' : Own H3.v w2 w1.heap.size wr.heap.size 106 (.slice A4 k c4) hs := q2.below hb6' (Nat.le_refl _)
          have HQ4 : Hid (∀ (j : Nat) (p : H3), hs[j]? = some p → OwnV w2 w1.heap.size wr.heap.size p.v (S y j)) := Lib.hid fun j p hp => (HQ3.out j p hp).below hb6' (Nat.le_refl _)
          clear q2 RO RU HQ3
          go_wp2_with (at_builtin; first
            | (refine wp_push4 w6 rfl _ _ 132 rfl 106 iS _ 24 Try.underlying132 hiS hzS hsS hbS rfl A4 k c4 _ _ _ rfl ho6 (⟨A6, mt + ms, c6⟩ : H3) _ rfl rfl rfl (by omega) (by omega) (by omega) ?_; intro A7 c7 w7 o7 hm7 hk7)
            | (refine wp_spreadV w2 rfl _ _ rfl A5 mt c5 _ _ _ rfl o5 As ms cs B _ rfl RU1.out.rd (by have := HLO.out; have := HLU.out; omega) hz6 (by have := HLU.out; omega) ?_; intro A6 c6 w6 o6 hm6; have hz6' := hm6.size; have ho6 := (q2'.only hm6 (.inl (Nat.le_refl _))).mono (Nat.le_refl _) (Nat.le_trans hz6 hz6')))
          have hz7 := hm7.size
          go_roundw
          case rel =>
            have hb8 : Below w1.heap.size w1 w6 := (hb5.trans (hb6'.mono hz5)).trans (hm6.below hz5 (by omega))
            refine ⟨k + 1, by omega, by go_num, ⟨_, _, rfl, ?_⟩, hb8.trans (hm7.below (Nat.le_refl _) (by omega))⟩
            have h3 : ∀ (j : Nat) (p : H3), hs[j]? = some p → OwnV w6 w1.heap.size w6.heap.size p.v (S y j) := fun j p hp => ((HQ4.out j p hp).only hm6 (.inl (Nat.le_refl _))).mono (Nat.le_refl _) (by omega)
            exact RowF.push ho6 h3 (o6.mono (by simpa using hz5) (Nat.le_refl _)) HST.out hk7 (Nat.le_refl _) (Nat.le_refl _) hz7 o7
          case measure => simp [intOf]; omega
        · obtain rfl : k = W := by omega
          obtain ⟨hs, q1, q2, q3⟩ := HGr.out.below hb5 (Nat.le_refl _)
          have HQ := Lib.hid (And.intro q1 q3)
          clear q1 q3
          go_wp2_with (at_builtin; refine wp_push4 _ rfl _ _ 129 rfl 132 iG _ 24 Try.underlying129 hiG hzG hsG hbG rfl A3 y c3 _ _ _ rfl q2 ⟨A4, k, c4⟩ _ rfl rfl rfl (by omega) (by omega) (by omega) ?_; intro A6 c6 w6 ho6 hm6 hk6)
          go_roundw
          case rel =>
            refine ⟨y + 1, by omega, by go_num, ⟨_, _, rfl, ?_⟩, ?_⟩
            · exact GridF.push q2 (fun j' p hp => (HQ.out.2 j' p hp).mono (Nat.le_refl _) hz5) (hrr.mono hsz (Nat.le_refl _)) hk6 (Nat.le_refl _) (Nat.le_refl _) hm6.size ho6
            · exact HB.out.trans ((hb5.mono hsz).trans (hm6.below (Nat.le_refl _) (by omega)))
          case measure => simp [intOf]; omega
    · obtain rfl : y = m := by omega
      go_wp2
      go_ret
      exact ⟨_, _, rfl, hg, hb⟩
end Go.Proofs.Ytfiefjbipjalpaa
