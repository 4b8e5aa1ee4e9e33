/- Contracts of the model's function that folds rows of piles across. -/
import Derived.Test.YtfiefjbipjalpaaFoSt
import Derived.BigQuiet
import Derived.Deep.QuietTactic
import Derived.Deep.RegionLaw
namespace Go.Proofs.Ytfiefjbipjalpaa
open Go.RowKit

set_option maxRecDepth 100000 in
set_option maxHeartbeats 4000000 in
theorem across_66 (A : Option Addr) (H c W L lo B : Nat) (G : Nat → Nat → List Lv) (w : World) (h : GridF w lo B ⟨A, 2 * H, c⟩ (2 * H) W G) (hB : B ≤ w.heap.size) (hm8 : W ≤ 8) (hW : 0 < H) (hW4 : H ≤ 4)
    (hG : ∀ y x, y < 2 * H → x < W → (G y x).length = L) (hL0 : 0 < L) (hL64 : L ≤ 64) :
    Calls Try.prog 122 #[.slice A ((2 * H : Nat) : Int).toNat c, .int .u8 66] w fun e w' => ∃ A' c', e = .returned (.slice A' H c') ∧
      GridF w' w.heap.size w'.heap.size ⟨A', H, c'⟩ H W (fun y x => turnV false (G (Fo.ab y H true false) x) ++ G (Fo.ab y H false false) x) ∧ Below w.heap.size w w' := by
  obtain ⟨iS, hiS, hzS, hsS, hbS⟩ := info_parts infoS
  obtain ⟨iG, hiG, hzG, hsG, hbG⟩ := info_parts infoG
  obtain ⟨S, hS⟩ : ∃ S : Nat → Nat → List Lv, S = fun y x => turnV false (G (Fo.ab y H true false) x) ++ G (Fo.ab y H false false) x := ⟨_, rfl⟩
  rw [← hS, Int.toNat_natCast]
  have HS := Lib.hid hS
  have HG := Lib.hid hG
  clear hS hG
  obtain ⟨N, hN⟩ : ∃ N : Nat, N = 2 * H := ⟨_, rfl⟩
  rw [← hN] at h ⊢
  have hg0 := GridF.empty w W S
  have hb3 : Below w.heap.size w (w.alloc (.cells #[] 132)) := (Below.refl _ _).alloc (Nat.le_refl _) _
  obtain ⟨p, hp⟩ : ∃ p : Nat, N = p + 1 := ⟨N - 1, by omega⟩
  obtain ⟨r, hr⟩ : ∃ r : Nat, H = r + 1 := ⟨H - 1, by omega⟩
  have hd2 : (N : Int).tdiv 2 = (H : Int) := by rw [Int.tdiv_eq_ediv_of_nonneg (by omega)]; omega
  have e1 : IntKind.i64.wrap (H : Int) = (H : Int) := IntWalk.i64_in _ (by omega)
  have e2 : IntKind.i64.wrap ((N : Int) - 1) = (p : Int) := by rw [IntWalk.i64_in _ (by omega)]; omega
  have e4 : IntKind.i64.wrap ((H : Int) - 1) = (r : Int) := by rw [IntWalk.i64_in _ (by omega)]; omega
  have HP := Lib.hid hp
  have HR := Lib.hid hr
  have HNW := Lib.hid hN
  have HW := Lib.hid hW
  clear hp hr hN hW
  go_enter Try.func122, Try.ntmps122
  go_wp2_with fail
  go_loopw [6, 7] (fun v i wr => ∃ k : Nat, k ≤ H ∧ i = .int .i64 (k : Int) ∧ (∃ A3 c3, v = .slice A3 k c3 ∧ GridF wr w.heap.size wr.heap.size ⟨A3, k, c3⟩ k W S) ∧ Below w.heap.size w wr) (fun _ i _ => H - (intOf i).toNat)
  case atStart => exact ⟨0, Nat.zero_le _, rfl, ⟨_, _, rfl, hg0.mono (Nat.le_refl _) (by simp)⟩, hb3⟩
  case round =>
    clear hg0 hb3
    obtain ⟨k, hk, rfl, ⟨A3, c3, rfl, hg⟩, hb⟩ := hrel
    have hsz := hb.size
    obtain ⟨w0, rfl⟩ : ∃ w0, w0 = wr := ⟨_, rfl⟩
    by_cases hlt : k < H
    · have htrue : decide ((k : Int) < (H : Int)) = true := by simp; omega
      have h5 := h.below hb hB
      obtain ⟨q, hq⟩ : ∃ q : Nat, q + k = p := ⟨p - k, by have := HP.out; have := HNW.out; omega⟩
      obtain ⟨t, ht⟩ : ∃ t : Nat, t + k = r := ⟨r - k, by have := HR.out; omega⟩
      obtain ⟨s, hs2⟩ : ∃ s : Nat, s = H + k := ⟨_, rfl⟩
      have e3 : IntKind.i64.wrap ((p : Int) - (k : Int)) = (q : Int) := by have := HP.out; have := HNW.out; rw [IntWalk.i64_in _ (by omega)]; omega
      have e5 : IntKind.i64.wrap ((r : Int) - (k : Int)) = (t : Int) := by have := HR.out; have := HNW.out; rw [IntWalk.i64_in _ (by omega)]; omega
      have e6 : IntKind.i64.wrap ((H : Int) + (k : Int)) = (s : Int) := by rw [IntWalk.i64_in _ (by omega)]; omega
      have hqn : q < N := by have := HP.out; omega
      have hkn : k < N := by have := HNW.out; omega
      have htn : t < N := by have := HR.out; have := HNW.out; omega
      have hsn : s < N := by have := HNW.out; omega
      obtain ⟨gR, ⟨Aq, mq, cq⟩, hAr, hgR, cellq, rdq⟩ := h5.at_ hqn
      have hAr : A = some ⟨gR, 0, none⟩ := hAr
      subst hAr
      obtain ⟨gR2, ⟨Ak, mk, ck⟩, hk2, _, cellk, rdk⟩ := h5.at_ hkn
      injection hk2 with hk2
      injection hk2 with hk2 _ _
      subst hk2
      obtain ⟨gR2, ⟨At, mt, ct⟩, hk2, _, cellt, rdt⟩ := h5.at_ htn
      injection hk2 with hk2
      injection hk2 with hk2 _ _
      subst hk2
      obtain ⟨gR2, ⟨As, ms, cs⟩, hk2, _, cells, rds⟩ := h5.at_ hsn
      injection hk2 with hk2
      injection hk2 with hk2 _ _
      subst hk2
      replace cellq : w0.cell? ⟨gR, q, none⟩ = some (.slice Aq mq cq) := cellq
      replace cellk : w0.cell? ⟨gR, k, none⟩ = some (.slice Ak mk ck) := cellk
      replace cellt : w0.cell? ⟨gR, t, none⟩ = some (.slice At mt ct) := cellt
      replace cells : w0.cell? ⟨gR, s, none⟩ = some (.slice As ms cs) := cells
      have HST : Hid (∀ x, turnV false (G q x) ++ G k x = S k x) := by
        have h1 := HP.out
        have h2 := HR.out
        have h3 := HNW.out
        have i1 : Fo.ab k H true false = q := by unfold Fo.ab; simp; try omega
        have i2 : Fo.ab k H false false = k := by unfold Fo.ab; simp; try omega
        refine Lib.hid fun x => ?_
        rw [HS.out]
        show _ = turnV false (G (Fo.ab k H true false) x) ++ G (Fo.ab k H false false) x
        rw [i1, i2]
      obtain rfl : mq = W := rdq.len
      obtain ⟨mu, hmu⟩ : ∃ mu, mu = mk := ⟨_, rfl⟩
      have RO := Lib.hid rdq
      have RU := Lib.hid rdk
      have HGO : Hid (∀ x, x < mq → (G q x).length = L ∧ (G k x).length = L) := Lib.hid fun x hx => ⟨HG.out q x (by rw [← HNW.out]; exact hqn) hx, HG.out k x (by rw [← HNW.out]; exact hkn) hx⟩
      have hr0 := RowF.empty w0 (S k)
      have HGr := Lib.hid hg
      have HB := Lib.hid hb
      clear rdq rdk rdt rds hq ht hs2 h5 hg hb hmu
      go_wp2_with fail
      go_quiet (fail)
      go_wp2_with fail
      have hw0 : ∀ nn, (w0.drewN nn).heap.size = w0.heap.size := fun _ => rfl
      go_loopw [10, 11] (fun v i ws => ∃ j : Nat, j ≤ mq ∧ i = .int .i64 (j : Int) ∧ (∃ A4 c4, v = .slice A4 j c4 ∧ RowF ws w0.heap.size ws.heap.size ⟨A4, j, c4⟩ j (S k)) ∧ Below w0.heap.size w0 ws) (fun _ i _ => mq - (intOf i).toNat)
      case atStart => exact ⟨0, Nat.zero_le _, rfl, ⟨_, _, rfl, (RowF.empty (w0.drewN _) (S k)).mono (Nat.le_refl _) (by simp)⟩, (below_drewN' (Below.refl _ _) _).alloc (Nat.le_refl _) _⟩
      case round =>
        clear hr0
        obtain ⟨j, hj, rfl, ⟨A4, c4, rfl, hrr⟩, hb5⟩ := hrel
        have hz5 := hb5.size
        have hbw := HB.out.trans (hb5.mono hsz)
        by_cases hjt : j < mq
        · obtain ⟨gO, ⟨Ap, mp, cp⟩, hAo, hgO, cello, rdo⟩ := (RO.out.below hb5 (Nat.le_trans hB hsz)).at_ hjt
          obtain ⟨gU, ⟨Av, mv, cv⟩, hAu, hgU, cellu, rdu⟩ := (RU.out.below hb5 (Nat.le_trans hB hsz)).at_ hjt
          have hAo : Aq = some ⟨gO, 0, none⟩ := hAo
          have hAu : Ak = some ⟨gU, 0, none⟩ := hAu
          subst hAo hAu
          replace cello : wr.cell? ⟨gO, j, none⟩ = some (.slice Ap mp cp) := cello
          replace cellu : wr.cell? ⟨gU, j, none⟩ = some (.slice Av mv cv) := cellu
          have hlo : mp = L := by have h1 : (G q j).length = mp := rdo.rd.1; have h2 := (HGO.out j hjt).1; omega
          have hlu : mv = L := by have h1 : (G k j).length = mv := rdu.rd.1; have h2 := (HGO.out j hjt).2; omega
          have hmun : j < mk := by have h1 : mk = mq := RU.out.len; omega
          have HLO := Lib.hid hlo
          have HLU := Lib.hid hlu
          have HRO := Lib.hid rdo
          have HRU := Lib.hid rdu
          have hBw : B ≤ wr.heap.size := by omega
          have HBW := Lib.hid hBw
          obtain ⟨hs, q1, q2, q3⟩ := hrr
          have HQ1 := Lib.hid q1
          have HQ2 := Lib.hid q2
          have HQ3 := Lib.hid q3
          have hmp : mp ≤ 64 := by omega
          have hmv : mv ≤ 64 := by omega
          have hmv0 : 0 < mv := by omega
          have hz5b : w0.heap.size ≤ wr.heap.size := hz5
          clear rdo rdu q1 q2 q3 hlo hlu hBw
          go_wp2_with fail
          go_region_law (first
            | (go_simp; go_at_call 130; refine (turn_any false Ap mp cp B _ wr.drew (show RdV wr.drew B Ap mp _ from HRO.out.rd) (by have := HBW.out; simp; omega) (by omega)).mono ?_; rintro e w2 ⟨A5, c5, rfl, o5, hb6⟩; have cellu2 : w2.cell? ⟨gU, j, none⟩ = some (.slice Av mv cv) := (hb6.cell (p := ⟨gU, j, none⟩) (by show gU < _; have := HBW.out; simp; omega)).trans cellu)
            | ((refine step_spreadV w2 rfl (.tmp 61) (.tmp 65) rfl A5 mp c5 _ _ _ (by rfl) o5 Av mv cv B _ (by rfl) (show RdV w2 B Av mv _ from (show RdV wr.drew B Av mv _ from HRU.out.rd).below hb6 (by have := HBW.out; simp; omega)) (by omega) (by have := hb6.size; simpa using this) hmv0 ?_); intro A6 c6 w6 o6 hm6; have hz6 := hb6.size; have hz6' := hm6.size; have ho6 := (((show Own H3.v wr.drew _ _ _ _ hs from HQ2.out).below hb6 (Nat.le_refl _)).only hm6 (.inl (by simp))).mono (Nat.le_refl _) (show wr.heap.size ≤ w6.heap.size by simp at hz6; omega))
            | ((refine step_push3 w6 rfl (.tmp 56) (.tmp 67) 132 rfl 106 iS _ 24 Try.underlying132 hiS hzS hsS hbS rfl A4 j c4 _ _ _ (by rfl) ho6 (⟨A6, mp + mv, c6⟩ : H3) (by rfl) rfl (by omega) (by omega) (by simp at hz6; omega) ?_); intro A7 c7 w7 o7 hm7 hk7))
          all_goals
            have hz7 := hm7.size
            simp at hz6
            have hb6' : Below wr.heap.size wr w2 := ((Below.refl _ wr).drew).trans hb6
            have HQ4 : Hid (∀ (j' : Nat) (p : H3), hs[j']? = some p → OwnV w2 w0.heap.size wr.heap.size p.v (S k j')) := Lib.hid fun j' p hp => (HQ3.out j' p hp).below hb6' (Nat.le_refl _)
            have hb8 : Below w0.heap.size w0 w6 := (hb5.trans (hb6'.mono hz5)).trans (hm6.below (by simpa using hz5) (by omega))
            have HB9 := Lib.hid (hb8.trans (hm7.below (Nat.le_refl _) (by omega)))
            have h3 : ∀ (j' : Nat) (p : H3), hs[j']? = some p → OwnV w6 w0.heap.size w6.heap.size p.v (S k j') := fun j' p hp => ((HQ4.out j' p hp).only hm6 (.inl (by simp))).mono (Nat.le_refl _) (by omega)
            have HPU := Lib.hid (RowF.push ho6 h3 (o6.mono (by simpa using hz5) (Nat.le_refl _)) (HST.out j) hk7 (Nat.le_refl _) (Nat.le_refl _) hz7 o7)
            clear o5 o6 o7 ho6 hb6 hb6' hm6 hm7 hk7 h3 hb8
            go_wp2_with fail
            go_roundw
            case rel => exact ⟨j + 1, by omega, by go_num, ⟨_, _, rfl, HPU.out⟩, HB9.out⟩
            case measure => simp [intOf]; omega
        · obtain rfl : j = mq := by omega
          obtain ⟨hs, q1, q2, q3⟩ := HGr.out.below hb5 (Nat.le_refl _)
          have HQ := Lib.hid (And.intro q1 q3)
          clear q1 q3
          go_wp2_with (at_builtin; refine wp_push4 _ rfl _ _ 129 rfl 132 iG _ 24 Try.underlying129 hiG hzG hsG hbG rfl A3 k c3 _ _ _ rfl q2 ⟨A4, j, c4⟩ _ rfl rfl rfl (by omega) (by omega) (by omega) ?_; intro A6 c6 w6 ho6 hm6 hk6)
          go_roundw
          case rel =>
            refine ⟨k + 1, by omega, by go_num, ⟨_, _, rfl, ?_⟩, ?_⟩
            · exact GridF.push q2 (fun j' p hp => (HQ.out.2 j' p hp).mono (Nat.le_refl _) hz5) (hrr.mono hsz (Nat.le_refl _)) hk6 (Nat.le_refl _) (Nat.le_refl _) hm6.size ho6
            · exact HB.out.trans ((hb5.mono hsz).trans (hm6.below (Nat.le_refl _) (by omega)))
          case measure => simp [intOf]; omega
    · obtain rfl : k = H := by omega
      go_wp2
      go_ret
      exact ⟨_, _, rfl, hg, hb⟩

set_option maxRecDepth 100000 in
set_option maxHeartbeats 4000000 in
theorem across_84 (A : Option Addr) (H c W L lo B : Nat) (G : Nat → Nat → List Lv) (w : World) (h : GridF w lo B ⟨A, 2 * H, c⟩ (2 * H) W G) (hB : B ≤ w.heap.size) (hm8 : W ≤ 8) (hW : 0 < H) (hW4 : H ≤ 4)
    (hG : ∀ y x, y < 2 * H → x < W → (G y x).length = L) (hL0 : 0 < L) (hL64 : L ≤ 64) :
    Calls Try.prog 122 #[.slice A ((2 * H : Nat) : Int).toNat c, .int .u8 84] w fun e w' => ∃ A' c', e = .returned (.slice A' H c') ∧
      GridF w' w.heap.size w'.heap.size ⟨A', H, c'⟩ H W (fun y x => turnV false (G (Fo.ab y H true true) x) ++ G (Fo.ab y H false true) x) ∧ Below w.heap.size w w' := by
  obtain ⟨iS, hiS, hzS, hsS, hbS⟩ := info_parts infoS
  obtain ⟨iG, hiG, hzG, hsG, hbG⟩ := info_parts infoG
  obtain ⟨S, hS⟩ : ∃ S : Nat → Nat → List Lv, S = fun y x => turnV false (G (Fo.ab y H true true) x) ++ G (Fo.ab y H false true) x := ⟨_, rfl⟩
  rw [← hS, Int.toNat_natCast]
  have HS := Lib.hid hS
  have HG := Lib.hid hG
  clear hS hG
  obtain ⟨N, hN⟩ : ∃ N : Nat, N = 2 * H := ⟨_, rfl⟩
  rw [← hN] at h ⊢
  have hg0 := GridF.empty w W S
  have hb3 : Below w.heap.size w (w.alloc (.cells #[] 132)) := (Below.refl _ _).alloc (Nat.le_refl _) _
  obtain ⟨p, hp⟩ : ∃ p : Nat, N = p + 1 := ⟨N - 1, by omega⟩
  obtain ⟨r, hr⟩ : ∃ r : Nat, H = r + 1 := ⟨H - 1, by omega⟩
  have hd2 : (N : Int).tdiv 2 = (H : Int) := by rw [Int.tdiv_eq_ediv_of_nonneg (by omega)]; omega
  have e1 : IntKind.i64.wrap (H : Int) = (H : Int) := IntWalk.i64_in _ (by omega)
  have e2 : IntKind.i64.wrap ((N : Int) - 1) = (p : Int) := by rw [IntWalk.i64_in _ (by omega)]; omega
  have e4 : IntKind.i64.wrap ((H : Int) - 1) = (r : Int) := by rw [IntWalk.i64_in _ (by omega)]; omega
  have HP := Lib.hid hp
  have HR := Lib.hid hr
  have HNW := Lib.hid hN
  have HW := Lib.hid hW
  clear hp hr hN hW
  go_enter Try.func122, Try.ntmps122
  go_wp2_with fail
  go_loopw [6, 7] (fun v i wr => ∃ k : Nat, k ≤ H ∧ i = .int .i64 (k : Int) ∧ (∃ A3 c3, v = .slice A3 k c3 ∧ GridF wr w.heap.size wr.heap.size ⟨A3, k, c3⟩ k W S) ∧ Below w.heap.size w wr) (fun _ i _ => H - (intOf i).toNat)
  case atStart => exact ⟨0, Nat.zero_le _, rfl, ⟨_, _, rfl, hg0.mono (Nat.le_refl _) (by simp)⟩, hb3⟩
  case round =>
    clear hg0 hb3
    obtain ⟨k, hk, rfl, ⟨A3, c3, rfl, hg⟩, hb⟩ := hrel
    have hsz := hb.size
    obtain ⟨w0, rfl⟩ : ∃ w0, w0 = wr := ⟨_, rfl⟩
    by_cases hlt : k < H
    · have htrue : decide ((k : Int) < (H : Int)) = true := by simp; omega
      have h5 := h.below hb hB
      obtain ⟨q, hq⟩ : ∃ q : Nat, q + k = p := ⟨p - k, by have := HP.out; have := HNW.out; omega⟩
      obtain ⟨t, ht⟩ : ∃ t : Nat, t + k = r := ⟨r - k, by have := HR.out; omega⟩
      obtain ⟨s, hs2⟩ : ∃ s : Nat, s = H + k := ⟨_, rfl⟩
      have e3 : IntKind.i64.wrap ((p : Int) - (k : Int)) = (q : Int) := by have := HP.out; have := HNW.out; rw [IntWalk.i64_in _ (by omega)]; omega
      have e5 : IntKind.i64.wrap ((r : Int) - (k : Int)) = (t : Int) := by have := HR.out; have := HNW.out; rw [IntWalk.i64_in _ (by omega)]; omega
      have e6 : IntKind.i64.wrap ((H : Int) + (k : Int)) = (s : Int) := by rw [IntWalk.i64_in _ (by omega)]; omega
      have hqn : q < N := by have := HP.out; omega
      have hkn : k < N := by have := HNW.out; omega
      have htn : t < N := by have := HR.out; have := HNW.out; omega
      have hsn : s < N := by have := HNW.out; omega
      obtain ⟨gR, ⟨Aq, mq, cq⟩, hAr, hgR, cellq, rdq⟩ := h5.at_ hqn
      have hAr : A = some ⟨gR, 0, none⟩ := hAr
      subst hAr
      obtain ⟨gR2, ⟨Ak, mk, ck⟩, hk2, _, cellk, rdk⟩ := h5.at_ hkn
      injection hk2 with hk2
      injection hk2 with hk2 _ _
      subst hk2
      obtain ⟨gR2, ⟨At, mt, ct⟩, hk2, _, cellt, rdt⟩ := h5.at_ htn
      injection hk2 with hk2
      injection hk2 with hk2 _ _
      subst hk2
      obtain ⟨gR2, ⟨As, ms, cs⟩, hk2, _, cells, rds⟩ := h5.at_ hsn
      injection hk2 with hk2
      injection hk2 with hk2 _ _
      subst hk2
      replace cellq : w0.cell? ⟨gR, q, none⟩ = some (.slice Aq mq cq) := cellq
      replace cellk : w0.cell? ⟨gR, k, none⟩ = some (.slice Ak mk ck) := cellk
      replace cellt : w0.cell? ⟨gR, t, none⟩ = some (.slice At mt ct) := cellt
      replace cells : w0.cell? ⟨gR, s, none⟩ = some (.slice As ms cs) := cells
      have HST : Hid (∀ x, turnV false (G t x) ++ G s x = S k x) := by
        have h1 := HP.out
        have h2 := HR.out
        have h3 := HNW.out
        have i1 : Fo.ab k H true true = t := by unfold Fo.ab; simp; try omega
        have i2 : Fo.ab k H false true = s := by unfold Fo.ab; simp; try omega
        refine Lib.hid fun x => ?_
        rw [HS.out]
        show _ = turnV false (G (Fo.ab k H true true) x) ++ G (Fo.ab k H false true) x
        rw [i1, i2]
      obtain rfl : mt = W := rdt.len
      obtain ⟨mu, hmu⟩ : ∃ mu, mu = ms := ⟨_, rfl⟩
      have RO := Lib.hid rdt
      have RU := Lib.hid rds
      have HGO : Hid (∀ x, x < mt → (G t x).length = L ∧ (G s x).length = L) := Lib.hid fun x hx => ⟨HG.out t x (by rw [← HNW.out]; exact htn) hx, HG.out s x (by rw [← HNW.out]; exact hsn) hx⟩
      have hr0 := RowF.empty w0 (S k)
      have HGr := Lib.hid hg
      have HB := Lib.hid hb
      clear rdq rdk rdt rds hq ht hs2 h5 hg hb hmu
      go_wp2_with fail
      go_quiet (fail)
      go_wp2_with fail
      go_quiet (fail)
      go_wp2_with fail
      have hw0 : ∀ nn, (w0.drewN nn).heap.size = w0.heap.size := fun _ => rfl
      go_loopw [10, 11] (fun v i ws => ∃ j : Nat, j ≤ mt ∧ i = .int .i64 (j : Int) ∧ (∃ A4 c4, v = .slice A4 j c4 ∧ RowF ws w0.heap.size ws.heap.size ⟨A4, j, c4⟩ j (S k)) ∧ Below w0.heap.size w0 ws) (fun _ i _ => mt - (intOf i).toNat)
      case atStart => exact ⟨0, Nat.zero_le _, rfl, ⟨_, _, rfl, (RowF.empty (w0.drewN _) (S k)).mono (Nat.le_refl _) (by simp)⟩, (below_drewN' (Below.refl _ _) _).alloc (Nat.le_refl _) _⟩
      case round =>
        clear hr0
        obtain ⟨j, hj, rfl, ⟨A4, c4, rfl, hrr⟩, hb5⟩ := hrel
        have hz5 := hb5.size
        have hbw := HB.out.trans (hb5.mono hsz)
        by_cases hjt : j < mt
        · obtain ⟨gO, ⟨Ap, mp, cp⟩, hAo, hgO, cello, rdo⟩ := (RO.out.below hb5 (Nat.le_trans hB hsz)).at_ hjt
          obtain ⟨gU, ⟨Av, mv, cv⟩, hAu, hgU, cellu, rdu⟩ := (RU.out.below hb5 (Nat.le_trans hB hsz)).at_ hjt
          have hAo : At = some ⟨gO, 0, none⟩ := hAo
          have hAu : As = some ⟨gU, 0, none⟩ := hAu
          subst hAo hAu
          replace cello : wr.cell? ⟨gO, j, none⟩ = some (.slice Ap mp cp) := cello
          replace cellu : wr.cell? ⟨gU, j, none⟩ = some (.slice Av mv cv) := cellu
          have hlo : mp = L := by have h1 : (G t j).length = mp := rdo.rd.1; have h2 := (HGO.out j hjt).1; omega
          have hlu : mv = L := by have h1 : (G s j).length = mv := rdu.rd.1; have h2 := (HGO.out j hjt).2; omega
          have hmun : j < ms := by have h1 : ms = mt := RU.out.len; omega
          have HLO := Lib.hid hlo
          have HLU := Lib.hid hlu
          have HRO := Lib.hid rdo
          have HRU := Lib.hid rdu
          have hBw : B ≤ wr.heap.size := by omega
          have HBW := Lib.hid hBw
          obtain ⟨hs, q1, q2, q3⟩ := hrr
          have HQ1 := Lib.hid q1
          have HQ2 := Lib.hid q2
          have HQ3 := Lib.hid q3
          have hmp : mp ≤ 64 := by omega
          have hmv : mv ≤ 64 := by omega
          have hmv0 : 0 < mv := by omega
          have hz5b : w0.heap.size ≤ wr.heap.size := hz5
          clear rdo rdu q1 q2 q3 hlo hlu hBw
          go_wp2_with fail
          go_region_law (first
            | (go_simp; go_at_call 130; refine (turn_any false Ap mp cp B _ wr.drew (show RdV wr.drew B Ap mp _ from HRO.out.rd) (by have := HBW.out; simp; omega) (by omega)).mono ?_; rintro e w2 ⟨A5, c5, rfl, o5, hb6⟩; have cellu2 : w2.cell? ⟨gU, j, none⟩ = some (.slice Av mv cv) := (hb6.cell (p := ⟨gU, j, none⟩) (by show gU < _; have := HBW.out; simp; omega)).trans cellu)
            | ((refine step_spreadV w2 rfl (.tmp 61) (.tmp 65) rfl A5 mp c5 _ _ _ (by rfl) o5 Av mv cv B _ (by rfl) (show RdV w2 B Av mv _ from (show RdV wr.drew B Av mv _ from HRU.out.rd).below hb6 (by have := HBW.out; simp; omega)) (by omega) (by have := hb6.size; simpa using this) hmv0 ?_); intro A6 c6 w6 o6 hm6; have hz6 := hb6.size; have hz6' := hm6.size; have ho6 := (((show Own H3.v wr.drew _ _ _ _ hs from HQ2.out).below hb6 (Nat.le_refl _)).only hm6 (.inl (by simp))).mono (Nat.le_refl _) (show wr.heap.size ≤ w6.heap.size by simp at hz6; omega))
            | ((refine step_push3 w6 rfl (.tmp 56) (.tmp 67) 132 rfl 106 iS _ 24 Try.underlying132 hiS hzS hsS hbS rfl A4 j c4 _ _ _ (by rfl) ho6 (⟨A6, mp + mv, c6⟩ : H3) (by rfl) rfl (by omega) (by omega) (by simp at hz6; omega) ?_); intro A7 c7 w7 o7 hm7 hk7))
          all_goals
            have hz7 := hm7.size
            simp at hz6
            have hb6' : Below wr.heap.size wr w2 := ((Below.refl _ wr).drew).trans hb6
            have HQ4 : Hid (∀ (j' : Nat) (p : H3), hs[j']? = some p → OwnV w2 w0.heap.size wr.heap.size p.v (S k j')) := Lib.hid fun j' p hp => (HQ3.out j' p hp).below hb6' (Nat.le_refl _)
            have hb8 : Below w0.heap.size w0 w6 := (hb5.trans (hb6'.mono hz5)).trans (hm6.below (by simpa using hz5) (by omega))
            have HB9 := Lib.hid (hb8.trans (hm7.below (Nat.le_refl _) (by omega)))
            have h3 : ∀ (j' : Nat) (p : H3), hs[j']? = some p → OwnV w6 w0.heap.size w6.heap.size p.v (S k j') := fun j' p hp => ((HQ4.out j' p hp).only hm6 (.inl (by simp))).mono (Nat.le_refl _) (by omega)
            have HPU := Lib.hid (RowF.push ho6 h3 (o6.mono (by simpa using hz5) (Nat.le_refl _)) (HST.out j) hk7 (Nat.le_refl _) (Nat.le_refl _) hz7 o7)
            clear o5 o6 o7 ho6 hb6 hb6' hm6 hm7 hk7 h3 hb8
            go_wp2_with fail
            go_roundw
            case rel => exact ⟨j + 1, by omega, by go_num, ⟨_, _, rfl, HPU.out⟩, HB9.out⟩
            case measure => simp [intOf]; omega
        · obtain rfl : j = mt := by omega
          obtain ⟨hs, q1, q2, q3⟩ := HGr.out.below hb5 (Nat.le_refl _)
          have HQ := Lib.hid (And.intro q1 q3)
          clear q1 q3
          go_wp2_with (at_builtin; refine wp_push4 _ rfl _ _ 129 rfl 132 iG _ 24 Try.underlying129 hiG hzG hsG hbG rfl A3 k c3 _ _ _ rfl q2 ⟨A4, j, c4⟩ _ rfl rfl rfl (by omega) (by omega) (by omega) ?_; intro A6 c6 w6 ho6 hm6 hk6)
          go_roundw
          case rel =>
            refine ⟨k + 1, by omega, by go_num, ⟨_, _, rfl, ?_⟩, ?_⟩
            · exact GridF.push q2 (fun j' p hp => (HQ.out.2 j' p hp).mono (Nat.le_refl _) hz5) (hrr.mono hsz (Nat.le_refl _)) hk6 (Nat.le_refl _) (Nat.le_refl _) hm6.size ho6
            · exact HB.out.trans ((hb5.mono hsz).trans (hm6.below (Nat.le_refl _) (by omega)))
          case measure => simp [intOf]; omega
    · obtain rfl : k = H := by omega
      go_wp2
      go_ret
      exact ⟨_, _, rfl, hg, hb⟩
end Go.Proofs.Ytfiefjbipjalpaa
