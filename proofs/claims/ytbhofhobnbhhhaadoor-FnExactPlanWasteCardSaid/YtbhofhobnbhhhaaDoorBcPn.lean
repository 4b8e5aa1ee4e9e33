/- Contract of the model's best plan. -/
import Derived.Test.YtbhofhobnbhhhaaDoorBcBp
import Derived.Test.YtbhofhobnbhhhaaDoorBcBv
import Derived.Test.YtbhofhobnbhhhaaDoorStr
import Derived.Deep.RegionHeld3
namespace Go.Proofs.YtbhofhobnbhhhaaDoor
open Go.RowKit
set_option linter.unusedVariables false

/-- The table of the best values reads so. -/
def TabR (w : World) (B : Nat) (tA : Option Addr) (W0 H0 : Nat) (l : List Kd) : Prop :=
  ∀ j k, j ≤ W0 → k ≤ H0 → ∃ b o c1 b1 o1, tA = some ⟨b, o, none⟩ ∧ b < B ∧ b1 < B ∧ w.cell? ⟨b, o + j, none⟩ = some (.slice (some ⟨b1, o1, none⟩) (H0 + 1) c1) ∧ w.cell? ⟨b1, o1 + k, none⟩ = some (.int .i64 (Bc.V l j k))
theorem TabR.keep {w w' : World} {B W0 H0 : Nat} {tA : Option Addr} {l : List Kd} (h : TabR w B tA W0 H0 l) (hk : ∀ p : Addr, p.block < B → w'.cell? p = w.cell? p) : TabR w' B tA W0 H0 l := by
  intro j k hj hk'
  obtain ⟨b, o, c1, b1, o1, e, h1, h2, h3, h4⟩ := h j k hj hk'
  exact ⟨b, o, c1, b1, o1, e, h1, h2, (hk _ h1).trans h3, (hk _ h2).trans h4⟩
theorem TabR.below {w w' : World} {B B' W0 H0 : Nat} {tA : Option Addr} {l : List Kd} (h : TabR w B tA W0 H0 l) (hb : Below B' w w') (hB : B ≤ B') : TabR w' B tA W0 H0 l := h.keep fun _ hp => hb.cell (by omega)
theorem TabR.q {w w' : World} {B W0 H0 : Nat} {tA : Option Addr} {l : List Kd} (h : TabR w B tA W0 H0 l) (hq : Q w w') : TabR w' B tA W0 H0 l := by
  obtain ⟨m, rfl⟩ := hq
  exact h.keep fun _ _ => rfl
theorem sz_drewP {w w' : World} {B k : Nat} (h : Below B (w.drewN k) w') : w.heap.size ≤ w'.heap.size := h.size
/-- A string and what it says. -/
def StrP (P : List UInt8 → Prop) (w : World) (e : Ending) (w' : World) : Prop := ∃ s : ByteArray, e = .returned (.string s) ∧ P s.data.toList ∧ Below w.heap.size w w'
theorem StrP.mk_ {P : List UInt8 → Prop} {w w' : World} {s : ByteArray} (h : P s.data.toList) (hb : Below w.heap.size w w') : StrP P w (.returned (.string s)) w' := ⟨s, rfl, h, hb⟩
theorem cut_bytes (c : UInt8) (x : Nat) (a b : ByteArray) : ((⟨#[c]⟩ : ByteArray) ++ dec x ++ ⟨#[40]⟩ ++ a ++ ⟨#[41, 40]⟩ ++ b ++ ⟨#[41]⟩).data.toList = Bc.cutL c x a.data.toList b.data.toList := by
  have e : (dec x).data.toList = Lib.decDigits x := rfl
  unfold Bc.cutL
  simp [e]
theorem slice_abc (k : Nat) (hk : k < 6) (W : World) : (Instr.slice 9 (.string ⟨#[97, 98, 99, 100, 101, 102]⟩) (some (.int .i64 (k : Int))) (some (.int .i64 ((k : Int) + 1))) none).run Tryd.prog W = .ok (.string ⟨#[Bc.ltr k]⟩) W := by
  have hs : (⟨#[97, 98, 99, 100, 101, 102]⟩ : ByteArray).size = 6 := rfl
  rw [run_slice_string_if W _ _ _ _ _ _ Tryd.underlying9, if_pos ⟨by omega, by omega⟩, if_pos ⟨by omega, by omega⟩]
  have h9 : ∀ k : Fin 6, (⟨#[97, 98, 99, 100, 101, 102]⟩ : ByteArray).extract k.val (k.val + 1) = ⟨#[Bc.ltr k.val]⟩ := by decide
  have h := h9 ⟨k, hk⟩
  have e1 : ((k : Int)).toNat = k := by omega
  have e2 : ((k : Int) + 1).toNat = k + 1 := by omega
  rw [e1, e2]
  exact congrArg (fun s => Result.ok (Value.string s) W) h
set_option maxRecDepth 100000 in
set_option maxHeartbeats 8000000 in
theorem specPn_any (W0 H0 : Nat) (tA : Option Addr) (tc : Nat) (A : Option Addr) (n c B : Nat) (l : List Kd) (hok : Bc.okL l = true) (hW : W0 ≤ 40) (hH : H0 ≤ 40) : ∀ (f x h : Nat) (w : World), x + h ≤ f → 1 ≤ x → x ≤ W0 → 1 ≤ h → h ≤ H0 → RdS Kd.S w B A n l → B ≤ w.heap.size → TabR w B tA W0 H0 l →
    Calls Tryd.prog 53 #[.slice tA (W0 + 1) tc, .int .i64 x, .int .i64 h, .slice A n c] w fun e w' => StrP (Bc.BP l x h) w e w' := by
  intro f
  induction f with
  | zero => intro x h w h1 h2; omega
  | succ f ih =>
    intro x h w hf hx1 hx2 hh1 hh2 hr hB ht
    have IH := Lib.hid ih
    have HOK := Lib.hid (Bc.okL_iff.1 hok)
    have HL := Lib.hid hr.1
    have hn6 : n ≤ 6 := by have := (HOK.out).2; have := HL.out; omega
    have HT := Lib.hid ht
    obtain ⟨b, o, cr, b1, o1, rfl, _, _, cw, cv⟩ := ht x h hx2 hh2
    have HVB := Lib.hid (Bc.V_le HOK.out.1 (W := x) (H := h) (by omega) (by omega))
    obtain ⟨v, hv⟩ : ∃ v, Bc.V l x h = v := ⟨_, rfl⟩
    have HV := Lib.hid hv
    rw [hv] at cv
    have x1 : (x : Int) < (W0 : Int) + 1 := by omega
    have x2 : (h : Int) < (H0 : Int) + 1 := by omega
    clear ih hv ht
    by_cases hv0 : v = 0
    · have HP : Hid (Bc.BP l x h (⟨#[46]⟩ : ByteArray).data.toList) := Lib.hid (Bc.BP.dot x h (by rw [HV.out, hv0]))
      subst hv0
      go_enter Tryd.func53, Tryd.ntmps53
      go_wp2_with fail
      go_ret
      exact StrP.mk_ HP.out (Below.refl _ _)
    have HV0 : Hid (Bc.V l x h ≠ 0) := Lib.hid (by rw [HV.out]; exact hv0)
    have hvB : (v == 0) = false := by simpa using hv0
    go_enter Tryd.func53, Tryd.ntmps53
    go_wp2_with fail
    go_loop [10] (fun i => ∃ k : Nat, k ≤ n ∧ i = .int .i64 k ∧ Hid (∀ j, j < k → ¬ Bc.hitK l x h j)) (fun i => n - (intOf i).toNat)
    case atStart => exact ⟨0, Nat.zero_le _, rfl, Lib.hid fun j hj => by omega⟩
    case round =>
      obtain ⟨k, hk, rfl, HN⟩ := hrel
      by_cases hlt : k < n
      · have hltI : (k : Int) < (n : Int) := by omega
        obtain ⟨b2, o2, y, rfl, hbB, hy, y0, y1, y2⟩ := hr.at_Kd hlt
        have HY := Lib.hid hy
        clear hy
        have HNN : Hid (¬ (y.w ≤ (x : Int) ∧ y.h ≤ (h : Int) ∧ y.v = v) → ∀ j, j < k + 1 → ¬ Bc.hitK l x h j) := Lib.hid fun hno j hj => by
          rcases Nat.lt_or_ge j k with h1 | h1
          · exact HN.out j h1
          · obtain rfl : j = k := by omega
            rintro ⟨z, hz, hz1, hz2, hz3⟩
            rw [HY.out] at hz
            cases hz
            exact hno ⟨hz1, hz2, by rw [hz3, HV.out]⟩
        by_cases hw : y.w ≤ (x : Int)
        · by_cases hh : y.h ≤ (h : Int)
          · by_cases hyv : y.v = v
            · have HP : Hid (Bc.BP l x h (⟨#[Bc.ltr k]⟩ : ByteArray).data.toList) := Lib.hid (Bc.BP.one x h k HV0.out ⟨y, HY.out, hw, hh, by rw [hyv, HV.out]⟩ HN.out)
              have hsl := slice_abc k (by omega)
              have e1 : IntKind.i64.wrap ((k : Int) + 1) = (k : Int) + 1 := IntWalk.i64_in _ (by omega)
              rw [hyv] at y2
              go_wp2_with fail
              go_ret
              exact StrP.mk_ HP.out (Below.refl _ _)
            · have hyB : (y.v == v) = false := by simpa using hyv
              have HN2 := Lib.hid (HNN.out fun h => hyv h.2.2)
              go_wp2_with fail
              go_round
              case rel => exact ⟨k + 1, by omega, by go_num, HN2⟩
              case measure => simp [intOf]; omega
          · have hh' : (h : Int) < y.h := by omega
            have HN2 := Lib.hid (HNN.out fun h => hh h.2.1)
            go_wp2_with fail
            go_round
            case rel => exact ⟨k + 1, by omega, by go_num, HN2⟩
            case measure => simp [intOf]; omega
        · have hw' : (x : Int) < y.w := by omega
          have HN2 := Lib.hid (HNN.out fun h => hw h.1)
          go_wp2_with fail
          go_round
          case rel => exact ⟨k + 1, by omega, by go_num, HN2⟩
          case measure => simp [intOf]; omega
      · obtain rfl : k = n := by omega
        have HNA : Hid (∀ j, ¬ Bc.hitK l x h j) := Lib.hid fun j hj => by
          have h1 := (List.getElem?_eq_some_iff.1 hj.choose_spec.1).1
          rw [HL.out] at h1
          exact HN.out j h1 hj
        clear HN hlt hk
        go_wp2_with fail
        go_loopw [11] (fun i wr => ∃ k : Nat, (1 ≤ k ∧ k ≤ x) ∧ i = .int .i64 k ∧ Hid (∀ j, 1 ≤ j → j < k → ¬ Bc.hitX l x h j) ∧ Q w wr) (fun i _ => x - (intOf i).toNat)
        case atStart => exact ⟨1, by omega, rfl, Lib.hid fun j h1 h2 => by omega, Q.refl _⟩
        case round =>
          obtain ⟨k, hk, rfl, HX, hqq⟩ := hrel
          have HZQ : Hid (wr.heap.size = w.heap.size) := Lib.hid hqq.size
          by_cases hlt : k < x
          · have hltI : (k : Int) < (x : Int) := by omega
            obtain ⟨m, hm⟩ : ∃ m : Nat, m + k = x := ⟨x - k, by omega⟩
            have em : IntKind.i64.wrap ((x : Int) - (k : Int)) = (m : Int) := by rw [show (m : Int) = (x : Int) - (k : Int) from by omega]; exact IntWalk.i64_in _ (by omega)
            have htq := HT.out.q hqq
            obtain ⟨b3, o3, c3, b4, o4, e3, _, _, cr3, cv3⟩ := htq k h (by omega) hh2
            obtain ⟨b5, o5, c5, b6, o6, e5, _, _, cr5, cv5⟩ := htq m h (by omega) hh2
            injection e3 with e3
            injection e3 with e3 e3' _
            subst e3 e3'
            injection e5 with e5
            injection e5 with e5 e5' _
            subst e5 e5'
            have bv1 := Bc.V_le HOK.out.1 (W := k) (H := h) (by omega) (by omega)
            have bv2 := Bc.V_le HOK.out.1 (W := m) (H := h) (by omega) (by omega)
            obtain ⟨v1, hv1⟩ : ∃ v, Bc.V l k h = v := ⟨_, rfl⟩
            obtain ⟨v2, hv2⟩ : ∃ v, Bc.V l m h = v := ⟨_, rfl⟩
            rw [hv1] at bv1 cv3
            rw [hv2] at bv2 cv5
            have ez : IntKind.i64.wrap (v1 + v2) = v1 + v2 := IntWalk.i64_in _ (by omega)
            have HIT : Hid (Bc.hitX l x h k ↔ v1 + v2 = v) := Lib.hid (by unfold Bc.hitX; rw [show x - k = m from by omega, hv1, hv2, HV.out])
            have y1 : (k : Int) < (W0 : Int) + 1 := by omega
            have y2 : (m : Int) < (W0 : Int) + 1 := by omega
            clear hv1 hv2 bv1 bv2
            by_cases hit : v1 + v2 = v
            · have sD := dec_size 2 k (by omega) (by omega)
              obtain ⟨D, hD⟩ : ∃ D, dec k = D := ⟨_, rfl⟩
              have hdc := fun W => l01Dec_any 18 k W (by omega) (by omega) (by omega)
              rw [hD] at hdc sD
              have HD := Lib.hid hD
              have HIT2 := Lib.hid (HIT.out.2 hit)
              have ez2 : IntKind.i64.wrap (v1 + v2) = v := ez.trans hit
              clear hD hit ez
              go_wp2_with fail
              go_quiet (fail)
              go_wp2_with fail
              refine (hdc _).mono ?_
              rintro e w3 ⟨rfl, hb3⟩
              have z3 : w.heap.size ≤ w3.heap.size := by have h_ := sz_drewP hb3; rw [HZQ.out] at h_; exact h_
              have HB3 : Hid (Below w.heap.size w w3) := Lib.hid ((hqq.more _).below _ |>.trans (hb3.mono (by show w.heap.size ≤ wr.heap.size; rw [HZQ.out]; exact Nat.le_refl _)))
              clear hb3
              have hc1 := IH.out k h w3 (by omega) (by omega) (by omega) (by omega) (by omega) (hr.below HB3.out hB) (by omega) (HT.out.below HB3.out hB)
              go_wp2_with fail
              refine hc1.mono ?_
              rintro e w4 ⟨sa, rfl, HPA, hb4⟩
              have z4 : w.heap.size ≤ w4.heap.size := Nat.le_trans z3 hb4.size
              have HB4 : Hid (Below w.heap.size w w4) := Lib.hid (HB3.out.trans (hb4.mono z3))
              have sA : sa.size ≤ 12800 := HPA.small (by omega) (by omega) (by omega) (by omega)
              have HPA2 := Lib.hid HPA
              clear hb4 HPA hc1
              have hc2 := IH.out m h w4 (by omega) (by omega) (by omega) (by omega) (by omega) (hr.below HB4.out hB) (by omega) (HT.out.below HB4.out hB)
              go_wp2_with fail
              refine hc2.mono ?_
              rintro e w5 ⟨sb, rfl, HPB, hb5⟩
              have HB5 : Hid (Below w.heap.size w w5) := Lib.hid (HB4.out.trans (hb5.mono z4))
              have sB : sb.size ≤ 12800 := HPB.small (by omega) (by omega) (by omega) (by omega)
              have HP : Hid (Bc.BP l x h ((⟨#[124]⟩ : ByteArray) ++ D ++ ⟨#[40]⟩ ++ sa ++ ⟨#[41, 40]⟩ ++ sb ++ ⟨#[41]⟩).data.toList) := Lib.hid (by
                rw [← HD.out, cut_bytes]
                exact Bc.BP.ver x h k _ _ HV0.out HNA.out hk.1 hlt HIT2.out HX.out HPA2.out (by rw [show x - k = m from by omega]; exact HPB))
              clear hb5 HPB hc2
              go_wp2_with fail
              go_ret
              exact StrP.mk_ HP.out HB5.out
            · have hitB : (v1 + v2 == v) = false := by simpa using hit
              have HX2 : Hid (∀ j, 1 ≤ j → j < k + 1 → ¬ Bc.hitX l x h j) := Lib.hid fun j h1 h2 => by
                rcases Nat.lt_or_ge j k with h3 | h3
                · exact HX.out j h1 h3
                · obtain rfl : j = k := by omega
                  exact fun hx => hit (HIT.out.1 hx)
              go_wp2_with fail
              go_quiet (fail)
              go_wp2_with fail
              go_roundw
              case rel => exact ⟨k + 1, by omega, by go_num, HX2, hqq.more _⟩
              case measure => simp [intOf]; omega
          · obtain rfl : k = x := by omega
            have HXA := Lib.hid HX.out
            clear HX hlt hk
            have hqq1 := hqq
            obtain ⟨w1, rfl⟩ : ∃ w1, w1 = wr := ⟨_, rfl⟩
            go_wp2_with fail
            go_loopw [12] (fun i wr => ∃ j : Nat, (1 ≤ j ∧ j ≤ h) ∧ i = .int .i64 j ∧ Hid (∀ t, 1 ≤ t → t < j → ¬ Bc.hitY l k h t) ∧ Q w wr) (fun i _ => h - (intOf i).toNat)
            case atStart => exact ⟨1, by omega, rfl, Lib.hid fun j h1 h2 => by omega, hqq1⟩
            case round =>
              obtain ⟨j, hj, rfl, HY, hqq⟩ := hrel
              have hlt : j < h := by
                rcases Bc.V_from HV0.out with ⟨a, ha⟩ | ⟨a, h1, h2, ha⟩ | ⟨a, h1, h2, ha⟩
                · exact absurd ha (HNA.out a)
                · exact absurd ha (HXA.out a h1 h2)
                · rcases Nat.lt_or_ge a j with h3 | h3
                  · exact absurd ha (HY.out a h1 h3)
                  · omega
              have HZQ : Hid (wr.heap.size = w.heap.size) := Lib.hid hqq.size
              obtain ⟨m, hm⟩ : ∃ m : Nat, m + j = h := ⟨h - j, by omega⟩
              have em : IntKind.i64.wrap ((h : Int) - (j : Int)) = (m : Int) := by rw [show (m : Int) = (h : Int) - (j : Int) from by omega]; exact IntWalk.i64_in _ (by omega)
              have htq := HT.out.q hqq
              obtain ⟨b3, o3, c3, b4, o4, e3, _, _, cr3, cv3⟩ := htq k j hx2 (by omega)
              obtain ⟨b5, o5, c5, b6, o6, e5, _, _, cr5, cv5⟩ := htq k m hx2 (by omega)
              injection e3 with e3
              injection e3 with e3 e3' _
              subst e3 e3'
              injection e5 with e5
              injection e5 with e5 e5' _
              subst e5 e5'
              have ee := cr3.symm.trans cr5
              injection ee with ee
              injection ee with ee _ ec
              injection ee with ee
              injection ee with ee ee' _
              subst ee ee' ec
              have bv1 := Bc.V_le HOK.out.1 (W := k) (H := j) (by omega) (by omega)
              have bv2 := Bc.V_le HOK.out.1 (W := k) (H := m) (by omega) (by omega)
              obtain ⟨v1, hv1⟩ : ∃ v, Bc.V l k j = v := ⟨_, rfl⟩
              obtain ⟨v2, hv2⟩ : ∃ v, Bc.V l k m = v := ⟨_, rfl⟩
              rw [hv1] at bv1 cv3
              rw [hv2] at bv2 cv5
              have ez : IntKind.i64.wrap (v1 + v2) = v1 + v2 := IntWalk.i64_in _ (by omega)
              have HIT : Hid (Bc.hitY l k h j ↔ v1 + v2 = v) := Lib.hid (by unfold Bc.hitY; rw [show h - j = m from by omega, hv1, hv2, HV.out])
              have y1 : (j : Int) < (H0 : Int) + 1 := by omega
              have y2 : (m : Int) < (H0 : Int) + 1 := by omega
              clear hv1 hv2 bv1 bv2 cr5
              by_cases hit : v1 + v2 = v
              · have sD := dec_size 2 j (by omega) (by omega)
                obtain ⟨D, hD⟩ : ∃ D, dec j = D := ⟨_, rfl⟩
                have hdc := fun W => l01Dec_any 18 j W (by omega) (by omega) (by omega)
                rw [hD] at hdc sD
                have HD := Lib.hid hD
                have HIT2 := Lib.hid (HIT.out.2 hit)
                have ez2 : IntKind.i64.wrap (v1 + v2) = v := ez.trans hit
                clear hD hit ez
                go_wp2_with fail
                go_quiet (fail)
                go_wp2_with fail
                refine (hdc _).mono ?_
                rintro e w3 ⟨rfl, hb3⟩
                have z3 : w.heap.size ≤ w3.heap.size := by have h_ := sz_drewP hb3; rw [HZQ.out] at h_; exact h_
                have HB3 : Hid (Below w.heap.size w w3) := Lib.hid ((hqq.more _).below _ |>.trans (hb3.mono (by show w.heap.size ≤ wr.heap.size; rw [HZQ.out]; exact Nat.le_refl _)))
                clear hb3
                have hc1 := IH.out k j w3 (by omega) (by omega) (by omega) (by omega) (by omega) (hr.below HB3.out hB) (by omega) (HT.out.below HB3.out hB)
                go_wp2_with fail
                refine hc1.mono ?_
                rintro e w4 ⟨sa, rfl, HPA, hb4⟩
                have z4 : w.heap.size ≤ w4.heap.size := Nat.le_trans z3 hb4.size
                have HB4 : Hid (Below w.heap.size w w4) := Lib.hid (HB3.out.trans (hb4.mono z3))
                have sA : sa.size ≤ 12800 := HPA.small (by omega) (by omega) (by omega) (by omega)
                have HPA2 := Lib.hid HPA
                clear hb4 HPA hc1
                have hc2 := IH.out k m w4 (by omega) (by omega) (by omega) (by omega) (by omega) (hr.below HB4.out hB) (by omega) (HT.out.below HB4.out hB)
                go_wp2_with fail
                refine hc2.mono ?_
                rintro e w5 ⟨sb, rfl, HPB, hb5⟩
                have HB5 : Hid (Below w.heap.size w w5) := Lib.hid (HB4.out.trans (hb5.mono z4))
                have sB : sb.size ≤ 12800 := HPB.small (by omega) (by omega) (by omega) (by omega)
                have HP : Hid (Bc.BP l k h ((⟨#[45]⟩ : ByteArray) ++ D ++ ⟨#[40]⟩ ++ sa ++ ⟨#[41, 40]⟩ ++ sb ++ ⟨#[41]⟩).data.toList) := Lib.hid (by
                  rw [← HD.out, cut_bytes]
                  exact Bc.BP.hor k h j _ _ HV0.out HNA.out HXA.out hj.1 hlt HIT2.out HY.out HPA2.out (by rw [show h - j = m from by omega]; exact HPB))
                clear hb5 HPB hc2
                go_wp2_with fail
                go_ret
                exact StrP.mk_ HP.out HB5.out
              · have hitB : (v1 + v2 == v) = false := by simpa using hit
                have HY2 : Hid (∀ t, 1 ≤ t → t < j + 1 → ¬ Bc.hitY l k h t) := Lib.hid fun t h1 h2 => by
                  rcases Nat.lt_or_ge t j with h3 | h3
                  · exact HY.out t h1 h3
                  · obtain rfl : t = j := by omega
                    exact fun hx => hit (HIT.out.1 hx)
                go_wp2_with fail
                go_quiet (fail)
                go_wp2_with fail
                go_roundw
                case rel => exact ⟨j + 1, by omega, by go_num, HY2, hqq.more _⟩
                case measure => simp [intOf]; omega
end Go.Proofs.YtbhofhobnbhhhaaDoor
