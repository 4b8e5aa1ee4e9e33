/- Contracts of the model's runs, overs, ups for a run, least run and best ups. -/
import Derived.Test.YtilfmnffdloneaaGaIm
import Derived.Test.YtilfmnffdloneaaSgDo
import Derived.Deep.RegionLaw
namespace Go.Proofs.Ytilfmnffdloneaa
open Go.RowKit
set_option linter.unusedVariables false

namespace Ga
def rfC (sl : Int) (q u : List Int) : Int := code sl q (okU sl q u)
def rfR (sl : Int) (q u : List Int) : Int := if rfC sl q u = 0 then run q u else 0
def ovR (sl : Int) (q u : List Int) : List Int := if rfC sl q u = 0 then overs (run q u) q u else []
def ufC (sl : Int) (q : List Int) (r : Int) : Int := if okG sl q then (if 1 ≤ r ∧ r ≤ 1000000 then (if tot (forR q r) ≤ sl then 0 else 4) else 2) else 1
def ufR (sl : Int) (q : List Int) (r : Int) : List Int := if ufC sl q r = 0 then forR q r else []
def lrC (sl : Int) (q : List Int) : Int := code sl q true
def lrR (sl : Int) (q : List Int) : Int := if okG sl q then least sl q else 0
def buR (sl : Int) (q : List Int) : List Int := if okG sl q then forR q (least sl q) else []
theorem rf_ok {sl : Int} {q u : List Int} (h : rfC sl q u = 0) : okG sl q = true ∧ okU sl q u = true := by
  unfold rfC code at h
  cases e1 : okG sl q <;> cases e2 : okU sl q u <;> simp [e1, e2] at h ⊢
theorem code_32 {sl : Int} {q u : List Int} {b : Bool} (h : sl ≤ 32 → okU sl q u = b) : code sl q b = rfC sl q u := by
  unfold rfC code
  cases e : okG sl q
  · rfl
  · have := (okG_iff.1 e).1
    rw [h this.2]
end Ga
set_option maxRecDepth 100000 in
set_option maxHeartbeats 4000000 in
theorem specGaR_any (A1 A2 : Option Addr) (n c1 B1 c2 B2 : Nat) (q u : List Int) (R : Int) (w : World) (h1 : Rd I w B1 A1 n q) (h2 : Rd I w B2 A2 n u) (hn : n ≤ 6) (hq : ∀ x ∈ q, 1 ≤ x ∧ x ≤ 1000000) (hu : ∀ x ∈ u, 1 ≤ x ∧ x ≤ 32) (hR : Ga.run q u = R) :
    Calls Try.prog 52 #[.slice A1 n c1, .slice A2 n c2] w fun e w' => e = .returned (.int .i64 R) ∧ Q w w' := by
  have HL1 : Hid (q.length = n) := Lib.hid h1.1
  have HL2 : Hid (u.length = n) := Lib.hid h2.1
  have HQ := Lib.hid hq
  have HU := Lib.hid hu
  have HR := Lib.hid hR
  clear hq hu hR
  go_enter Try.func52, Try.ntmps52
  go_wp2_with fail
  go_loopw [5, 6] (fun v i wr => ∃ (k : Nat) (t : Int), k ≤ n ∧ i = .int .i64 k ∧ v = .int .i64 t ∧ Hid (Ga.run (q.take k) (u.take k) = t) ∧ Q w wr) (fun _ i _ => n - (intOf i).toNat)
  case atStart => exact ⟨0, 0, Nat.zero_le _, rfl, rfl, Lib.hid (by simp [Ga.run]), Q.refl _⟩
  case round =>
    obtain ⟨k, t, hk, rfl, rfl, HT, hqq⟩ := hrel
    by_cases hlt : k < n
    · have hltI : (k : Int) < (n : Int) := by omega
      obtain ⟨b1, o1, a, rfl, hb1, ha, ca⟩ := (h1.q hqq).at_ hlt
      obtain ⟨b2, o2, b, rfl, hb2, hb, cb⟩ := (h2.q hqq).at_ hlt
      have ha1 := HQ.out a (List.mem_of_getElem? ha)
      have hb1' := HU.out b (List.mem_of_getElem? hb)
      obtain ⟨z, hz⟩ : ∃ z, Ga.ceil a b = z := ⟨_, rfl⟩
      have hce := fun W => l01Ceil_any a b z W (by omega) (by omega) (by omega) (by omega) hz
      have HN : Hid (Ga.run (q.take (k + 1)) (u.take (k + 1)) = max t z) := Lib.hid (by
        rw [take_nextGa q k a ha, take_nextGa u k b hb, Ga.run_snoc a b (by rw [List.length_take, List.length_take, HL1.out, HL2.out]), HT.out, hz])
      clear ha hb ha1 hb1' hz
      rcases Int.lt_trichotomy t z with hlu | hlu | hlu
      · have HE : Hid (max t z = z) := Lib.hid (by omega)
        have g1 : ¬ z < t := by omega
        have g2 : ¬ z ≤ t := by omega
        have g3 : t ≤ z := by omega
        go_wp2_with fail
        go_quiet (first | (go_at_call 64; with_reducible exact quiet_same (hce _)))
        go_wp2_with fail
        go_roundw
        case rel => exact ⟨k + 1, z, by omega, by go_num, rfl, Lib.hid (by rw [HN.out, HE.out]), hqq.more _⟩
        case measure => simp [intOf]; omega
      · subst hlu
        have HE : Hid (max t t = t) := Lib.hid (by omega)
        go_wp2_with fail
        go_quiet (first | (go_at_call 64; with_reducible exact quiet_same (hce _)))
        go_wp2_with fail
        go_roundw
        case rel => exact ⟨k + 1, t, by omega, by go_num, rfl, Lib.hid (by rw [HN.out, HE.out]), hqq.more _⟩
        case measure => simp [intOf]; omega
      · have HE : Hid (max t z = t) := Lib.hid (by omega)
        have g1 : ¬ t < z := by omega
        have g2 : ¬ t ≤ z := by omega
        have g3 : z ≤ t := by omega
        go_wp2_with fail
        go_quiet (first | (go_at_call 64; with_reducible exact quiet_same (hce _)))
        go_wp2_with fail
        go_roundw
        case rel => exact ⟨k + 1, t, by omega, by go_num, rfl, Lib.hid (by rw [HN.out, HE.out]), hqq.more _⟩
        case measure => simp [intOf]; omega
    · obtain rfl : k = n := by omega
      have HE : Hid (t = R) := Lib.hid (by
        have h3 := HT.out
        rw [List.take_of_length_le (by rw [HL1.out]; exact Nat.le_refl _), List.take_of_length_le (by rw [HL2.out]; exact Nat.le_refl _)] at h3
        rw [← h3, HR.out])
      go_wp2_with fail
      go_ret
      exact ⟨by rw [HE.out]; rfl, hqq⟩
set_option maxRecDepth 100000 in
set_option maxHeartbeats 4000000 in
theorem specGaF_any (A1 : Option Addr) (n c1 B1 : Nat) (q : List Int) (r : Int) (w : World) (h1 : Rd I w B1 A1 n q) (hB1 : B1 ≤ w.heap.size) (hn : n ≤ 6) (hq : ∀ x ∈ q, 1 ≤ x ∧ x ≤ 1000000) (hr : 1 ≤ r ∧ r ≤ 1000000) :
    Calls Try.prog 43 #[.slice A1 n c1, .int .i64 r] w fun e w' => ∃ A c, e = .returned (.slice A n c) ∧ Own I w' w.heap.size w'.heap.size 2 (.slice A n c) (Ga.forR q r) ∧ Below w.heap.size w w' := by
  obtain ⟨i0, hi0, hz0, hz1, hz2⟩ := info_parts infoI
  have HL1 : Hid (q.length = n) := Lib.hid h1.1
  have HQ := Lib.hid hq
  have ho0 : Own I (w.alloc (.cells #[] 2)) w.heap.size (w.heap.size + 1) 2 (.slice (some ⟨w.heap.size, 0, none⟩) 0 0) ([] : List Int) := Own.lit0 I w 2
  have hb0 : Below w.heap.size w (w.alloc (.cells #[] 2)) := (Below.refl _ _).alloc (Nat.le_refl _) _
  have hz : (w.alloc (.cells #[] 2)).heap.size = w.heap.size + 1 := by simp
  clear hq
  go_enter Try.func43, Try.ntmps43
  go_wp2_with fail
  go_loopw [5, 6] (fun v i wr => ∃ (k : Nat) (A : Option Addr) (c : Nat), k ≤ n ∧ i = .int .i64 k ∧ v = .slice A k c ∧ Own I wr w.heap.size wr.heap.size 2 (.slice A k c) (Ga.forR (q.take k) r) ∧ Below w.heap.size w wr) (fun _ i _ => n - (intOf i).toNat)
  case atStart => exact ⟨0, _, _, Nat.zero_le _, rfl, rfl, by simpa [Ga.forR] using ho0.mono (Nat.le_refl _) (show w.heap.size + 1 ≤ (w.alloc (.cells #[] 2)).heap.size by omega), hb0⟩
  case round =>
    clear ho0 hb0 hz
    obtain ⟨k, A, c, hk, rfl, rfl, ho, hb⟩ := hrel
    have hzb := hb.size
    by_cases hlt : k < n
    · obtain ⟨b1, o1, a, rfl, hb1, ha, ca⟩ := (h1.below hb hB1).at_ hlt
      have ha1 := HQ.out a (List.mem_of_getElem? ha)
      obtain ⟨z, hz⟩ : ∃ z, Ga.ceil a r = z := ⟨_, rfl⟩
      have hce := fun W => l01Ceil_any a r z W (by omega) (by omega) (by omega) (by omega) hz
      have HN : Hid (Ga.forR (q.take (k + 1)) r = Ga.forR (q.take k) r ++ [z]) := Lib.hid (by
        unfold Ga.forR
        rw [take_nextGa q k a ha, List.map_append, ← hz]
        rfl)
      clear ha ha1 hz
      go_wp2_with fail
      refine (hce _).mono ?_
      rintro e _ ⟨rfl, rfl⟩
      go_wp2_with (at_builtin; refine wp_push (enc := I) wr rfl _ _ 24 rfl 2 i0 _ 8 Try.underlying24 hi0 hz0 hz1 hz2 rfl A k c _ _ _ rfl ho z rfl rfl (by omega) (by omega) (by omega) ?_; intro A4 c4 w4 ho4 hm4; have HO4 : Hid (Own I w4 w.heap.size w4.heap.size 2 (.slice A4 (k + 1) c4) (Ga.forR (q.take (k + 1)) r)) := Lib.hid (by rw [HN.out]; exact ho4); have HB4 := Lib.hid (hb.trans (hm4.below (Nat.le_refl _) hzb)); clear ho4 hm4)
      go_roundw
      case rel => exact ⟨k + 1, A4, c4, by omega, by go_num, rfl, HO4.out, HB4.out⟩
      case measure => simp [intOf]; omega
    · obtain rfl : k = n := by omega
      have HE : Hid (q.take k = q) := Lib.hid (List.take_of_length_le (by rw [HL1.out]; exact Nat.le_refl _))
      rw [HE.out] at ho
      go_wp2_with fail
      go_ret
      exact ⟨A, c, rfl, ho, hb⟩
theorem Ga.tw_for {q : List Int} {r : Int} (hl : q.length ≤ 6) (hq : ∀ x ∈ q, 1 ≤ x ∧ x ≤ 1000000) (hr : 1 ≤ r) : Ga.tw 0 (Ga.forR q r) = Ga.tot (Ga.forR q r) := by
  have h1 := Ga.forR_bd hq hr
  rw [Ga.tw_is (Int.le_refl 0) (fun x hx => by have := h1 x hx; omega) (by rw [Ga.forR_len]; omega)]
  omega
set_option maxRecDepth 100000 in
set_option maxHeartbeats 4000000 in
theorem specGaL_any (sl : Int) (A1 : Option Addr) (n c1 B1 : Nat) (q : List Int) (L : Int) (w : World) (h1 : Rd I w B1 A1 n q) (hB1 : B1 ≤ w.heap.size) (hn : n ≤ 6) (hq : ∀ x ∈ q, 1 ≤ x ∧ x ≤ 1000000) (hs : (n : Int) ≤ sl) (hL : Ga.least sl q = L) :
    Calls Try.prog 44 #[.int .i64 sl, .slice A1 n c1] w fun e w' => e = .returned (.int .i64 L) ∧ Below w.heap.size w w' := by
  have HL1 : Hid (q.length = n) := Lib.hid h1.1
  have HQ := Lib.hid hq
  have HL := Lib.hid hL
  have hl6 : Hid (q.length ≤ 6) := Lib.hid (by rw [h1.1]; exact hn)
  clear hq hL
  go_enter Try.func44, Try.ntmps44
  go_wp2_with fail
  go_loopw [5, 6, 7] (fun x y _ wr => ∃ lo hi : Int, x = .int .i64 lo ∧ y = .int .i64 hi ∧ 1 ≤ lo ∧ lo ≤ hi ∧ hi ≤ 1000000 ∧ Hid (Ga.tot (Ga.forR q hi) ≤ sl) ∧ Hid (∀ k, 1 ≤ k → k < lo → sl < Ga.tot (Ga.forR q k)) ∧ Below w.heap.size w wr) (fun x y _ _ => (intOf y - intOf x).toNat)
  case atStart => exact ⟨1, 1000000, rfl, rfl, by omega, by omega, by omega, Lib.hid (by rw [Ga.forR_top HQ.out, HL1.out]; exact hs), Lib.hid fun k _ _ => by omega, Below.refl _ _⟩
  case round =>
    obtain ⟨lo, hi, rfl, rfl, hlo, hlh, hhi, HT, HN, hb⟩ := hrel
    have hzb := hb.size
    by_cases hlt : lo < hi
    · obtain ⟨md, hmd⟩ : ∃ md, (lo + hi) / 2 = md := ⟨_, rfl⟩
      have e1 : IntKind.i64.wrap (lo + hi) = lo + hi := IntWalk.i64_in _ (by omega)
      have e2 : (lo + hi).tdiv 2 = md := by rw [Int.tdiv_eq_ediv_of_nonneg (by omega), hmd]
      have hmb : lo ≤ md ∧ md < hi := by omega
      have e3 : IntKind.i64.wrap md = md := IntWalk.i64_in _ (by omega)
      obtain ⟨up, hup⟩ : ∃ up, md + 1 = up := ⟨_, rfl⟩
      have e4 : IntKind.i64.wrap (md + 1) = up := by rw [hup]; exact IntWalk.i64_in _ (by omega)
      have hub : lo < up ∧ up ≤ hi := by omega
      have HUP := Lib.hid hup
      have hfo := specGaF_any A1 n c1 B1 q md wr (h1.below hb hB1) (by omega) hn HQ.out (by omega)
      clear hmd hup
      go_wp2_with fail
      refine hfo.mono ?_
      rintro e w5 ⟨A5, c5, rfl, ho5, hb5⟩
      have HB5 := Lib.hid (hb.trans (hb5.mono hzb))
      obtain ⟨z, hz⟩ : ∃ z, Ga.tot (Ga.forR q md) = z := ⟨_, rfl⟩
      have hsm := gaSum_any A5 n c5 w5.heap.size (Ga.forR q md) z w5 ho5.rd (by omega) (by rw [Ga.tw_for hl6.out HQ.out (by omega), hz])
      have HZ := Lib.hid hz
      clear ho5 hb5 hz hfo
      by_cases hzs : z ≤ sl
      · have HT2 : Hid (Ga.tot (Ga.forR q md) ≤ sl) := Lib.hid (by rw [HZ.out]; exact hzs)
        go_wp2_with fail
        refine hsm.mono ?_
        rintro e _ ⟨rfl, rfl⟩
        go_wp2_with fail
        go_roundw
        case rel => exact ⟨lo, md, rfl, rfl, hlo, by omega, by omega, HT2, HN, HB5.out⟩
        case measure => simp [intOf]; omega
      · have HN2 : Hid (∀ k, 1 ≤ k → k < up → sl < Ga.tot (Ga.forR q k)) := Lib.hid fun k hk1 hk2 => by
          have hup := HUP.out
          have h5 := Ga.forR_mono (q := q) (r := k) (t := md) (fun x hx => (HQ.out x hx).1) hk1 (by omega)
          rw [HZ.out] at h5
          omega
        have hzd : (z ≤ sl) = False := eq_false hzs
        clear hzs
        go_wp2_with fail
        refine hsm.mono ?_
        rintro e _ ⟨rfl, rfl⟩
        go_wp2_with fail
        go_roundw
        case rel => exact ⟨up, hi, rfl, rfl, by omega, by omega, hhi, HT, HN2, HB5.out⟩
        case measure => simp [intOf]; omega
    · obtain rfl : lo = hi := by omega
      have HE : Hid (lo = L) := Lib.hid (by rw [← HL.out]; exact (Ga.least_is HQ.out (by rw [HL1.out]; exact hs) ⟨⟨hlo, hhi⟩, HT.out, HN.out⟩).symm)
      go_wp2_with fail
      go_ret
      exact ⟨by rw [HE.out]; rfl, hb⟩
end Go.Proofs.Ytilfmnffdloneaa
