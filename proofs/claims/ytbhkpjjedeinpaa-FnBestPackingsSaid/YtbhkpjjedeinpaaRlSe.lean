/- Contracts of the model's search, of the best packing and of the least number of rolls. -/
import Derived.Test.YtbhkpjjedeinpaaRlOr
namespace Go.Proofs.Ytbhkpjjedeinpaa
open Go.RowKit
set_option linter.unusedVariables false

namespace Rl
theorem findSome_first {f : Nat → Option (List Int)} {m k : Nat} {R : List Int} (hk : k < m) (h : f k = some R) (hn : ∀ j, j < k → f j = none) : (List.range m).findSome? f = some R := by
  obtain ⟨j, R', h1, h2, h3⟩ := findSome_le hk h
  rcases Nat.lt_or_ge j k with h4 | h4
  · rw [hn j h4] at h2
    cases h2
  · obtain rfl : j = k := by omega
    rw [h] at h2
    injection h2 with h2
    rw [h3, h2]
theorem findSome_none' {f : Nat → Option (List Int)} {m : Nat} (hn : ∀ j, j < m → f j = none) : (List.range m).findSome? f = none := by
  rw [List.findSome?_eq_none_iff]
  intro j hj
  exact hn j (List.mem_range.1 hj)
/-- One branch of the search. -/
def br (r : Int) (s : List Int) (M n : Nat) (p : List Int) (k : Nat) : Option (List Int) := if k < (loads s p).length ∧ r < (loads s p).getD k 0 + s.getD p.length 0 then none else sea r s M n (p ++ [(k : Int)])
theorem sea_br (r : Int) (s : List Int) (M n : Nat) (p : List Int) : sea r s M (n + 1) p = (List.range (min ((loads s p).length + 1) M)).findSome? (br r s M n p) := rfl
end Rl
/-- How the search ends. -/
def SeaE (r : Int) (s : List Int) (M n : Nat) (p : List Int) (lo : Nat) (w : World) (e : Ending) (w' : World) : Prop :=
  ∃ (A : Option Addr) (k c : Nat) (b : Bool) (R : List Int), e = .returned (.tuple #[.slice A k c, .bool b]) ∧ (b = true → Rl.sea r s M n p = some R ∧ Own I w' lo w'.heap.size 2 (.slice A k c) R) ∧ (b = false → Rl.sea r s M n p = none) ∧ Below w.heap.size w w'
theorem SeaE.yes {r : Int} {s : List Int} {M n : Nat} {p R : List Int} {lo : Nat} {w w' : World} {A : Option Addr} {k c : Nat} (h : Rl.sea r s M n p = some R) (ho : Own I w' lo w'.heap.size 2 (.slice A k c) R) (hb : Below w.heap.size w w') : SeaE r s M n p lo w (.returned (.tuple #[.slice A k c, .bool true])) w' :=
  ⟨A, k, c, true, R, rfl, fun _ => ⟨h, ho⟩, (fun h => by cases h), hb⟩
theorem SeaE.no {r : Int} {s : List Int} {M n : Nat} {p : List Int} {lo : Nat} {w w' : World} (h : Rl.sea r s M n p = none) (hb : Below w.heap.size w w') : SeaE r s M n p lo w (.returned (.tuple #[.slice none 0 0, .bool false])) w' :=
  ⟨none, 0, 0, false, [], rfl, (fun h => by cases h), fun _ => h, hb⟩
set_option maxRecDepth 100000 in
set_option maxHeartbeats 16000000 in
theorem specSea_any (r : Int) (A1 : Option Addr) (ns c1 B1 M : Nat) (s : List Int) (hT : Rl.okT r s = true) (hM : M ≤ 100) : ∀ (n : Nat) (p : List Int) (A2 : Option Addr) (m c2 lo hi : Nat) (w : World), Rd I w B1 A1 ns s → B1 ≤ w.heap.size → Own I w lo hi 2 (.slice A2 m c2) p → hi ≤ w.heap.size → lo ≤ w.heap.size → Rl.PreP r s p → p.length + n = s.length →
    Calls Try.prog 68 #[.int .i64 r, .slice A1 ns c1, .slice A2 m c2, .int .i64 M] w fun e w' => SeaE r s M n p lo w e w' := by
  intro n
  induction n with
  | zero =>
    intro p A2 m c2 lo hi w h1 hB1 ho hhi hlo hp hl
    have hm : m = ns := by have := h1.1; have := ho.rd.1; omega
    subst hm
    have HE := Lib.hid (SeaE.yes (r := r) (s := s) (M := M) (n := 0) (p := p) (R := p) (w := w) rfl (ho.mono (Nat.le_refl _) hhi) (Below.refl _ _))
    go_enter Try.func68, Try.ntmps68
    go_wp2_with fail
    go_ret2
    exact HE.out
  | succ n ih =>
    intro p A2 m c2 lo hi w h1 hB1 ho hhi hlo hp hl
    obtain ⟨i0, hi0, hz0, hz1, hz2⟩ := info_parts infoI
    have HL1 := Lib.hid h1.1
    have HL2 := Lib.hid ho.rd.1
    have HOK := Lib.hid (Rl.okT_iff.1 hT)
    have HP := Lib.hid hp
    have HLN := Lib.hid hl
    have hns12 : ns ≤ 12 := by have := HOK.out.2.1; rw [HL1.out] at this; exact this
    have hmn : m < ns := by have h_ := HL1.out; have h2_ := HL2.out; omega
    have hne : ¬ ((m : Int) = (ns : Int)) := by omega
    have hr := HOK.out.1
    have hlo2 := fun W (hW1 : Rd I W B1 A1 ns s) (hW2 : Rd I W hi A2 m p) (hz1 : B1 ≤ W.heap.size) (hz2 : hi ≤ W.heap.size) => specLo_any A1 A2 ns c1 B1 m c2 hi s p W hW1 hW2 hz1 hz2 (by omega) hns12 (fun x hx => by have := HOK.out.2.2 x hx; omega) (Rl.num_all HP.out.num (by rw [HL2.out]; omega))
    clear hp hl hT
    go_enter Try.func68, Try.ntmps68
    go_wp2_with fail
    refine (hlo2 _ h1 ho.rd hB1 hhi).mono ?_
    rintro e w1 ⟨A3, ln, c3, rfl, hld, hb1⟩
    have hz1' := hb1.size
    have HLL := Lib.hid hld.rd.1
    have hln : ln ≤ 1000 := by
      have h_ := HLL.out
      rw [Rl.loads_len s p (by rw [HL1.out, HL2.out]; omega)] at h_
      have := Rl.rolls_le HP.out.num (by omega)
      rw [HL2.out] at this
      omega
    have ho1 := ho.below hb1 hhi
    have h11 := h1.below hb1 hB1
    clear hlo2 ho h1
    go_wp2_with fail
    go_loopw [11] (fun v wr => ∃ k : Nat, k ≤ min (ln + 1) M ∧ v = .int .i64 k ∧ Hid (∀ j, j < k → Rl.br r s M n p j = none) ∧ Below w1.heap.size w1 wr) (fun v _ => min (ln + 1) M - (intOf v).toNat)
    case atStart => exact ⟨0, Nat.zero_le _, rfl, Lib.hid fun j hj => by omega, Below.refl _ _⟩
    case round =>
      obtain ⟨k, hk, rfl, HN, hbr⟩ := hrel
      have hzr := hbr.size
      have hbb := hb1.trans (hbr.mono hz1')
      have h1r := h11.below hbr (by omega)
      have hor := ho1.below hbr (by omega)
      have hldr := hld.below hbr (Nat.le_refl _)
      by_cases hlt : k < min (ln + 1) M
      · have k1 : (k : Int) ≤ (ln : Int) := by omega
        have k2 : (k : Int) < (M : Int) := by omega
        have ek : IntKind.i64.wrap ((k : Int) + 1) = (k : Int) + 1 := IntWalk.i64_in _ (by omega)
        obtain ⟨bs, os, x, rfl, hbs, hx, cx⟩ := h1r.at_ (k := m) hmn
        have HX := Lib.hid hx
        have hx0 := HOK.out.2.2 x (List.mem_of_getElem? hx)
        have EX : Hid (s.getD p.length 0 = x) := Lib.hid (by rw [HL2.out, List.getD_eq_getElem?_getD, hx]; rfl)
        clear hx
        by_cases hkl : k < ln
        · obtain ⟨g, z, rfl, _, _, _, hz, cz, fz⟩ := hldr.at_ (k := k) hkl
          have HZ := Lib.hid hz
          have hz0' : 0 ≤ z ∧ z ≤ r := by
            have e : z = (Rl.loads s p).getD k 0 := by rw [List.getD_eq_getElem?_getD, hz]; rfl
            refine ⟨?_, HP.out.le z (List.mem_of_getElem? hz)⟩
            have h3 := Rl.loads_bd (s := s) (p := p) (fun x hx => by have := HOK.out.2.2 x hx; omega) p.length (Nat.le_refl _) (by rw [HL1.out, HL2.out]; omega) k
            rw [List.take_length, Rl.loads_cut] at h3
            omega
          have EZ : Hid ((Rl.loads s p).getD k 0 = z) := Lib.hid (by rw [List.getD_eq_getElem?_getD, hz]; rfl)
          have ea : IntKind.i64.wrap (z + x) = z + x := IntWalk.i64_in _ (by omega)
          have kI : (k : Int) < (ln : Int) := by omega
          clear hz hz0'
          by_cases hfit : r < z + x
          · have HNO : Hid (Rl.br r s M n p k = none) := Lib.hid (by unfold Rl.br; rw [if_pos ⟨by rw [HLL.out]; exact hkl, by rw [EZ.out, EX.out]; exact hfit⟩])
            go_wp2_with fail
            go_quiet (fail)
            go_wp2_with fail
            go_roundw
            case rel => exact ⟨k + 1, by omega, by first | rfl | go_num | (simp; omega), Lib.hid fun j hj => by
              rcases Nat.lt_or_ge j k with h_ | h_
              · exact HN.out j h_
              · obtain rfl : j = k := by omega
                exact HNO.out, below_drewN' hbr nq⟩
            case measure => simp [intOf]; omega
          · have HB : Hid (¬ (k < (Rl.loads s p).length ∧ r < (Rl.loads s p).getD k 0 + s.getD p.length 0)) := Lib.hid (by rw [EZ.out, EX.out]; rintro ⟨_, h_⟩; exact hfit h_)
            have hnx := HP.out.next (k := k) (by rw [HL1.out, HL2.out]; exact hmn) (by rw [HLL.out]; omega) HB.out
            have HNX := Lib.hid hnx.1
            have HLN2 : Hid ((p ++ [(k : Int)]).length + n = s.length) := Lib.hid (by have h_ := HLN.out; simp; omega)
            clear hnx
            go_wp2_with fail
            go_quiet (fail)
            have h15 : Rd I (wr.drewN nq) B1 (some ⟨bs, os, none⟩) ns s := h1r.drewN nq
            have ho5 : Own I (wr.drewN nq) lo hi 2 (.slice A2 m c2) p := hor.drewN nq
            have hb5 : Below w1.heap.size w1 (wr.drewN nq) := below_drewN' hbr nq
            have hz5 : w1.heap.size ≤ (wr.drewN nq).heap.size := hzr
            clear h1r hor hldr cx
            generalize wr.drewN nq = w5 at *
            go_wp2_with fail
            refine (l01Own_any A2 m c2 hi p w5 ho5.rd (by omega) (by omega)).mono ?_
            rintro e w6 ⟨A6, c6, rfl, ho6, hb6⟩
            have hz6 := hb6.size
            have h16 := h15.below hb6 (by omega)
            have hb56 := hb5.trans (hb6.mono hz5)
            clear ho5 h15 hb6 hb5
            go_wp2_with (at_builtin; refine wp_push (enc := I) w6 rfl (.tmp 56) (.tmp 58) 24 rfl 2 i0 _ 8 Try.underlying24 hi0 hz0 hz1 hz2 rfl A6 m c6 _ _ _ (by rfl) ho6 (k : Int) (by rfl) rfl (by omega) (by omega) hz6 ?_; intro A7 c7 w7 ho7 hm7; have hz7 := hm7.size; have h17 := h16.only hm7 (by omega) (by omega); have hb7 := hb56.trans (hm7.below (B := w1.heap.size) hz5 (by omega)); clear ho6 h16 hb56 hm7)
            refine (ih (p ++ [(k : Int)]) A7 (m + 1) c7 w5.heap.size w7.heap.size w7 h17 (by omega) ho7 (Nat.le_refl _) (by omega) HNX.out HLN2.out).mono ?_
            rintro e w8 ⟨A8, k8, c8, b8, R8, rfl, hyes, hno, hb8⟩
            have hz8 := hb8.size
            have HB8 := Lib.hid (hb7.trans (hb8.mono (by omega)))
            clear ho7 h17 hb7 hb8
            cases b8
            · have hno8 := hno rfl
              have HNO : Hid (Rl.br r s M n p k = none) := Lib.hid (by unfold Rl.br; rw [if_neg HB.out]; exact hno8)
              clear hyes hno hno8
              go_wp2_with fail
              go_roundw
              case rel => exact ⟨k + 1, by omega, by first | rfl | go_num | (simp; omega), Lib.hid fun j hj => by
                rcases Nat.lt_or_ge j k with h_ | h_
                · exact HN.out j h_
                · obtain rfl : j = k := by omega
                  exact HNO.out, HB8.out⟩
              case measure => simp [intOf]; omega
            · obtain ⟨hs8, ho8⟩ := hyes rfl
              have HE := Lib.hid (SeaE.yes (r := r) (s := s) (M := M) (n := n + 1) (p := p) (lo := lo) (w := w) (by
                rw [Rl.sea_br, HLL.out]
                exact Rl.findSome_first hlt (show Rl.br r s M n p k = some R8 by unfold Rl.br; rw [if_neg HB.out]; exact hs8) HN.out) (ho8.mono (by omega) (Nat.le_refl _)) (hb1.trans (HB8.out.mono hz1')))
              clear hyes hno hs8 ho8
              go_wp2_with fail
              go_ret2
              exact HE.out
        · have HB : Hid (¬ (k < (Rl.loads s p).length ∧ r < (Rl.loads s p).getD k 0 + s.getD p.length 0)) := Lib.hid (by rintro ⟨h_, _⟩; rw [HLL.out] at h_; exact hkl h_)
          have kI : ¬ ((k : Int) < (ln : Int)) := by omega
          have hnx := HP.out.next (k := k) (by rw [HL1.out, HL2.out]; exact hmn) (by rw [HLL.out]; omega) HB.out
          have HNX := Lib.hid hnx.1
          have HLN2 : Hid ((p ++ [(k : Int)]).length + n = s.length) := Lib.hid (by have h_ := HLN.out; simp; omega)
          clear hnx
          go_wp2_with fail
          go_quiet (fail)
          have h15 : Rd I (wr.drewN nq) B1 (some ⟨bs, os, none⟩) ns s := h1r.drewN nq
          have ho5 : Own I (wr.drewN nq) lo hi 2 (.slice A2 m c2) p := hor.drewN nq
          have hb5 : Below w1.heap.size w1 (wr.drewN nq) := below_drewN' hbr nq
          have hz5 : w1.heap.size ≤ (wr.drewN nq).heap.size := hzr
          clear h1r hor hldr cx
          generalize wr.drewN nq = w5 at *
          go_wp2_with fail
          refine (l01Own_any A2 m c2 hi p w5 ho5.rd (by omega) (by omega)).mono ?_
          rintro e w6 ⟨A6, c6, rfl, ho6, hb6⟩
          have hz6 := hb6.size
          have h16 := h15.below hb6 (by omega)
          have hb56 := hb5.trans (hb6.mono hz5)
          clear ho5 h15 hb6 hb5
          go_wp2_with (at_builtin; refine wp_push (enc := I) w6 rfl (.tmp 56) (.tmp 58) 24 rfl 2 i0 _ 8 Try.underlying24 hi0 hz0 hz1 hz2 rfl A6 m c6 _ _ _ (by rfl) ho6 (k : Int) (by rfl) rfl (by omega) (by omega) hz6 ?_; intro A7 c7 w7 ho7 hm7; have hz7 := hm7.size; have h17 := h16.only hm7 (by omega) (by omega); have hb7 := hb56.trans (hm7.below (B := w1.heap.size) hz5 (by omega)); clear ho6 h16 hb56 hm7)
          refine (ih (p ++ [(k : Int)]) A7 (m + 1) c7 w5.heap.size w7.heap.size w7 h17 (by omega) ho7 (Nat.le_refl _) (by omega) HNX.out HLN2.out).mono ?_
          rintro e w8 ⟨A8, k8, c8, b8, R8, rfl, hyes, hno, hb8⟩
          have hz8 := hb8.size
          have HB8 := Lib.hid (hb7.trans (hb8.mono (by omega)))
          clear ho7 h17 hb7 hb8
          cases b8
          · have hno8 := hno rfl
            have HNO : Hid (Rl.br r s M n p k = none) := Lib.hid (by unfold Rl.br; rw [if_neg HB.out]; exact hno8)
            clear hyes hno hno8
            go_wp2_with fail
            go_roundw
            case rel => exact ⟨k + 1, by omega, by first | rfl | go_num | (simp; omega), Lib.hid fun j hj => by
              rcases Nat.lt_or_ge j k with h_ | h_
              · exact HN.out j h_
              · obtain rfl : j = k := by omega
                exact HNO.out, HB8.out⟩
            case measure => simp [intOf]; omega
          · obtain ⟨hs8, ho8⟩ := hyes rfl
            have HE := Lib.hid (SeaE.yes (r := r) (s := s) (M := M) (n := n + 1) (p := p) (lo := lo) (w := w) (by
              rw [Rl.sea_br, HLL.out]
              exact Rl.findSome_first hlt (show Rl.br r s M n p k = some R8 by unfold Rl.br; rw [if_neg HB.out]; exact hs8) HN.out) (ho8.mono (by omega) (Nat.le_refl _)) (hb1.trans (HB8.out.mono hz1')))
            clear hyes hno hs8 ho8
            go_wp2_with fail
            go_ret2
            exact HE.out
      · have HK : Hid (k = min (ln + 1) M) := Lib.hid (by omega)
        have HE := Lib.hid (SeaE.no (r := r) (s := s) (M := M) (n := n + 1) (p := p) (lo := lo) (by rw [Rl.sea_br, HLL.out, ← HK.out]; exact Rl.findSome_none' HN.out) hbb)
        by_cases hlm : ln < M
        · obtain rfl : k = ln + 1 := by omega
          have kI : ¬ (((ln + 1 : Nat) : Int) ≤ (ln : Int)) := by omega
          clear hor h1r hldr
          go_wp2_with fail
          go_ret2
          exact HE.out
        · obtain rfl : k = M := by omega
          have kI : (k : Int) ≤ (ln : Int) := by omega
          clear hor h1r hldr
          go_wp2_with fail
          go_ret2
          exact HE.out
end Go.Proofs.Ytbhkpjjedeinpaa
