/- Contracts of the draws of a sheet, a scheme and a cell, and of a sheet and leaves. -/
import Derived.Test.YtcagljdebplmcaaFoDs
import Derived.Test.YtcagljdebplmcaaFoSf
namespace Go.Proofs.Ytcagljdebplmcaa
open Go.RowKit

def DrL (w : World) (e : Ending) (w' : World) : Prop := ∃ (a b x y : Int) (t : ByteArray), e = .returned (.tuple #[.int .i64 a, .int .i64 b, .string t, .int .i64 x, .int .i64 y]) ∧ -1 ≤ x ∧ x ≤ 16 ∧ -1 ≤ y ∧ y ≤ 16 ∧ t.size ≤ 7 ∧ Below w.heap.size w w'
set_option maxRecDepth 100000 in
set_option maxHeartbeats 1000000 in
theorem DrawLo_any (N C B : Nat) (A : Option Addr) (l : List Int) (w : World) (hc : Rd U w B A N l) (hl : inByte l) (hB : B ≤ w.heap.size) (hN : N ≤ 1048576) :
    Calls Try.prog 18 #[.slice A N C] w fun e w' => DrL w e w' := by
  go_enter Try.func18, Try.ntmps18
  go_wp2_with fail
  refine (l01From_ex N C B A l _ hc hl hB).mono ?_
  rintro e w1 ⟨g, rfl, hg, hs1, hb1⟩
  have hz1 := hb1.size
  have hlt := hs1.lt
  have hc1 := hc.below hb1 hB
  go_wp2_with fail
  refine (draw_any g N C B A l _ hs1 hc1 hl (by omega) hN).mono ?_
  rintro e w2 ⟨a, b, t, rfl, a1, a2, b1, b2, ht, hs2, ho2⟩
  have hc2 := hc1.below (ho2.below (Nat.le_refl g) (by omega)) (by omega)
  go_wp2_with fail
  refine (l01Next_any g N C B A l _ _ hs2 hc2 hl (by omega) hN (by omega)).mono ?_
  rintro e w3 ⟨v, rfl, hv0, hv1, _, hs3, ho3⟩
  have hc3 := hc2.below (ho3.below (Nat.le_refl g) (by have := hs2.lt; omega)) (by omega)
  have hO3 := ho2.trans ho3
  clear hv1 hs1 hs2 ho2 ho3 hc1 hc2
  by_cases hv : v = 0
  · subst hv
    go_wp2_with fail
    refine (pick_lit g N C B A l [-1, a] _ _ w3 rfl rfl hs3 hc3 hl (by omega) hN (by simp) (by simp)).mono ?_
    rintro e w4 ⟨x, rfl, hx, hs4, ho4⟩
    have HX : Hid (DrL w (.returned (.tuple #[.int .i64 a, .int .i64 b, .string t, .int .i64 x, .int .i64 0])) w4) := Lib.hid ⟨a, b, x, 0, t, rfl, by simp at hx; omega, by simp at hx; omega, by omega, by omega, ht, hb1.trans ((hO3.trans ho4).below hg hz1)⟩
    clear hx hs4 ho4
    go_wp2_with fail
    exact bodyPost_ret (v := .tuple #[.int .i64 a, .int .i64 b, .string t, .int .i64 x, .int .i64 0]) (by simp [results, Try.results18, go_sem]) rfl HX.out
  · go_wp2_with fail
    refine (l01Next_any g N C B A l _ _ hs3 hc3 hl (by omega) hN (by omega)).mono ?_
    rintro e w4 ⟨x, rfl, x0, x1, x2, hs4, ho4⟩
    have hc4 := hc3.below (ho4.below (Nat.le_refl g) (by have := hs3.lt; omega)) (by omega)
    have hx16 : x ≤ 16 := by
      rcases Int.lt_or_le a 1 with h | h
      · have := x2 (by omega); omega
      · have := x1 h; omega
    clear x1 x2
    go_wp2_with fail
    refine (l01Next_any g N C B A l _ _ hs4 hc4 hl (by omega) hN (by omega)).mono ?_
    rintro e w5 ⟨y, rfl, y0, y1, y2, hs5, ho5⟩
    have hy16 : y ≤ 16 := by
      rcases Int.lt_or_le b 1 with h | h
      · have := y2 (by omega); omega
      · have := y1 h; omega
    have HX : Hid (DrL w (.returned (.tuple #[.int .i64 a, .int .i64 b, .string t, .int .i64 x, .int .i64 y])) w5) := Lib.hid ⟨a, b, x, y, t, rfl, by omega, hx16, by omega, hy16, ht, hb1.trans (((hO3.trans ho4).trans ho5).below hg hz1)⟩
    clear y1 y2 hs5 ho5
    go_wp2_with fail
    exact bodyPost_ret (v := .tuple #[.int .i64 a, .int .i64 b, .string t, .int .i64 x, .int .i64 y]) (by simp [results, Try.results18, go_sem]) rfl HX.out

theorem mul_small {a b : Int} (a1 : -1 ≤ a) (a2 : a ≤ 16) (b1 : -1 ≤ b) (b2 : b ≤ 16) : -512 ≤ a * b ∧ a * b ≤ 512 := by
  obtain ⟨i, hi⟩ := Int.eq_ofNat_of_zero_le (show 0 ≤ a + 1 by omega)
  obtain ⟨j, hj⟩ := Int.eq_ofNat_of_zero_le (show 0 ≤ b + 1 by omega)
  have ha : a = (i : Int) - 1 := by omega
  have hb : b = (j : Int) - 1 := by omega
  have hm : i * j ≤ 17 * 17 := Nat.mul_le_mul (by omega) (by omega)
  have he : a * b = ((i * j : Nat) : Int) - i - j + 1 := by
    rw [ha, hb, Int.sub_mul, Int.mul_sub, Int.one_mul, Int.mul_one]
    push_cast
    omega
  rw [he]
  omega
def DrX (w : World) (e : Ending) (w' : World) : Prop := ∃ (a b : Int) (A : Option Addr) (n c : Nat) (lv : List Lv), e = .returned (.tuple #[.int .i64 a, .int .i64 b, .slice A n c]) ∧ OwnV w' w.heap.size w'.heap.size (.slice A n c) lv ∧ n ≤ 64 ∧ Below w.heap.size w w'

set_option maxRecDepth 100000 in
set_option maxHeartbeats 2000000 in
theorem DrawFn_any (N C B : Nat) (A : Option Addr) (l : List Int) (w : World) (hc : Rd U w B A N l) (hl : inByte l) (hB : B ≤ w.heap.size) (hN : N ≤ 1048576) :
    Calls Try.prog 32 #[.slice A N C] w fun e w' => DrX w e w' := by
  go_enter Try.func32, Try.ntmps32
  go_wp2_with fail
  refine (l01From_ex N C B A l _ hc hl hB).mono ?_
  rintro e w1 ⟨g, rfl, hg, hs1, hb1⟩
  have hz1 := hb1.size
  have hlt := hs1.lt
  have hc1 := hc.below hb1 hB
  go_wp2_with fail
  refine (draw_any g N C B A l _ hs1 hc1 hl (by omega) hN).mono ?_
  rintro e w2 ⟨a, b, t, rfl, a1, a2, b1, b2, ht, hs2, ho2⟩
  have hc2 := hc1.below (ho2.below (Nat.le_refl g) (by omega)) (by omega)
  have hb2 := hb1.trans (ho2.below hg hz1)
  have hz2 := hb2.size
  have hlt2 := hs2.lt
  have hmm := mul_small a1 a2 b1 b2
  obtain ⟨z, hz⟩ : ∃ z, z = a * b := ⟨_, rfl⟩
  rw [← hz] at hmm
  have ez : a * b = z := hz.symm
  have ew : IntKind.i64.wrap z = z := IntWalk.i64_in _ (by omega)
  clear hz hs1 hc1 ho2 hb1 a1 a2 b1 b2
  by_cases h16 : 16 < z
  · clear ht
    go_wp2_with fail
    refine (specFo_any (4) (4) (⟨#[76, 84, 76, 84]⟩) _ (by decide)).mono ?_
    rintro e w3 ⟨A3, n3, c3, rfl, ho3, hn3, hb3⟩
    obtain ⟨cd, hcd⟩ : ∃ cd, cd = Fo.code (4) (4) (⟨#[76, 84, 76, 84]⟩ : ByteArray).data.toList := ⟨_, rfl⟩
    have hpos : cd = 0 → 0 < n3 := fun h => by
      have h1 : _ = n3 := ho3.rd.1
      unfold foR at h1
      rw [if_pos (by rw [← hcd]; exact h), LVs_len] at h1
      rw [← h1]
      exact Nat.pow_pos (by omega)
    rw [← hcd]
    generalize foR (4) (4) (⟨#[76, 84, 76, 84]⟩ : ByteArray).data.toList = lv at ho3
    clear hcd
    have hz3 := hb3.size
    have hb3' := hb2.trans (hb3.mono hz2)
    by_cases h0 : cd = 0
    · subst h0
      have hp := hpos rfl
      have hs3 := hs2.below hb3 hlt2
      have hc3 := hc2.below hb3 (by omega)
      clear hpos
      go_wp2_with fail
      refine (l01Next_any g N C B A l _ _ hs3 hc3 hl (by omega) hN (by omega)).mono ?_
      rintro e w4 ⟨v, rfl, hv0, _, _, hs4, ho4⟩
      have hz4 := ho4.size
      have hc4 := hc3.below (ho4.below (Nat.le_refl g) (by omega)) (by omega)
      have hw4 := ho3.only ho4 (.inr (by omega))
      have hb4 := hb3'.trans (ho4.below hg (by omega))
      clear hs3 hc3 ho3 hb3 hb3' ho4
      by_cases hv : v = 0
      · subst hv
        go_wp2_with fail
        refine (l01Next_any g N C B A l _ _ hs4 hc4 hl (by omega) hN (by omega)).mono ?_
        rintro e w5 ⟨k, rfl, k0, k1, _, hs5, ho5⟩
        have hz5 := ho5.size
        have hk3 := k1 (by omega)
        have hw5 := hw4.only ho5 (.inr (by omega))
        have hb5 := hb4.trans (ho5.below hg (by omega))
        obtain ⟨kn, rfl⟩ := Int.eq_ofNat_of_zero_le k0
        obtain ⟨gg, x, rfl, q1, q2, q3, hx, ⟨c0, c1, c2, c3'⟩, hf⟩ := hw5.at_ (k := kn) (by omega)
        have f2 := hf (kn * 4 + 2)
        have HS := Lib.hid (hw5.set_ (i := 2) (u := .bool (!x.fx)) (y := x.flX) hx (by omega) rfl)
        have HB5 := Lib.hid hb5
        clear hs5 ho5 hw4 hw5 hf hx k1 hb4 hb5 hs4 hc4
        go_wp2_with fail
        go_ret3
        exact ⟨4, 4, _, _, _, _, rfl, HS.out.1.mono (by omega) (by simp; omega), hn3, HB5.out.trans (HS.out.2.below (by omega) (by omega))⟩
      · go_wp2_with fail
        go_ret3
        exact ⟨4, 4, _, _, _, _, rfl, hw4.mono (by omega) (by omega), hn3, hb4⟩
    · clear hpos
      go_wp2_with fail
      go_ret3
      exact ⟨4, 4, _, _, _, [], rfl, OwnV.nil_, by omega, hb3'⟩
  · have h16' : z ≤ 16 := by omega
    go_wp2_with fail
    refine (specFo_any (a) (b) (t) _ (by omega)).mono ?_
    rintro e w3 ⟨A3, n3, c3, rfl, ho3, hn3, hb3⟩
    obtain ⟨cd, hcd⟩ : ∃ cd, cd = Fo.code (a) (b) (t : ByteArray).data.toList := ⟨_, rfl⟩
    have hpos : cd = 0 → 0 < n3 := fun h => by
      have h1 : _ = n3 := ho3.rd.1
      unfold foR at h1
      rw [if_pos (by rw [← hcd]; exact h), LVs_len] at h1
      rw [← h1]
      exact Nat.pow_pos (by omega)
    rw [← hcd]
    generalize foR (a) (b) (t : ByteArray).data.toList = lv at ho3
    clear hcd
    have hz3 := hb3.size
    have hb3' := hb2.trans (hb3.mono hz2)
    by_cases h0 : cd = 0
    · subst h0
      have hp := hpos rfl
      have hs3 := hs2.below hb3 hlt2
      have hc3 := hc2.below hb3 (by omega)
      clear hpos
      go_wp2_with fail
      refine (l01Next_any g N C B A l _ _ hs3 hc3 hl (by omega) hN (by omega)).mono ?_
      rintro e w4 ⟨v, rfl, hv0, _, _, hs4, ho4⟩
      have hz4 := ho4.size
      have hc4 := hc3.below (ho4.below (Nat.le_refl g) (by omega)) (by omega)
      have hw4 := ho3.only ho4 (.inr (by omega))
      have hb4 := hb3'.trans (ho4.below hg (by omega))
      clear hs3 hc3 ho3 hb3 hb3' ho4
      by_cases hv : v = 0
      · subst hv
        go_wp2_with fail
        refine (l01Next_any g N C B A l _ _ hs4 hc4 hl (by omega) hN (by omega)).mono ?_
        rintro e w5 ⟨k, rfl, k0, k1, _, hs5, ho5⟩
        have hz5 := ho5.size
        have hk3 := k1 (by omega)
        have hw5 := hw4.only ho5 (.inr (by omega))
        have hb5 := hb4.trans (ho5.below hg (by omega))
        obtain ⟨kn, rfl⟩ := Int.eq_ofNat_of_zero_le k0
        obtain ⟨gg, x, rfl, q1, q2, q3, hx, ⟨c0, c1, c2, c3'⟩, hf⟩ := hw5.at_ (k := kn) (by omega)
        have f2 := hf (kn * 4 + 2)
        have HS := Lib.hid (hw5.set_ (i := 2) (u := .bool (!x.fx)) (y := x.flX) hx (by omega) rfl)
        have HB5 := Lib.hid hb5
        clear hs5 ho5 hw4 hw5 hf hx k1 hb4 hb5 hs4 hc4
        go_wp2_with fail
        go_ret3
        exact ⟨a, b, _, _, _, _, rfl, HS.out.1.mono (by omega) (by simp; omega), hn3, HB5.out.trans (HS.out.2.below (by omega) (by omega))⟩
      · go_wp2_with fail
        go_ret3
        exact ⟨a, b, _, _, _, _, rfl, hw4.mono (by omega) (by omega), hn3, hb4⟩
    · clear hpos
      go_wp2_with fail
      go_ret3
      exact ⟨a, b, _, _, _, [], rfl, OwnV.nil_, by omega, hb3'⟩
end Go.Proofs.Ytcagljdebplmcaa
