/- Contract of l01DrawOrder over the texts of later chapters. -/
import Derived.Test.YtnfnmdeiaihgnaaSgDo
import Derived.Test.YtnfnmdeiaihgnaaSrG
namespace Go.Proofs.Ytnfnmdeiaihgnaa
open Go.RowKit
set_option linter.unusedVariables false

theorem ListP.more {w w' : World} {g N C m m' : Nat} {A : Option Addr} {e : Ending} (h : ListP w g N C A m e w') (hm : m ≤ m') : ListP w g N C A m' e w' := by
  obtain ⟨A', n, c, l, he, hn, r⟩ := h
  exact ⟨A', n, c, l, he, by omega, r⟩
theorem ListP.from_ {w0 w w' : World} {g N C m : Nat} {A : Option Addr} {e : Ending} (h : ListP w g N C A m e w') (ho : Only g (g + 1) w0 w) : ListP w0 g N C A m e w' := by
  obtain ⟨A', n, c, l, he, hn, hO, hs, hB⟩ := h
  exact ⟨A', n, c, l, he, hn, hO.mono ho.size (Nat.le_refl _), hs, ho.trans hB⟩

set_option maxRecDepth 100000 in
set_option maxHeartbeats 2000000 in
theorem l01DrawOrder_any (g N C B : Nat) (A : Option Addr) (lc : List Int) (w : World) (hs : Src w g A N C) (hc : Rd U w B A N lc) (hl : inByte lc) (hB : B ≤ g) (hN : N ≤ 1048576) :
    Calls Try.prog 67 #[.pointer (some ⟨g, 0, none⟩)] w fun e w' => ListP w g N C A 100 e w' := by
  obtain ⟨i0, hi0, hz0, hz1, hz2⟩ := info_parts infoI
  have hlt := hs.lt
  go_enter Try.func67, Try.ntmps67
  go_wp2_with fail
  refine (pick_lit g N C B A lc [6, 9, 14] _ _ w rfl rfl hs hc hl hB hN (by decide) (by decide)).mono ?_
  rintro e w1 ⟨x, rfl, hx, hs1, ho1⟩
  have hx' : 6 ≤ x ∧ x ≤ 14 := by simp at hx; omega
  have hz1' := ho1.size
  clear hx
  go_wp2_with fail
  refine (l01Next_any g N C B A lc _ _ hs1 (hc.only ho1 (by omega) (by omega)) hl hB hN (by omega)).mono ?_
  rintro e w2 ⟨v, rfl, hv0, hv1, _, hs2, ho2⟩
  have hv1' := hv1 (by omega)
  have ho2' := ho1.trans ho2
  have hz2' := ho2.size
  obtain ⟨m, rfl⟩ := Int.eq_ofNat_of_zero_le hv0
  clear hv1
  go_wp2_with fail
  refine (l01DrawOf_any g N C B m A lc _ hs2 (hc.only ho2' (by omega) (by omega)) hl hB hN (by omega)).mono ?_
  rintro e w3 ⟨A3, n3, c3, l3, rfl, hn3, hO3, hs3, ho3⟩
  have ho3' := ho2'.trans ho3
  have hz3' := ho3.size
  go_wp2_with fail
  refine (l01Next_any g N C B A lc _ _ hs3 (hc.only ho3' (by omega) (by omega)) hl hB hN (by omega)).mono ?_
  rintro e w4 ⟨t, rfl, ht0, ht1, _, hs4, ho4⟩
  have ho4' := ho3'.trans ho4
  have hz4' := ho4.size
  have hO4 := hO3.only ho4 (.inr (by omega))
  have hN4 : n3 ≤ 14 := by omega
  clear ht1
  by_cases h0 : t = 0
  · subst h0
    go_wp2_with fail
    refine (pick_lit g N C B A lc [-1, 0, (n3 : Int), (n3 : Int) + 1] _ _ w4 rfl rfl hs4 (hc.only ho4' (by omega) (by omega)) hl hB hN (by simp) (by simp)).mono ?_
    rintro e w5 ⟨y, rfl, hy, hs5, ho5⟩
    have ho5' := ho4'.trans ho5
    have hz5' := ho5.size
    have hO5 := hO4.only ho5 (.inr (by omega))
    clear hy
    go_wp2_with (at_builtin; refine wp_push _ rfl _ _ 43 rfl 2 i0 _ 8 Try.underlying43 hi0 hz0 hz1 hz2 rfl A3 n3 c3 _ _ _ rfl hO5 y rfl rfl (by omega) (by omega) (by omega) ?_; intro A6 c6 w6 ho6 hm6)
    go_ret
    have hz6' := hm6.size
    exact ⟨A6, n3 + 1, c6, _, rfl, by omega, ho6.mono (by omega) (Nat.le_refl _), hs5.only hm6 (.inl (by omega)), ho5'.then_only hm6 (by omega)⟩
  · by_cases h1 : t = 1
    · subst h1
      go_wp2_with fail
      refine (l01Next_any g N C B A lc _ _ hs4 (hc.only ho4' (by omega) (by omega)) hl hB hN (by omega)).mono ?_
      rintro e w5 ⟨u, rfl, hu0, hu1, _, hs5, ho5⟩
      have hu1' := hu1 (by omega)
      have ho5' := ho4'.trans ho5
      have hz5' := ho5.size
      obtain ⟨m5, rfl⟩ := Int.eq_ofNat_of_zero_le hu0
      clear hu1
      go_wp2_with fail
      rw [show (64 : Int) + (m5 : Int) = ((64 + m5 : Nat) : Int) from by omega]
      refine (l01DrawOf_any g N C B (64 + m5) A lc _ hs5 (hc.only ho5' (by omega) (by omega)) hl hB hN (by omega)).mono ?_
      rintro e w6 h6
      have h6' := (h6.more (m' := 100) (by omega)).from_ ho5'
      obtain ⟨A6, n6, c6, l6, rfl, hn6, hO6, hs6, ho6⟩ := h6'
      go_wp2_with fail
      go_ret
      exact ⟨A6, n6, c6, l6, rfl, hn6, hO6, hs6, ho6⟩
    · have h0' : (t == 0) = false := by simpa using h0
      have h1' : (t == 1) = false := by simpa using h1
      go_wp2_with fail
      go_ret
      exact ⟨A3, n3, c3, l3, rfl, by omega, hO4.mono (by omega) (by omega), hs4, ho4'⟩

def Lists2 (w : World) (e : Ending) (w' : World) : Prop :=
  ∃ A n c l A' n' c' l', e = .returned (.tuple #[.slice A n c, .slice A' n' c']) ∧ Rd I w' w'.heap.size A n l ∧ n ≤ c ∧ n ≤ 100 ∧ Rd I w' w'.heap.size A' n' l' ∧ n' ≤ c' ∧ n' ≤ 100 ∧ Below w.heap.size w w'
end Go.Proofs.Ytnfnmdeiaihgnaa
