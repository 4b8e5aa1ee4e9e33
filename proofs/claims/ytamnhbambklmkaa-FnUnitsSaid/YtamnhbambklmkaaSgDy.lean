/- The contract of the draw of BestUnits: whatever number and list, small and the call's own. -/
import Derived.Test.YtamnhbambklmkaaSgDx
namespace Go.Proofs.Ytamnhbambklmkaa
open Go.RowKit

set_option maxRecDepth 100000 in
set_option maxHeartbeats 4000000 in
theorem DrawBu_any (N C B : Nat) (A : Option Addr) (l : List Int) (w : World) (hc : Rd U w B A N l) (hl : inByte l) (hB : B ≤ w.heap.size) (hN : N ≤ 1048576) :
    Calls Try.prog 31 #[.slice A N C] w fun e w' => DrB w e w' := by
  obtain ⟨i0, hi0, hz0, hz1, hz2⟩ := info_parts infoI
  go_enter Try.func31, Try.ntmps31
  go_wp2_with fail
  refine (l01From_ex N C B A l _ hc hl hB).mono ?_
  rintro e w1 ⟨g, rfl, hg, hs1, hb1⟩
  have z1 := hb1.size
  have hc1 := hc.below hb1 hB
  have hlt := hs1.lt
  go_wp2_with fail
  have hl0 := Own.lit0 I w1 2
  have hO0 : Only g (g + 1) w1 (w1.alloc (.cells #[] 2)) := (Only.refl _ _ _).then_alloc _
  have hS0 : Src (w1.alloc (.cells #[] 2)) g A N C := hs1.below ((Below.refl w1.heap.size w1).alloc (Nat.le_refl _) _) hlt
  have HC1 := Lib.hid hc1
  clear hc hc1 hs1
  go_loopw [5, 6] (fun v i wr => ∃ (u : Int) (n : Nat), (4 ≤ u ∧ u ≤ 256) ∧ (n : Int) ≤ u ∧ i = .int .i64 u ∧ (∃ A3 c3 L, v = .slice A3 n c3 ∧ Own I wr w1.heap.size wr.heap.size 2 (.slice A3 n c3) L) ∧ Src wr g A N C ∧ Only g (g + 1) w1 wr) (fun _ i _ => (257 - intOf i).toNat)
  case atStart => exact ⟨4, 0, by decide, by decide, rfl, ⟨_, _, _, rfl, hl0.mono (Nat.le_refl _) (by simp)⟩, hS0, hO0⟩
  case round =>
    clear hl0 hO0 hS0
    obtain ⟨u, n, hu, hnu, rfl, ⟨A3, c3, L, rfl, ho⟩, hs, hO⟩ := hrel
    have zr := hO.size
    have hcr := HC1.out.only hO (by omega) (by omega)
    by_cases hle : u ≤ 128
    · have e1 : IntKind.i64.wrap (2 * u) = 2 * u := IntWalk.i64_in _ (by omega)
      obtain ⟨w2, rfl⟩ : ∃ w2, w2 = wr := ⟨_, rfl⟩
      go_wp2_with fail
      refine (l01Next_any g N C B A l _ _ hs hcr hl (by omega) hN (by omega)).mono ?_
      rintro e w3 ⟨v, rfl, hv0, hv1, _, hs3, ho3⟩
      have z3 := ho3.size
      have hr3 := ho.only ho3 (.inr (by omega))
      have hO3 := hO.trans ho3
      clear hv1
      by_cases hv : v = 0
      · subst hv
        go_wp2_with (at_builtin; refine wp_push _ rfl _ _ 29 rfl 2 i0 _ 8 Try.underlying29 hi0 hz0 hz1 hz2 rfl A3 n c3 _ _ _ rfl hr3 u rfl rfl (by omega) (by omega) (by omega) ?_; intro A5 c5 w5 ho5 hm5)
        go_roundw
        case rel => exact ⟨2 * u, n + 1, by omega, by omega, rfl, ⟨_, _, _, rfl, ho5⟩, hs3.only hm5 (.inl (by omega)), hO3.then_only hm5 (Nat.le_refl _)⟩
        case measure => simp [intOf]; omega
      · have hv' : (v == 0) = false := by simpa using hv
        go_wp2_with fail
        go_roundw
        case rel => exact ⟨2 * u, n, by omega, by omega, rfl, ⟨_, _, _, rfl, hr3.mono (Nat.le_refl _) z3⟩, hs3, hO3⟩
        case measure => simp [intOf]; omega
    · have hle' : 128 < u := by omega
      have hnn : n ≤ 256 := by omega
      go_wp2_with fail
      refine (l01Next_any g N C B A l _ _ hs hcr hl (by omega) hN (by omega)).mono ?_
      rintro e w3 ⟨v, rfl, hv0, hv1, _, hs3, ho3⟩
      have z3 := ho3.size
      have hr3 := ho.only ho3 (.inr (by omega))
      have hO3 := hO.trans ho3
      have hc3 := HC1.out.only hO3 (by omega) (by omega)
      clear hv1 ho hs hO hcr ho3
      by_cases hv : v = 0
      · subst hv
        go_wp2_with fail
        refine (pick_lit g N C B A l [4, 256, 12] _ _ w3 rfl rfl hs3 hc3 hl (by omega) hN (by decide) (by decide)).mono ?_
        rintro e w4 ⟨x, rfl, hx, hs4, ho4⟩
        have z4 := ho4.size
        have hr4 := hr3.only ho4 (.inr (by omega))
        have hO4 := hO3.trans ho4
        clear hx
        go_wp2_with (at_builtin; refine wp_push _ rfl _ _ 29 rfl 2 i0 _ 8 Try.underlying29 hi0 hz0 hz1 hz2 rfl A3 n c3 _ _ _ rfl hr4 x rfl rfl (by omega) (by omega) (by omega) ?_; intro A5 c5 w5 ho5 hm5)
        have hO5 := hO4.then_only hm5 (Nat.le_refl _)
        have z5 := hm5.size
        have hs5 := hs4.only hm5 (.inl (by omega))
        refine (drawPages_any g N C B A l _ hs5 (HC1.out.only hO5 (by omega) (by omega)) hl (by omega) hN).mono ?_
        rintro e w6 ⟨p, rfl, hp, hs6, ho6⟩
        have z6 := ho6.size
        have hr6 := ho5.only ho6 (.inr (by omega))
        have hB6 := hb1.trans ((hO5.trans ho6).below (B := w.heap.size) (by omega) (by omega))
        go_wp2_with fail
        go_ret2
        exact DrB.mk_ (by omega) (by omega) hr6 (by omega) z6 hB6
      · have hv' : (v == 0) = false := by simpa using hv
        by_cases h1 : v = 1
        · subst h1
          go_wp2_with fail
          refine (drawPages_any g N C B A l _ hs3 hc3 hl (by omega) hN).mono ?_
          rintro e w6 ⟨p, rfl, hp, hs6, ho6⟩
          have z6 := ho6.size
          have hB6 := hb1.trans ((hO3.trans ho6).below (B := w.heap.size) (by omega) (by omega))
          go_wp2_with fail
          go_ret2
          exact DrB.mk_ (by omega) (by omega) (Own.nil_ (enc := I) (lo := w.heap.size) (hi := w.heap.size)) (Nat.le_refl _) (by omega) hB6
        · have h1' : (v == 1) = false := by simpa using h1
          go_wp2_with fail
          refine (drawPages_any g N C B A l _ hs3 hc3 hl (by omega) hN).mono ?_
          rintro e w6 ⟨p, rfl, hp, hs6, ho6⟩
          have z6 := ho6.size
          have hr6 := hr3.only ho6 (.inr (by omega))
          have hB6 := hb1.trans ((hO3.trans ho6).below (B := w.heap.size) (by omega) (by omega))
          go_wp2_with fail
          go_ret2
          exact DrB.mk_ (by omega) (by omega) hr6 (by omega) (by omega) hB6
end Go.Proofs.Ytamnhbambklmkaa
