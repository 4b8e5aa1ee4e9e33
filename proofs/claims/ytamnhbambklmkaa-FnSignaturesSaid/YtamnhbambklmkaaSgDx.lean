/- Contracts of the draws of the laws of chapter 6, whole: whatever numbers and lists, small and the call's own. -/
import Derived.Test.YtamnhbambklmkaaSgDw
namespace Go.Proofs.Ytamnhbambklmkaa
open Go.RowKit

def Dr3 (w : World) (e : Ending) (w' : World) : Prop :=
  ∃ p u x, e = .returned (.tuple #[.int .i64 p, .int .i64 u, .int .i64 x]) ∧ (-5000 ≤ p ∧ p ≤ 5000) ∧ (-5000 ≤ u ∧ u ≤ 5000) ∧ (-5000 ≤ x ∧ x ≤ 5000) ∧ Below w.heap.size w w'
theorem Dr3.mk_ {w w' : World} {p u x : Int} (h1 : -5000 ≤ p ∧ p ≤ 5000) (h2 : -5000 ≤ u ∧ u ≤ 5000) (h3 : -5000 ≤ x ∧ x ≤ 5000) (hb : Below w.heap.size w w') : Dr3 w (.returned (.tuple #[.int .i64 p, .int .i64 u, .int .i64 x])) w' := ⟨p, u, x, rfl, h1, h2, h3, hb⟩
def Dr2 (w : World) (e : Ending) (w' : World) : Prop :=
  ∃ p u, e = .returned (.tuple #[.int .i64 p, .int .i64 u]) ∧ (-5000 ≤ p ∧ p ≤ 5000) ∧ (-5000 ≤ u ∧ u ≤ 5000) ∧ Below w.heap.size w w'
theorem Dr2.mk_ {w w' : World} {p u : Int} (h1 : -5000 ≤ p ∧ p ≤ 5000) (h2 : -5000 ≤ u ∧ u ≤ 5000) (hb : Below w.heap.size w w') : Dr2 w (.returned (.tuple #[.int .i64 p, .int .i64 u])) w' := ⟨p, u, rfl, h1, h2, hb⟩
def DrG (w : World) (e : Ending) (w' : World) : Prop :=
  ∃ p u A n c L, e = .returned (.tuple #[.int .i64 p, .int .i64 u, .slice A n c]) ∧ (-5000 ≤ p ∧ p ≤ 5000) ∧ (-5000 ≤ u ∧ u ≤ 5000) ∧ n ≤ 5000 ∧ Own I w' w.heap.size w'.heap.size 2 (.slice A n c) L ∧ Below w.heap.size w w'
theorem DrG.mk_ {w w' : World} {p u : Int} {A : Option Addr} {n c lo hi : Nat} {L : List Int} (h1 : -5000 ≤ p ∧ p ≤ 5000) (h2 : -5000 ≤ u ∧ u ≤ 5000) (hn : n ≤ 5000) (ho : Own I w' lo hi 2 (.slice A n c) L) (hlo : w.heap.size ≤ lo) (hhi : hi ≤ w'.heap.size) (hb : Below w.heap.size w w') :
    DrG w (.returned (.tuple #[.int .i64 p, .int .i64 u, .slice A n c])) w' := ⟨p, u, A, n, c, L, rfl, h1, h2, hn, ho.mono hlo hhi, hb⟩
def DrB (w : World) (e : Ending) (w' : World) : Prop :=
  ∃ p A n c L, e = .returned (.tuple #[.int .i64 p, .slice A n c]) ∧ (-5000 ≤ p ∧ p ≤ 5000) ∧ n ≤ 5000 ∧ Own I w' w.heap.size w'.heap.size 2 (.slice A n c) L ∧ Below w.heap.size w w'
theorem DrB.mk_ {w w' : World} {p : Int} {A : Option Addr} {n c lo hi : Nat} {L : List Int} (h1 : -5000 ≤ p ∧ p ≤ 5000) (hn : n ≤ 5000) (ho : Own I w' lo hi 2 (.slice A n c) L) (hlo : w.heap.size ≤ lo) (hhi : hi ≤ w'.heap.size) (hb : Below w.heap.size w w') :
    DrB w (.returned (.tuple #[.int .i64 p, .slice A n c])) w' := ⟨p, A, n, c, L, rfl, h1, hn, ho.mono hlo hhi, hb⟩

set_option maxRecDepth 100000 in
set_option maxHeartbeats 2000000 in
theorem DrawSig_any (N C B : Nat) (A : Option Addr) (l : List Int) (w : World) (hc : Rd U w B A N l) (hl : inByte l) (hB : B ≤ w.heap.size) (hN : N ≤ 1048576) :
    Calls Try.prog 20 #[.slice A N C] w fun e w' => Dr3 w e w' := by
  go_enter Try.func20, Try.ntmps20
  go_wp2_with fail
  refine (l01From_ex N C B A l _ hc hl hB).mono ?_
  rintro e w1 ⟨g, rfl, hg, hs1, hb1⟩
  have z1 := hb1.size
  have hc1 := hc.below hb1 hB
  go_wp2_with fail
  refine (drawPages_any g N C B A l _ hs1 hc1 hl (by omega) hN).mono ?_
  rintro e w2 ⟨p, rfl, hp, hs2, ho2⟩
  have z2 := ho2.size
  have hlt := hs1.lt
  have hb2 := hb1.trans (ho2.below (B := w.heap.size) (by omega) (by omega))
  have hc2 := hc1.only ho2 (by omega) (by omega)
  have e1 : IntKind.i64.wrap (p + 1) = p + 1 := IntWalk.i64_in _ (by omega)
  go_wp2_with fail
  refine (l01Next_any g N C B A l _ _ hs2 hc2 hl (by omega) hN (by omega)).mono ?_
  rintro e w3 ⟨v, rfl, hv0, hv1, _, hs3, ho3⟩
  have z3 := ho3.size
  have hb3 := hb2.trans (ho3.below (B := w.heap.size) (by omega) (by omega))
  have hc3 := hc2.only ho3 (by omega) (by omega)
  clear hv1
  by_cases hv : v = 0
  · subst hv
    go_wp2_with fail
    refine (drawUnit_any g N C B A l _ hs3 hc3 hl (by omega) hN).mono ?_
    rintro e w4 ⟨u, rfl, hu, hs4, ho4⟩
    have z4 := ho4.size
    have hb4 := hb3.trans (ho4.below (B := w.heap.size) (by omega) (by omega))
    have hc4 := hc3.only ho4 (by omega) (by omega)
    go_wp2_with fail
    refine (pick_lit g N C B A l [0, p, p + 1] _ _ w4 rfl rfl hs4 hc4 hl (by omega) hN (by simp) (by simp)).mono ?_
    rintro e w5 ⟨x, rfl, hx, hs5, ho5⟩
    have hx' : -5000 ≤ x ∧ x ≤ 5000 := by simp at hx; omega
    clear hx
    go_wp2_with fail
    exact bodyPost_ret (v := .tuple #[.int .i64 p, .int .i64 u, .int .i64 x]) (by simp [results, Try.results20, go_sem]) rfl (Dr3.mk_ (by omega) (by omega) hx' (hb4.trans (ho5.below (B := w.heap.size) (by omega) (by omega))))
  · have hv' : (v == 0) = false := by simpa using hv
    go_wp2_with fail
    refine (drawUnit_any g N C B A l _ hs3 hc3 hl (by omega) hN).mono ?_
    rintro e w4 ⟨u, rfl, hu, hs4, ho4⟩
    have z4 := ho4.size
    have hb4 := hb3.trans (ho4.below (B := w.heap.size) (by omega) (by omega))
    have hc4 := hc3.only ho4 (by omega) (by omega)
    go_wp2_with fail
    refine (l01Next_any g N C B A l _ _ hs4 hc4 hl (by omega) hN (by omega)).mono ?_
    rintro e w5 ⟨x, rfl, hx0, hx1, hx2, hs5, ho5⟩
    have hx' : -4000 ≤ x ∧ x ≤ 4500 := by
      by_cases h : 1 ≤ p
      · have := hx1 h; omega
      · have := hx2 (by omega); omega
    have e2 : IntKind.i64.wrap (1 + x) = 1 + x := IntWalk.i64_in _ (by omega)
    clear hx1 hx2
    go_wp2_with fail
    exact bodyPost_ret (v := .tuple #[.int .i64 p, .int .i64 u, .int .i64 (1 + x)]) (by simp [results, Try.results20, go_sem]) rfl (Dr3.mk_ (by omega) (by omega) (by omega) (hb4.trans (ho5.below (B := w.heap.size) (by omega) (by omega))))

set_option maxRecDepth 100000 in
set_option maxHeartbeats 2000000 in
theorem DrawGa_any (N C B : Nat) (A : Option Addr) (l : List Int) (w : World) (hc : Rd U w B A N l) (hl : inByte l) (hB : B ≤ w.heap.size) (hN : N ≤ 1048576) :
    Calls Try.prog 25 #[.slice A N C] w fun e w' => DrG w e w' := by
  go_enter Try.func25, Try.ntmps25
  go_wp2_with fail
  refine (l01From_ex N C B A l _ hc hl hB).mono ?_
  rintro e w1 ⟨g, rfl, hg, hs1, hb1⟩
  have z1 := hb1.size
  have hc1 := hc.below hb1 hB
  have hlt := hs1.lt
  go_wp2_with fail
  refine (l01Next_any g N C B A l _ _ hs1 hc1 hl (by omega) hN (by omega)).mono ?_
  rintro e w2 ⟨v, rfl, hv0, hv1, _, hs2, ho2⟩
  have hv1' := hv1 (by omega)
  have z2 := ho2.size
  have hb2 := hb1.trans (ho2.below (B := w.heap.size) (by omega) (by omega))
  have hc2 := hc1.only ho2 (by omega) (by omega)
  have e1 : IntKind.i64.wrap (1 + v) = 1 + v := IntWalk.i64_in _ (by omega)
  clear hv1
  go_wp2_with fail
  refine (drawUnit_any g N C B A l _ hs2 hc2 hl (by omega) hN).mono ?_
  rintro e w3 ⟨u, rfl, hu, hs3, ho3⟩
  have z3 := ho3.size
  have hb3 := hb2.trans (ho3.below (B := w.heap.size) (by omega) (by omega))
  have hc3 := hc2.only ho3 (by omega) (by omega)
  obtain ⟨r, hr⟩ : ∃ r, Sg.scR (1 + v) u = r := ⟨_, rfl⟩
  obtain ⟨q, hq⟩ : ∃ q, Sg.scC (1 + v) u = q := ⟨_, rfl⟩
  have hrb : 0 ≤ r ∧ r ≤ 1000 := by
    rw [← hr]
    unfold Sg.scR
    split
    · rename_i hf
      have h1 := Sg.ceil_bd hf
      have h2 := Sg.un_bd (Sg.fits_out hf).2
      obtain ⟨k, hk⟩ : ∃ k, Sg.ceil (1 + v) u = k := ⟨_, rfl⟩
      rw [hk] at h1 ⊢
      have h3 := Int.mul_le_mul_of_nonneg_left h2.1 (show 0 ≤ k by omega)
      omega
    · omega
  have HR := Lib.hid hr
  have HQ := Lib.hid hq
  clear hr hq
  go_wp2_with fail
  refine (specSc_any (1 + v) u r q _ HR.out HQ.out).mono ?_
  rintro e w4 ⟨rfl, hb4⟩
  have z4 := hb4.size
  have hb4' := hb3.trans (hb4.mono (by omega))
  have hs4 := hs3.below hb4 (by omega)
  have hc4 := hc3.below hb4 (by omega)
  go_wp2_with fail
  refine (l01Next_any g N C B A l _ _ hs4 hc4 hl (by omega) hN (by omega)).mono ?_
  rintro e w5 ⟨y, rfl, hy0, hy1, _, hs5, ho5⟩
  have z5 := ho5.size
  have hb5 := hb4'.trans (ho5.below (B := w.heap.size) (by omega) (by omega))
  have hc5 := hc4.only ho5 (by omega) (by omega)
  clear hy1
  by_cases hy : y = 0
  · subst hy
    go_wp2_with fail
    refine (l01Next_any g N C B A l _ _ hs5 hc5 hl (by omega) hN (by omega)).mono ?_
    rintro e w6 ⟨k, rfl, hk0, hk1, _, hs6, ho6⟩
    have hk1' := hk1 (by omega)
    have z6 := ho6.size
    have hb6 := hb5.trans (ho6.below (B := w.heap.size) (by omega) (by omega))
    have hc6 := hc5.only ho6 (by omega) (by omega)
    obtain ⟨m, rfl⟩ := Int.eq_ofNat_of_zero_le hk0
    clear hk1
    go_wp2_with fail
    refine (l01DrawOf_any g N C B m A l _ hs6 hc6 hl (by omega) hN (by omega)).mono ?_
    rintro e w7 ⟨A', n', c', L', rfl, hn', ho7, hs7, hm7⟩
    go_wp2_with fail
    exact bodyPost_ret (v := .tuple #[.int .i64 (1 + v), .int .i64 u, .slice A' n' c']) (by simp [results, Try.results25, go_sem]) rfl (DrG.mk_ (by omega) (by omega) (by omega) ho7 (by omega) (Nat.le_refl _) (hb6.trans (hm7.below (B := w.heap.size) (by omega) (by omega))))
  · have hy' : (y == 0) = false := by simpa using hy
    obtain ⟨m, rfl⟩ := Int.eq_ofNat_of_zero_le hrb.1
    go_wp2_with fail
    refine (l01DrawOf_any g N C B m A l _ hs5 hc5 hl (by omega) hN (by omega)).mono ?_
    rintro e w7 ⟨A', n', c', L', rfl, hn', ho7, hs7, hm7⟩
    go_wp2_with fail
    exact bodyPost_ret (v := .tuple #[.int .i64 (1 + v), .int .i64 u, .slice A' n' c']) (by simp [results, Try.results25, go_sem]) rfl (DrG.mk_ (by omega) (by omega) (by omega) ho7 (by omega) (Nat.le_refl _) (hb5.trans (hm7.below (B := w.heap.size) (by omega) (by omega))))

set_option maxRecDepth 100000 in
set_option maxHeartbeats 2000000 in
theorem DrawNp_any (N C B : Nat) (A : Option Addr) (l : List Int) (w : World) (hc : Rd U w B A N l) (hl : inByte l) (hB : B ≤ w.heap.size) (hN : N ≤ 1048576) :
    Calls Try.prog 83 #[.slice A N C] w fun e w' => Dr2 w e w' := by
  go_enter Try.func83, Try.ntmps83
  go_wp2_with fail
  refine (l01From_ex N C B A l _ hc hl hB).mono ?_
  rintro e w1 ⟨g, rfl, hg, hs1, hb1⟩
  have z1 := hb1.size
  have hc1 := hc.below hb1 hB
  have hlt := hs1.lt
  go_wp2_with fail
  refine (drawNest_any g N C B A l _ hs1 hc1 hl (by omega) hN).mono ?_
  rintro e w2 ⟨p, rfl, hp, hs2, ho2⟩
  have z2 := ho2.size
  have hb2 := hb1.trans (ho2.below (B := w.heap.size) (by omega) (by omega))
  have hc2 := hc1.only ho2 (by omega) (by omega)
  go_wp2_with fail
  refine (l01Next_any g N C B A l _ _ hs2 hc2 hl (by omega) hN (by omega)).mono ?_
  rintro e w3 ⟨v, rfl, hv0, hv1, _, hs3, ho3⟩
  have z3 := ho3.size
  have hb3 := hb2.trans (ho3.below (B := w.heap.size) (by omega) (by omega))
  have hc3 := hc2.only ho3 (by omega) (by omega)
  clear hv1
  by_cases hv : v = 0
  · subst hv
    go_wp2_with fail
    refine (pick_lit g N C B A l [-1, p] _ _ w3 rfl rfl hs3 hc3 hl (by omega) hN (by simp) (by simp)).mono ?_
    rintro e w4 ⟨x, rfl, hx, hs4, ho4⟩
    have hx' : -5000 ≤ x ∧ x ≤ 5000 := by simp at hx; omega
    clear hx
    go_wp2_with fail
    go_ret2
    exact Dr2.mk_ (by omega) hx' (hb3.trans (ho4.below (B := w.heap.size) (by omega) (by omega)))
  · have hv' : (v == 0) = false := by simpa using hv
    go_wp2_with fail
    refine (l01Next_any g N C B A l _ _ hs3 hc3 hl (by omega) hN (by omega)).mono ?_
    rintro e w4 ⟨x, rfl, hx0, hx1, hx2, hs4, ho4⟩
    have hx' : -4000 ≤ x ∧ x ≤ 4500 := by
      by_cases h : 1 ≤ p
      · have := hx1 h; omega
      · have := hx2 (by omega); omega
    clear hx1 hx2
    go_wp2_with fail
    go_ret2
    exact Dr2.mk_ (by omega) (by omega) (hb3.trans (ho4.below (B := w.heap.size) (by omega) (by omega)))

end Go.Proofs.Ytamnhbambklmkaa
