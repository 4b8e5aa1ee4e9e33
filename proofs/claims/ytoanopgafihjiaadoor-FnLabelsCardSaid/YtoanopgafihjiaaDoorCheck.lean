/- Contracts of the checks of a book and a page. -/
import Derived.Test.YtoanopgafihjiaaDoorCount
namespace Go.Proofs.YtoanopgafihjiaaDoor
open Go.RowKit Pg

def cpC (r : Bool) (f : Int) (l : List Int) (p : Int) : Int := if okB f l = true then (if 1 ≤ p ∧ p ≤ stop r (f + 1) l - 1 then 0 else 2) else 1
set_option maxRecDepth 100000 in
set_option maxHeartbeats 2000000 in
theorem checkPage_any (f : Int) (A : Option Addr) (n c B : Nat) (r : Bool) (l : List Int) (p : Int) (w : World) (h : Rd I w B A n l) (hB : B ≤ w.heap.size) (hn : n ≤ 1048576) (hf : -9223372036854775808 ≤ f ∧ f ≤ 9223372036854775807) :
    Calls Tryd.prog 30 #[BK f A n c r, .int .i64 p] w fun e w' => e = .returned (.int .i64 (cpC r f l p)) ∧ Below w.heap.size w w' := by
  have hR0 := h.alloc hB (.cells (BC f A n c r) 26)
  by_cases ho : okP f l
  · have HO := Lib.hid (okB_yes ho)
    have HR : Hid (pcR r f l = stop r (f + 1) l - 1) := if_pos HO.out
    have HC : Hid (bkC f l = 0) := if_pos HO.out
    obtain ⟨s, hs⟩ : ∃ s, stop r (f + 1) l - 1 = s := ⟨_, rfl⟩
    rw [hs] at HR
    have HP : Hid (cpC r f l p = if 1 ≤ p ∧ p ≤ s then 0 else 2) := by rw [← hs]; exact if_pos HO.out
    clear hs ho
    have hcase : (1 ≤ p ∧ p ≤ s) ∨ p < 1 ∨ (1 ≤ p ∧ s < p) := by omega
    rcases hcase with ⟨h1, h2⟩ | h1 | ⟨h1, h2⟩
    · have HQ : Hid (cpC r f l p = 0) := HP.out.trans (if_pos ⟨h1, h2⟩)
      go_enter Tryd.func30, Tryd.ntmps30
      go_wp2_with fail
      refine (implCount_any _ _ _ _ _ _ _ _ hR0 (by simp; omega) hn hf).mono ?_
      rintro e w1 ⟨rfl, hb1⟩
      rw [HR.out, HC.out]
      go_wp2_with fail
      go_ret
      exact ⟨ret_i HQ.out.symm, ((Below.refl w.heap.size w).alloc (Nat.le_refl _) _).trans (hb1.mono (by simp))⟩
    all_goals
      have HQ : Hid (cpC r f l p = 2) := HP.out.trans (if_neg (by omega))
      go_enter Tryd.func30, Tryd.ntmps30
      go_wp2_with fail
      refine (implCount_any _ _ _ _ _ _ _ _ hR0 (by simp; omega) hn hf).mono ?_
      rintro e w1 ⟨rfl, hb1⟩
      rw [HR.out, HC.out]
      go_wp2_with fail
      go_ret
      exact ⟨ret_i HQ.out.symm, ((Below.refl w.heap.size w).alloc (Nat.le_refl _) _).trans (hb1.mono (by simp))⟩
  · have HO := Lib.hid (okB_no ho)
    have HR : Hid (pcR r f l = 0) := if_neg (by rw [HO.out]; simp)
    have HC : Hid (bkC f l = 1) := if_neg (by rw [HO.out]; simp)
    have HQ : Hid (cpC r f l p = 1) := if_neg (by rw [HO.out]; simp)
    clear ho
    go_enter Tryd.func30, Tryd.ntmps30
    go_wp2_with fail
    refine (implCount_any _ _ _ _ _ _ _ _ hR0 (by simp; omega) hn hf).mono ?_
    rintro e w1 ⟨rfl, hb1⟩
    rw [HR.out, HC.out]
    go_wp2_with fail
    go_ret
    exact ⟨ret_i HQ.out.symm, ((Below.refl w.heap.size w).alloc (Nat.le_refl _) _).trans (hb1.mono (by simp))⟩

set_option maxRecDepth 100000 in
set_option maxHeartbeats 2000000 in
theorem l02Code_any (f : Int) (A : Option Addr) (n c B : Nat) (r : Bool) (l : List Int) (p : Int) (w : World) (h : Rd I w B A n l) (hB : B ≤ w.heap.size) (hn : n ≤ 1048576) :
    Calls Tryd.prog 34 #[BK f A n c r, .int .i64 p] w fun e w' => e = .returned (.int .i64 (cpC r f l p)) ∧ Below w.heap.size w w' := by
  have hR0 := h.alloc hB (.cells (BC f A n c r) 26)
  by_cases ho : okP f l
  · have HO := Lib.hid (okB_yes ho)
    have HM : Hid (mild f l) := mild_ok ho
    have hbd := mild_take HM.out r l.length
    rw [List.take_length] at hbd
    obtain ⟨m0, m1⟩ := hbd
    have HP : Hid (cpC r f l p = if 1 ≤ p ∧ p ≤ stop r (f + 1) l - 1 then 0 else 2) := if_pos HO.out
    clear ho
    by_cases hp : 1 ≤ p ∧ p ≤ stop r (f + 1) l - 1
    · have HQ : Hid (cpC r f l p = 0) := HP.out.trans (if_pos hp)
      obtain ⟨h1, h2⟩ := hp
      go_enter Tryd.func34, Tryd.ntmps34
      go_wp2_with fail
      refine (specIsBook_is _ _ _ _ _ _ _ _ _ hR0 (by simp; omega) hn HO.out).mono ?_
      rintro e w1 ⟨rfl, hb1⟩
      have a1 := (Blk.new (w := w) (g := w.heap.size) (BC f A n c r) 26 rfl).below hb1 (by simp)
      have a10 := a1.cell 0 (v := .int .i64 f) rfl
      have a11 := a1.cell 1 (v := .slice A n c) rfl
      have a12 := a1.cell 2 (v := .bool r) rfl
      have hB1 : Below w.heap.size w w1 := ((Below.refl w.heap.size w).alloc (Nat.le_refl _) _).trans (hb1.mono (by simp))
      have hz1 := hB1.size
      go_wp2_with fail
      refine (l02Starts_any _ _ _ _ _ _ _ _ (h.below hB1 hB) (by omega) HM.out).mono ?_
      rintro e w2 ⟨A2, n2, c2, rfl, rfl, ho2, hb2⟩
      go_wp2_with fail
      refine (l01In_yes _ _ _ _ h1 h2).mono ?_
      rintro e _ ⟨rfl, rfl⟩
      go_wp2_with fail
      go_ret
      exact ⟨ret_i HQ.out.symm, hB1.trans (hb2.mono hz1)⟩
    · have HQ : Hid (cpC r f l p = 2) := HP.out.trans (if_neg hp)
      have hp' : Hid (p < 1 ∨ stop r (f + 1) l - 1 < p) := show p < 1 ∨ stop r (f + 1) l - 1 < p by omega
      clear hp
      go_enter Tryd.func34, Tryd.ntmps34
      go_wp2_with fail
      refine (specIsBook_is _ _ _ _ _ _ _ _ _ hR0 (by simp; omega) hn HO.out).mono ?_
      rintro e w1 ⟨rfl, hb1⟩
      have a1 := (Blk.new (w := w) (g := w.heap.size) (BC f A n c r) 26 rfl).below hb1 (by simp)
      have a10 := a1.cell 0 (v := .int .i64 f) rfl
      have a11 := a1.cell 1 (v := .slice A n c) rfl
      have a12 := a1.cell 2 (v := .bool r) rfl
      have hB1 : Below w.heap.size w w1 := ((Below.refl w.heap.size w).alloc (Nat.le_refl _) _).trans (hb1.mono (by simp))
      have hz1 := hB1.size
      go_wp2_with fail
      refine (l02Starts_any _ _ _ _ _ _ _ _ (h.below hB1 hB) (by omega) HM.out).mono ?_
      rintro e w2 ⟨A2, n2, c2, rfl, rfl, ho2, hb2⟩
      go_wp2_with fail
      refine (l01In_no _ _ _ _ hp'.out).mono ?_
      rintro e _ ⟨rfl, rfl⟩
      go_wp2_with fail
      go_ret
      exact ⟨ret_i HQ.out.symm, hB1.trans (hb2.mono hz1)⟩
  · have HO := Lib.hid (okB_no ho)
    have HQ : Hid (cpC r f l p = 1) := if_neg (by rw [HO.out]; simp)
    clear ho
    go_enter Tryd.func34, Tryd.ntmps34
    go_wp2_with fail
    refine (specIsBook_is _ _ _ _ _ _ _ _ _ hR0 (by simp; omega) hn HO.out).mono ?_
    rintro e w1 ⟨rfl, hb1⟩
    go_wp2_with fail
    go_ret
    exact ⟨ret_i HQ.out.symm, ((Below.refl w.heap.size w).alloc (Nat.le_refl _) _).trans (hb1.mono (by simp))⟩

theorem has_any (a b p : Int) (w : World) (q : Bool) (hq : decide (a ≤ p ∧ p ≤ b) = q) :
    Calls Tryd.prog 32 #[.agg #[.int .i64 a, .int .i64 b], .int .i64 p] w fun e w' => e = .returned (.bool q) ∧ Below w.heap.size w w' := by
  have HQ := Lib.hid hq
  clear hq
  by_cases h1 : a ≤ p
  · have HE : Hid (decide (p ≤ b) = q) := by rw [← HQ.out]; exact (by simp [h1] : decide (p ≤ b) = decide (a ≤ p ∧ p ≤ b))
    go_enter Tryd.func32, Tryd.ntmps32
    go_wp2_with fail
    go_ret
    exact ⟨ret_b (by rw [← HE.out]), (Below.refl _ _).alloc (Nat.le_refl _) _⟩
  · have HE : Hid (false = q) := by rw [← HQ.out]; exact (by simp [h1] : false = decide (a ≤ p ∧ p ≤ b))
    have h1' : p < a := by omega
    go_enter Tryd.func32, Tryd.ntmps32
    go_wp2_with fail
    go_ret
    exact ⟨ret_b HE.out, (Below.refl _ _).alloc (Nat.le_refl _) _⟩
theorem has_yes (a b p : Int) (w : World) (h : a ≤ p ∧ p ≤ b) :
    Calls Tryd.prog 32 #[.agg #[.int .i64 a, .int .i64 b], .int .i64 p] w fun e w' => e = .returned (.bool true) ∧ Below w.heap.size w w' := has_any a b p w true (decide_eq_true h)
theorem has_no (a b p : Int) (w : World) (h : ¬ (a ≤ p ∧ p ≤ b)) :
    Calls Tryd.prog 32 #[.agg #[.int .i64 a, .int .i64 b], .int .i64 p] w fun e w' => e = .returned (.bool false) ∧ Below w.heap.size w w' := has_any a b p w false (decide_eq_false h)

theorem l01In_is (x lo hi : Int) (w : World) (b : Bool) (h : decide (lo ≤ x ∧ x ≤ hi) = b) :
    Calls Tryd.prog 45 #[.int .i64 x, .int .i64 lo, .int .i64 hi] w fun e w' => e = .returned (.bool b) ∧ w = w' := by
  by_cases hx : lo ≤ x ∧ x ≤ hi
  · rw [decide_eq_true hx] at h
    subst h
    exact l01In_yes x lo hi w hx.1 hx.2
  · rw [decide_eq_false hx] at h
    subst h
    exact l01In_no x lo hi w (by omega)

theorem cp_cases (r : Bool) (f : Int) (l : List Int) (p : Int) : (cpC r f l p = 0 ∧ okP f l ∧ 1 ≤ p ∧ p ≤ stop r (f + 1) l - 1) ∨ (cpC r f l p = 1 ∧ ¬ okP f l) ∨ (cpC r f l p = 2 ∧ okP f l) := by
  unfold cpC
  by_cases ho : okP f l
  · rw [if_pos (okB_yes ho)]
    by_cases hp : 1 ≤ p ∧ p ≤ stop r (f + 1) l - 1
    · rw [if_pos hp]
      exact .inl ⟨rfl, ho, hp⟩
    · rw [if_neg hp]
      exact .inr (.inr ⟨rfl, ho⟩)
  · rw [if_neg (by rw [okB_no ho]; simp)]
    exact .inr (.inl ⟨rfl, ho⟩)
theorem l02Code_is (f : Int) (A : Option Addr) (n c B : Nat) (r : Bool) (l : List Int) (p q : Int) (w : World) (h : Rd I w B A n l) (hB : B ≤ w.heap.size) (hn : n ≤ 1048576) (hq : cpC r f l p = q) :
    Calls Tryd.prog 34 #[BK f A n c r, .int .i64 p] w fun e w' => e = .returned (.int .i64 q) ∧ Below w.heap.size w w' := by
  subst hq
  exact l02Code_any f A n c B r l p w h hB hn
theorem checkPage_is (f : Int) (A : Option Addr) (n c B : Nat) (r : Bool) (l : List Int) (p q : Int) (w : World) (h : Rd I w B A n l) (hB : B ≤ w.heap.size) (hn : n ≤ 1048576) (hf : -9223372036854775808 ≤ f ∧ f ≤ 9223372036854775807) (hq : cpC r f l p = q) :
    Calls Tryd.prog 30 #[BK f A n c r, .int .i64 p] w fun e w' => e = .returned (.int .i64 q) ∧ Below w.heap.size w w' := by
  subst hq
  exact checkPage_any f A n c B r l p w h hB hn hf
end Go.Proofs.YtoanopgafihjiaaDoor
