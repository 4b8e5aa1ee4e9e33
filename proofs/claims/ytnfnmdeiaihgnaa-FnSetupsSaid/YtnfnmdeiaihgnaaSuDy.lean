/- Contracts of DrawSchemeOfSetup, DrawLayersAfter, DrawEffortOf, DrawCountChanges. -/
import Derived.Test.YtnfnmdeiaihgnaaSuDx
import Derived.Test.YtnfnmdeiaihgnaaSuDo
namespace Go.Proofs.Ytnfnmdeiaihgnaa
open Go.RowKit
set_option linter.unusedVariables false

/-- What the draws hand back: a set-up; a set-up and a number; several set-ups and a list. -/
def DuF (w : World) (e' : Ending) (w' : World) : Prop := ∃ (A : Option Addr) (n c : Nat) (li : List Un), e' = .returned (.slice A n c) ∧ OwnS Un.S w' w.heap.size w'.heap.size (.slice A n c) li ∧ n ≤ 7 ∧ Below w.heap.size w w'
def DlF (w : World) (e' : Ending) (w' : World) : Prop := ∃ (A : Option Addr) (n c : Nat) (li : List Un) (v : Int), e' = .returned (.tuple #[.slice A n c, .int .i64 v]) ∧ OwnS Un.S w' w.heap.size w'.heap.size (.slice A n c) li ∧ n ≤ 7 ∧ (-1 ≤ v ∧ v ≤ 10) ∧ Below w.heap.size w w'
def DeF (w : World) (e' : Ending) (w' : World) : Prop := ∃ (A : Option Addr) (n c : Nat) (us : List UB) (A2 : Option Addr) (m c2 : Nat) (o : List Int), e' = .returned (.tuple #[.slice A n c, .slice A2 m c2]) ∧ OwnU w' w.heap.size w'.heap.size A n c us ∧ n ≤ 8 ∧ Own I w' w.heap.size w'.heap.size 2 (.slice A2 m c2) o ∧ m ≤ 100 ∧ Below w.heap.size w w'
set_option maxRecDepth 100000 in
set_option maxHeartbeats 4000000 in
theorem DrawSos_any (N C B : Nat) (A : Option Addr) (l : List Int) (w : World) (hc : Rd U w B A N l) (hl : inByte l) (hB : B ≤ w.heap.size) (hN : N ≤ 1048576) :
    Calls Try.prog 19 #[.slice A N C] w fun e' w' => DuF w e' w' := by
  go_enter Try.func19, Try.ntmps19
  go_wp2_with fail
  refine (l01From_ex N C B A l w hc hl hB).mono ?_
  rintro e w1 ⟨g, rfl, hg, hs1, hb1⟩
  have hc1 := hc.below hb1 hB
  have z1 := hb1.size
  go_wp2_with fail
  refine (drawSu_any g N C B A l w1 ⟨hs1, hc1, by omega⟩ hl hN).mono ?_
  rintro e w2 ⟨A5, n, c, li, rfl, ho, hn, hs2, hq2⟩
  have HE := Lib.hid (show DuF w (.returned (.slice A5 n c)) w2 from ⟨A5, n, c, li, rfl, ho.mono z1 (Nat.le_refl _), hn, hb1.trans (hq2.below (by omega) (by omega))⟩)
  clear ho hs2 hq2 hs1 hb1 hc1
  go_wp2_with fail
  go_ret
  exact HE.out
set_option maxRecDepth 100000 in
set_option maxHeartbeats 4000000 in
theorem DrawLayers_any (N C B : Nat) (A : Option Addr) (l : List Int) (w : World) (hc : Rd U w B A N l) (hl : inByte l) (hB : B ≤ w.heap.size) (hN : N ≤ 1048576) :
    Calls Try.prog 22 #[.slice A N C] w fun e' w' => DlF w e' w' := by
  go_enter Try.func22, Try.ntmps22
  go_wp2_with fail
  refine (l01From_ex N C B A l w hc hl hB).mono ?_
  rintro e w1 ⟨g, rfl, hg, hs1, hb1⟩
  have hc1 := hc.below hb1 hB
  have z1 := hb1.size
  go_wp2_with fail
  refine (drawSu_any g N C B A l w1 ⟨hs1, hc1, by omega⟩ hl hN).mono ?_
  rintro e w2 ⟨A5, n, c, li, rfl, ho, hn, hs2, hq2⟩
  have hg1 := hs1.lt
  have z2 := hq2.size
  have y2 : IntKind.i64.wrap ((n : Int) + 2) = (n : Int) + 2 := IntWalk.i64_in _ (by omega)
  go_wp2_with fail
  refine (nextG_ex g N C B A l ((n : Int) + 2) _ hs2 hl hN (by omega) (by omega)).mono ?_
  rintro e w3 ⟨v, rfl, hv, hs3, hq3⟩
  have z3 := hq3.size
  go_wp2_with fail
  refine (nextG_ex g N C B A l 20 _ hs3 hl hN (by decide) (by decide)).mono ?_
  rintro e w4 ⟨t, rfl, ht, hs4, hq4⟩
  have z4 := hq4.size
  have t1 : t.tdiv 19 = t / 19 := Int.tdiv_eq_ediv_of_nonneg (by omega)
  have t2 : IntKind.i64.wrap (t / 19) = t / 19 := IntWalk.i64_in _ (by omega)
  have t3 : IntKind.i64.wrap (v - t / 19) = v - t / 19 := IntWalk.i64_in _ (by omega)
  have ho4 := ((ho.only hq3 (.inr (by omega))).only hq4 (.inr (by omega))).mono (lo' := w.heap.size) (hi' := w4.heap.size) z1 (by omega)
  have HE := Lib.hid (show DlF w (.returned (.tuple #[.slice A5 n c, .int .i64 (v - t / 19)])) w4 from ⟨A5, n, c, li, _, rfl, ho4, hn, by omega, hb1.trans (((hq2.trans hq3).trans hq4).below (by omega) (by omega))⟩)
  clear ho ho4 hs2 hq2 hs1 hb1 hc1 hs3 hs4 hq3 hq4
  go_wp2_with fail
  go_ret2
  exact HE.out
set_option maxRecDepth 100000 in
set_option maxHeartbeats 4000000 in
theorem DrawEffort_any (N C B : Nat) (A : Option Addr) (l : List Int) (w : World) (hc : Rd U w B A N l) (hl : inByte l) (hB : B ≤ w.heap.size) (hN : N ≤ 1048576) :
    Calls Try.prog 26 #[.slice A N C] w fun e' w' => DeF w e' w' := by
  go_enter Try.func26, Try.ntmps26
  go_wp2_with fail
  refine (l01From_ex N C B A l w hc hl hB).mono ?_
  rintro e w1 ⟨g, rfl, hg, hs1, hb1⟩
  have hc1 := hc.below hb1 hB
  have z1 := hb1.size
  have hg1 := hs1.lt
  go_wp2_with fail
  refine (drawSs_any g N C B A l w1 ⟨hs1, hc1, by omega⟩ hl hN).mono ?_
  rintro e w2 ⟨A5, n, c, us, rfl, ho, hn, hs2, hq2⟩
  have z2 := hq2.size
  go_wp2_with fail
  refine (nextG_ex g N C B A l 16 _ hs2 hl hN (by decide) (by decide)).mono ?_
  rintro e w3 ⟨v, rfl, hv, hs3, hq3⟩
  have z3 := hq3.size
  have ho3 := ho.only hq3 (.inr (by omega))
  have HQ := Lib.hid (hq2.trans hq3)
  clear hs2 hq2 ho
  by_cases h0 : v = 0
  · subst h0
    go_wp2_with fail
    refine (l01DrawOrder_any g N C B A l w3 hs3.s hs3.c hl hs3.b hN).mono ?_
    rintro e w4 ⟨A6, m, c6, o, rfl, hm, ho6, hs6, hq6⟩
    have z6 := hq6.size
    have ho4 := (ho3.only hq6 (.inr (by omega))).mono (lo' := w.heap.size) (hi' := w4.heap.size) z1 (by omega)
    have HE := Lib.hid (show DeF w (.returned (.tuple #[.slice A5 n c, .slice A6 m c6])) w4 from ⟨A5, n, c, us, A6, m, c6, o, rfl, ho4, hn, ho6.mono (by omega) (Nat.le_refl _), by omega, hb1.trans ((HQ.out.trans hq6).below (by omega) (by omega))⟩)
    clear ho4 ho3 hs1 hb1 hc1 hs3 hq3 hq6 hs6 ho6
    go_wp2_with fail
    go_ret2
    exact HE.out
  · have h0B : (v == 0) = false := by simpa using h0
    go_wp2_with fail
    refine (l01DrawOf_any g N C B n A l w3 hs3.s hs3.c hl hs3.b hN (by omega)).mono ?_
    rintro e w4 ⟨A6, m, c6, o, rfl, hm, ho6, hs6, hq6⟩
    have z6 := hq6.size
    have ho4 := (ho3.only hq6 (.inr (by omega))).mono (lo' := w.heap.size) (hi' := w4.heap.size) z1 (by omega)
    have HE := Lib.hid (show DeF w (.returned (.tuple #[.slice A5 n c, .slice A6 m c6])) w4 from ⟨A5, n, c, us, A6, m, c6, o, rfl, ho4, hn, ho6.mono (by omega) (Nat.le_refl _), by omega, hb1.trans ((HQ.out.trans hq6).below (by omega) (by omega))⟩)
    clear ho4 ho3 hs1 hb1 hc1 hs3 hq3 hq6 hs6 ho6
    go_wp2_with fail
    go_ret2
    exact HE.out
def DcF (w : World) (e' : Ending) (w' : World) : Prop := ∃ (A : Option Addr) (n c : Nat) (li : List Un) (A2 : Option Addr) (m c2 : Nat) (lj : List Un), e' = .returned (.tuple #[.slice A n c, .slice A2 m c2]) ∧ OwnS Un.S w' w.heap.size w'.heap.size (.slice A n c) li ∧ n ≤ 7 ∧ OwnS Un.S w' w.heap.size w'.heap.size (.slice A2 m c2) lj ∧ m ≤ 14 ∧ Below w.heap.size w w'
set_option maxRecDepth 100000 in
set_option maxHeartbeats 4000000 in
theorem DrawChanges_any (N C B : Nat) (A : Option Addr) (l : List Int) (w : World) (hc : Rd U w B A N l) (hl : inByte l) (hB : B ≤ w.heap.size) (hN : N ≤ 1048576) :
    Calls Try.prog 31 #[.slice A N C] w fun e' w' => DcF w e' w' := by
  go_enter Try.func31, Try.ntmps31
  go_wp2_with fail
  refine (l01From_ex N C B A l w hc hl hB).mono ?_
  rintro e w1 ⟨g, rfl, hg, hs1, hb1⟩
  have hc1 := hc.below hb1 hB
  have z1 := hb1.size
  have hg1 := hs1.lt
  go_wp2_with fail
  refine (drawSu_any g N C B A l w1 ⟨hs1, hc1, by omega⟩ hl hN).mono ?_
  rintro e w2 ⟨A5, n, c, li, rfl, ho, hn, hs2, hq2⟩
  have z2 := hq2.size
  go_wp2_with fail
  refine (nextG_ex g N C B A l 3 _ hs2 hl hN (by decide) (by decide)).mono ?_
  rintro e w3 ⟨v, rfl, hv, hs3, hq3⟩
  have z3 := hq3.size
  have ho3 := ho.only hq3 (.inr (by omega))
  have HB3 := Lib.hid (hb1.trans ((hq2.trans hq3).below (show w.heap.size ≤ g by omega) (by omega)))
  clear hs2 hq2 hq3 ho hs1 hb1 hc1
  by_cases h0 : v = 0
  · subst h0
    have hl4 := OwnS.lit0 Un.S w3
    have hs4 := hs3.alloc (.cells #[] 83)
    have ho4 : OwnS Un.S (w3.alloc (.cells #[] 83)) w1.heap.size w2.heap.size (.slice A5 n c) li := ho3.alloc _
    have z4 : (w3.alloc (.cells #[] 83)).heap.size = w3.heap.size + 1 := by simp
    have HB4 := Lib.hid (HB3.out.trans (((Below.refl w3.heap.size w3).alloc (Nat.le_refl _) (.cells #[] 83)).mono (show w.heap.size ≤ w3.heap.size by omega)))
    clear hs3 ho3
    go_wp2_with (at_builtin; refine wp_spreadUn _ rfl (.tmp 14) (.tmp 15) 28 rfl Try.underlying28 _ 0 0 _ w3.heap.size (w3.heap.size + 1) (by rfl) hl4 A5 n c _ _ (by rfl) ho4.rd (by omega) (by omega) ?_; intro A6 c6 w5 ho6 hm6; have hs5 := hs4.only hm6 (by omega); have z5 := hm6.size; have ho5 := ho4.only hm6 (.inl (by omega)); have HB5 := Lib.hid (HB4.out.trans (hm6.below (show w.heap.size ≤ w3.heap.size by omega) (by omega))); clear hm6 hs4 ho4 hl4)
    refine (drawSu_any g N C B A l w5 hs5 hl hN).mono ?_
    rintro e w6 ⟨A7, n7, c7, lk, rfl, ho7, hn7, hs6, hq6⟩
    have z6 := hq6.size
    have ha6 := ho6.only hq6 (.inr (by omega))
    rw [Nat.zero_add] at ha6
    have hb6 := ho5.only hq6 (.inr (by omega))
    have HB6 := Lib.hid (HB5.out.trans (hq6.below (show w.heap.size ≤ g by omega) (by omega)))
    clear ho5 ho6 hq6 hs5
    go_wp2_with (at_builtin; refine wp_spreadUn w6 rfl (.tmp 16) (.tmp 18) 28 rfl Try.underlying28 A6 n c6 _ w3.heap.size w5.heap.size (by rfl) ha6 A7 n7 c7 _ _ (by rfl) ho7.rd (by omega) (by omega) ?_; intro A8 c8 w7 ho8 hm8; have z8 := hm8.size; have hb8 := (hb6.only hm8 (.inl (by omega))).mono (lo' := w.heap.size) (hi' := w7.heap.size) z1 (by omega); have hc8 := ho8.mono (lo' := w.heap.size) (hi' := w7.heap.size) (by omega) (Nat.le_refl _); have HB8 := Lib.hid (HB6.out.trans (hm8.below (show w.heap.size ≤ w3.heap.size by omega) (by omega))); clear hm8 ho8 hb6 ha6)
    go_ret2
    exact ⟨A5, n, c, li, A8, _, c8, _, rfl, hb8, hn, hc8, by omega, HB8.out⟩
  · have h0B : (v == 0) = false := by simpa using h0
    go_wp2_with fail
    refine (drawSu_any g N C B A l w3 hs3 hl hN).mono ?_
    rintro e w6 ⟨A7, n7, c7, lk, rfl, ho7, hn7, hs6, hq6⟩
    have z6 := hq6.size
    have ha6 := (ho3.only hq6 (.inr (by omega))).mono (lo' := w.heap.size) (hi' := w6.heap.size) z1 (by omega)
    have HE := Lib.hid (show DcF w (.returned (.tuple #[.slice A5 n c, .slice A7 n7 c7])) w6 from ⟨A5, n, c, li, A7, n7, c7, lk, rfl, ha6, hn, ho7.mono (by omega) (Nat.le_refl _), by omega, HB3.out.trans (hq6.below (by omega) (by omega))⟩)
    clear ho3 hs3 hq6 hs6 ho7 ha6
    go_wp2_with fail
    go_ret2
    exact HE.out
end Go.Proofs.Ytnfnmdeiaihgnaa
