/- Contracts of the draws of a gang, of ups, of a run. -/
import Derived.Test.YtilfmnffdloneaaGaDw
namespace Go.Proofs.Ytilfmnffdloneaa
open Go.RowKit
set_option linter.unusedVariables false

/-- A gang as drawn. -/
def DgF1 (w : World) (e' : Ending) (w' : World) : Prop := ∃ (r : Int) (A5 : Option Addr) (n c : Nat) (li : List Int), e' = .returned (.tuple #[.int .i64 r, .slice A5 n c]) ∧ (0 ≤ r ∧ r ≤ 33) ∧ Rd I w' w'.heap.size A5 n li ∧ (1 ≤ n ∧ n ≤ 7 ∧ n ≤ c) ∧ Below w.heap.size w w'
/-- A gang and another row, as drawn. -/
def DgF3 (w : World) (e' : Ending) (w' : World) : Prop :=
  ∃ (r : Int) (A1 : Option Addr) (n1 c1 : Nat) (l1 : List Int) (A2 : Option Addr) (n2 c2 : Nat) (l2 : List Int), e' = .returned (.tuple #[.int .i64 r, .slice A1 n1 c1, .slice A2 n2 c2]) ∧ (0 ≤ r ∧ r ≤ 33) ∧ Rd I w' w'.heap.size A1 n1 l1 ∧ Rd I w' w'.heap.size A2 n2 l2 ∧ (1 ≤ n1 ∧ n1 ≤ 7 ∧ n1 ≤ c1 ∧ n2 ≤ 20 ∧ n2 ≤ c2) ∧ Below w.heap.size w w'
/-- A gang and a number, as drawn. -/
def DgFu (w : World) (e' : Ending) (w' : World) : Prop :=
  ∃ (r : Int) (A1 : Option Addr) (n1 c1 : Nat) (l1 : List Int) (z : Int), e' = .returned (.tuple #[.int .i64 r, .slice A1 n1 c1, .int .i64 z]) ∧ (0 ≤ r ∧ r ≤ 33) ∧ (-2 ≤ z ∧ z ≤ 1000100) ∧ Rd I w' w'.heap.size A1 n1 l1 ∧ (1 ≤ n1 ∧ n1 ≤ 7 ∧ n1 ≤ c1) ∧ Below w.heap.size w w'
theorem Ga.lrR_bd (r : Int) (q : List Int) : 0 ≤ Ga.lrR r q ∧ Ga.lrR r q ≤ 1000000 := by
  unfold Ga.lrR
  split
  · rename_i h
    obtain ⟨_, _, h3, _, h5⟩ := Ga.okG_iff.1 h
    have := (Ga.least_P h5 h3).1
    omega
  · omega
/-- What is known of the two rows: the quantities below block m, the other row from there on. -/
structure GkI (w : World) (g N C B : Nat) (A : Option Addr) (l : List Int) (A1 : Option Addr) (n1 c1 : Nat) (A2 : Option Addr) (n2 c2 : Nat) (m : Nat) (wr : World) : Prop where
  s : Src wr g A N C
  c : Rd U wr B A N l
  r1 : ∃ l1, Rd I wr m A1 n1 l1
  r2 : ∃ l2, Own I wr m wr.heap.size 2 (.slice A2 n2 c2) l2
  o : Only g (g + 1) w wr
  hg : g < w.heap.size
  hB : B ≤ g
  hm : w.heap.size ≤ m
  hm2 : m ≤ wr.heap.size
  k1 : 1 ≤ n1 ∧ n1 ≤ 7
  k2 : n1 ≤ c1
  k3 : n2 ≤ 20
  low : ∀ b o, A1 = some ⟨b, o, none⟩ → 0 < n1 → w.heap.size ≤ b
theorem Rd.onlyGa {α : Type} {enc : α → Value} {w w' : World} {B lo hi n : Nat} {A : Option Addr} {l : List α} (h : Rd enc w B A n l) (ho : Only lo hi w w') (hs : B ≤ w.heap.size) (hlow : ∀ b o, A = some ⟨b, o, none⟩ → 0 < n → hi ≤ b) : Rd enc w' B A n l :=
  ⟨h.1, fun hp => by
    obtain ⟨b, o, e, hb, hc⟩ := h.2 hp
    exact ⟨b, o, e, hb, fun j x hx => (World.cell?_of_block (ho.block b (by omega) (.inr (hlow b o e hp)))).trans (hc j x hx)⟩⟩
section
variable {w wr w' : World} {g N C B n1 c1 n2 c2 m : Nat} {A A1 A2 : Option Addr} {l : List Int}
theorem GkI.src (h : GkI w g N C B A l A1 n1 c1 A2 n2 c2 m wr) (hs : Src w' g A N C) (hq : Only g (g + 1) wr w') : GkI w g N C B A l A1 n1 c1 A2 n2 c2 m w' := by
  have a1 := h.hg
  have a2 := h.hB
  have a3 := h.o.size
  have a4 := h.hm
  have a5 := h.hm2
  obtain ⟨l1, h1⟩ := h.r1
  obtain ⟨l2, h2⟩ := h.r2
  exact ⟨hs, h.c.only hq (by omega) (by omega), ⟨l1, h1.onlyGa hq a5 fun b o e hp => by have := h.low b o e hp; omega⟩, ⟨l2, (h2.only hq (.inr (by omega))).mono (Nat.le_refl _) hq.size⟩, h.o.trans hq, a1, a2, a4, Nat.le_trans a5 hq.size, h.k1, h.k2, h.k3, h.low⟩
theorem GkI.set {l2 : List Int} {A3 : Option Addr} {n3 c3 : Nat} (h : GkI w g N C B A l A1 n1 c1 A2 n2 c2 m wr) (ho : Own I w' m w'.heap.size 2 (.slice A3 n3 c3) l2) (hO : Only m wr.heap.size wr w') (hn : n3 ≤ 20) : GkI w g N C B A l A1 n1 c1 A3 n3 c3 m w' := by
  have a1 := h.hg
  have a2 := h.hB
  have a3 := h.o.size
  have a4 := h.hm
  have a5 := h.hm2
  obtain ⟨l1, h1⟩ := h.r1
  exact ⟨h.s.only hO (.inl (by omega)), h.c.only hO (by omega) (by omega), ⟨l1, h1.only hO (Nat.le_refl _) a5⟩, ⟨l2, ho⟩, h.o.then_only hO a4, a1, a2, a4, Nat.le_trans a5 hO.size, h.k1, h.k2, hn, h.low⟩
/-- Another row, in new blocks. -/
theorem GkI.new {A3 : Option Addr} {n3 c3 : Nat} {l3 : List Int} (h : GkI w g N C B A l A1 n1 c1 A2 n2 c2 m wr) (hb : Below wr.heap.size wr w') (ho : Own I w' wr.heap.size w'.heap.size 2 (.slice A3 n3 c3) l3) (hn : n3 ≤ 20) : GkI w g N C B A l A1 n1 c1 A3 n3 c3 m w' := by
  have a1 := h.hg
  have a2 := h.hB
  have a3 := h.o.size
  have a4 := h.hm
  have a5 := h.hm2
  obtain ⟨l1, h1⟩ := h.r1
  exact ⟨h.s.below hb h.s.lt, h.c.below hb (by omega), ⟨l1, h1.below hb a5⟩, ⟨l3, ho.mono a5 (Nat.le_refl _)⟩, h.o.then_below hb (by omega), a1, a2, a4, Nat.le_trans a5 hb.size, h.k1, h.k2, hn, h.low⟩
end
set_option maxRecDepth 100000 in
set_option maxHeartbeats 4000000 in
theorem DrawBestUps_any (N C B : Nat) (A : Option Addr) (l : List Int) (w : World) (hc : Rd U w B A N l) (hl : inByte l) (hB : B ≤ w.heap.size) (hN : N ≤ 1048576) :
    Calls Try.prog 14 #[.slice A N C] w fun e' w' => DgF1 w e' w' := by
  go_enter Try.func14, Try.ntmps14
  go_wp2_with fail
  refine (l01From_ex N C B A l w hc hl hB).mono ?_
  rintro e w1 ⟨g, rfl, hg, hs1, hb1⟩
  have hc1 := hc.below hb1 hB
  have z1 := hb1.size
  go_wp2_with fail
  refine (drawGa_any g N C B A l w1 hs1 hc1 hl (by omega) hN).mono ?_
  rintro e w2 ⟨r, A1, n1, c1, l1, rfl, hr, o1, hn1, hs2, hq2⟩
  have HE := Lib.hid (show DgF1 w (.returned (.tuple #[.int .i64 r, .slice A1 n1 c1])) w2 from ⟨r, A1, n1, c1, l1, rfl, hr, o1.rd, ⟨hn1.1, hn1.2, o1.cap⟩, hb1.trans (hq2.below (by omega) (by omega))⟩)
  clear o1 hs2 hq2 hs1 hb1 hc1 hn1 hr
  go_wp2_with fail
  go_ret2
  exact HE.out
set_option maxRecDepth 100000 in
set_option maxHeartbeats 4000000 in
theorem DrawRunFor_any (N C B : Nat) (A : Option Addr) (l : List Int) (w : World) (hc : Rd U w B A N l) (hl : inByte l) (hB : B ≤ w.heap.size) (hN : N ≤ 1048576) :
    Calls Try.prog 19 #[.slice A N C] w fun e' w' => DgF3 w e' w' := by
  obtain ⟨i0, hi0, hz0, hz1, hz2⟩ := info_parts infoI
  go_enter Try.func19, Try.ntmps19
  go_wp2_with fail
  refine (l01From_ex N C B A l w hc hl hB).mono ?_
  rintro e w1 ⟨g, rfl, hg, hs1, hb1⟩
  have hc1 := hc.below hb1 hB
  have z1 := hb1.size
  go_wp2_with fail
  refine (drawGa_any g N C B A l w1 hs1 hc1 hl (by omega) hN).mono ?_
  rintro e w2 ⟨r, A1, n1, c1, l1, rfl, hr, o1, hn1, hs2, hq2⟩
  have zq2 := hq2.size
  have hcap1 := o1.cap
  have hlow : ∀ b o, A1 = some ⟨b, o, none⟩ → 0 < n1 → w1.heap.size ≤ b := fun b o e hp => by
    obtain ⟨g0, _, e0, hg0, _⟩ := o1.at_ (k := 0) hp
    rw [e] at e0
    injection e0 with e0
    injection e0 with e0 _ _
    omega
  have hP0 : GkI w1 g N C B A l A1 n1 c1 none 0 0 w2.heap.size w2 := ⟨hs2, hc1.only hq2 (by omega) (by omega), ⟨l1, o1.rd⟩, ⟨[], Own.nil_⟩, hq2, by have := hs1.lt; omega, by omega, zq2, Nat.le_refl _, hn1, hcap1, by omega, hlow⟩
  have hP3 : GkI w1 g N C B A l A1 n1 c1 (some ⟨w2.heap.size, 0, none⟩) 0 0 w2.heap.size (w2.alloc (.cells #[] 2)) := hP0.new ((Below.refl _ _).alloc (Nat.le_refl _) _) ((Own.lit0 I w2 2).mono (Nat.le_refl _) (by simp)) (by omega)
  have HB1 := Lib.hid hb1
  have el : IntKind.i64.wrap (r - (n1 : Int)) = r - (n1 : Int) := IntWalk.i64_in _ (by omega)
  have HF : ∀ (W : World) (A2 : Option Addr) (n2 c2 : Nat), GkI w1 g N C B A l A1 n1 c1 A2 n2 c2 w2.heap.size W → DgF3 w (.returned (.tuple #[.int .i64 r, .slice A1 n1 c1, .slice A2 n2 c2])) W := fun W A2 n2 c2 h => by
    obtain ⟨m1, h1⟩ := h.r1
    obtain ⟨m2, h2⟩ := h.r2
    exact ⟨r, A1, n1, c1, m1, A2, n2, c2, m2, rfl, hr, h1.more h.hm2, h2.rd, ⟨h.k1.1, h.k1.2, h.k2, h.k3, h2.cap⟩, HB1.out.trans (h.o.below (by omega) (by omega))⟩
  have HF' := Lib.hid HF
  clear o1 hs2 hq2 hs1 hb1 hc1 hlow hP0 HF hc
  go_wp2_with fail
  go_loopw [8, 9, 10] (fun p t i wr => ∃ (k : Nat) (A5 : Option Addr) (c5 : Nat) (y : Int), k ≤ n1 ∧ i = .int .i64 k ∧ p = .slice A5 k c5 ∧ t = .int .i64 y ∧ (-7 ≤ y ∧ y ≤ 33) ∧ GkI w1 g N C B A l A1 n1 c1 A5 k c5 w2.heap.size wr) (fun _ _ i _ => n1 - (intOf i).toNat)
  case atStart => exact ⟨0, _, _, _, Nat.zero_le _, rfl, rfl, rfl, by omega, hP3⟩
  case round =>
    clear hP3
    obtain ⟨k, A5, c5, y, hk, rfl, rfl, rfl, hy, hI⟩ := hrel
    have hzr := hI.o.size
    have hm2r := hI.hm2
    by_cases hkp : k < n1
    · have ey : IntKind.i64.wrap (y + 1) = y + 1 := IntWalk.i64_in _ (by omega)
      have hkI : (k : Int) < n1 := by omega
      go_wp2_with fail
      refine (l01Next_any g N C B A l (y + 1) _ hI.s hI.c hl (by omega) hN (by omega)).mono ?_
      rintro e w6 ⟨v, rfl, v0, v1, v9, hs6, hq6⟩
      have hI6 := hI.src hs6 hq6
      have hv6 : v ≤ 33 ∧ -7 ≤ y - v ∧ y - v ≤ 33 := by
        rcases Int.lt_or_le (y + 1) 1 with h1 | h1
        · have := v9 (by omega); omega
        · have := v1 h1; omega
      have ev : IntKind.i64.wrap (1 + v) = 1 + v := IntWalk.i64_in _ (by omega)
      have ed : IntKind.i64.wrap (y - v) = y - v := IntWalk.i64_in _ (by omega)
      have hz6 := hI6.hm2
      obtain ⟨li, ho6⟩ := hI6.r2
      clear hI hs6 hq6 v1 v9
      go_wp2_with (at_builtin; refine wp_push (enc := I) w6 rfl (.tmp 34) (.tmp 37) 24 rfl 2 i0 _ 8 Try.underlying24 hi0 hz0 hz1 hz2 rfl A5 k c5 _ _ _ (by rfl) ho6 (1 + v) (by rfl) rfl (by omega) (by omega) hz6 ?_; intro A7 c7 w7 ho7 hm7; have hI7 := Lib.hid (hI6.set ho7 hm7 (by omega)); clear ho7 hm7)
      go_roundw
      case rel => exact ⟨k + 1, A7, c7, y - v, by omega, by go_num, rfl, rfl, hv6.2, hI7.out⟩
      case measure => simp [intOf]; omega
    · obtain rfl : k = n1 := by omega
      have hkI : ¬ ((k : Int) < k) := by omega
      go_wp2_with fail
      refine (l01Next_any g N C B A l 20 _ hI.s hI.c hl (by omega) hN (by omega)).mono ?_
      rintro e w5 ⟨m, rfl, m0, m1, m9, hs5, hq5⟩
      have hI5 := hI.src hs5 hq5
      clear hI hs5 hq5 m1 m9
      by_cases m_0 : m = 0
      · subst m_0
        have er : IntKind.i64.wrap (r + 1) = r + 1 := IntWalk.i64_in _ (by omega)
        go_wp2_with fail
        refine (pick_lit g N C B A l [0, r + 1] _ _ w5 rfl rfl hI5.s hI5.c hl (by omega) hN (by simp) (by simp)).mono ?_
        rintro e w6 ⟨x, rfl, hx, hs6, hq6⟩
        have hI6 := hI5.src hs6 hq6
        obtain ⟨li, ho⟩ := hI6.r2
        have hn0 : 0 < k := by omega
        obtain ⟨gq, z, rfl, hg1, hg2, hg3, hz, cz, fz⟩ := ho.at_ (k := 0) hn0
        have hst := ho.set_ (k := 0) x
        have HE := Lib.hid (HF'.out _ _ _ _ (hI6.set (hst.1.mono (Nat.le_refl _) (show w6.heap.size ≤ (w6.setCell ⟨gq, 0, none⟩ (I x)).heap.size by simp)) hst.2 (by omega)))
        have hnI : (0 : Int) < k := by omega
        clear hI5 hI6 hs6 hq6 hx ho hst hz
        go_wp2_with fail
        go_ret3
        exact HE.out
      have m_0' : (m == 0) = false := by simpa using m_0
      by_cases m_1 : m = 1
      · subst m_1
        have hz6 := hI5.hm2
        obtain ⟨li, ho6⟩ := hI5.r2
        go_wp2_with (at_builtin; refine wp_push (enc := I) w5 rfl (.tmp 55) (.tmp 56) 24 rfl 2 i0 _ 8 Try.underlying24 hi0 hz0 hz1 hz2 rfl A5 k c5 _ _ _ (by rfl) ho6 1 (by rfl) rfl (by omega) (by omega) hz6 ?_; intro A7 c7 w7 ho7 hm7; have HE := Lib.hid (HF'.out _ _ _ _ (hI5.set ho7 hm7 (by omega))); clear ho7 hm7)
        go_ret3
        exact HE.out
      · have m_1' : (m == 1) = false := by simpa using m_1
        have HE := Lib.hid (HF'.out _ _ _ _ hI5)
        clear hI5
        go_wp2_with fail
        go_ret3
        exact HE.out
set_option maxRecDepth 100000 in
set_option maxHeartbeats 4000000 in
theorem DrawUpsFor_any (N C B : Nat) (A : Option Addr) (l : List Int) (w : World) (hc : Rd U w B A N l) (hl : inByte l) (hB : B ≤ w.heap.size) (hN : N ≤ 1048576) :
    Calls Try.prog 24 #[.slice A N C] w fun e' w' => DgFu w e' w' := by
  go_enter Try.func24, Try.ntmps24
  go_wp2_with fail
  refine (l01From_ex N C B A l w hc hl hB).mono ?_
  rintro e w1 ⟨g, rfl, hg, hs1, hb1⟩
  have hc1 := hc.below hb1 hB
  have z1 := hb1.size
  go_wp2_with fail
  refine (drawGa_any g N C B A l w1 hs1 hc1 hl (by omega) hN).mono ?_
  rintro e w2 ⟨r, A1, n1, c1, l1, rfl, hr, o1, hn1, hs2, hq2⟩
  have zq2 := hq2.size
  have hcap1 := o1.cap
  obtain ⟨R, hR⟩ : ∃ R, Ga.lrR r l1 = R := ⟨_, rfl⟩
  obtain ⟨Cd, hCd⟩ : ∃ Cd, Ga.lrC r l1 = Cd := ⟨_, rfl⟩
  have hlr := specGaLr_any r A1 n1 c1 w2.heap.size l1 R Cd w2 o1.rd (Nat.le_refl _) (by omega) hR hCd
  have hrr : 0 ≤ R ∧ R ≤ 1000000 := hR ▸ Ga.lrR_bd r l1
  have hrd := o1.rd
  have hc2 := hc1.only hq2 (by omega) (by omega)
  have hlow : ∀ b o, A1 = some ⟨b, o, none⟩ → 0 < n1 → w1.heap.size ≤ b := fun b o e hp => by
    obtain ⟨g0, _, e0, hg0, _⟩ := o1.at_ (k := 0) hp
    rw [e] at e0
    injection e0 with e0
    injection e0 with e0 _ _
    omega
  have hgl := hs1.lt
  clear o1 hR hCd hc1 hc hs1
  go_wp2_with fail
  refine hlr.mono ?_
  rintro e w3 ⟨rfl, hb3⟩
  have z3 := hb3.size
  have hP : GkI w1 g N C B A l A1 n1 c1 none 0 0 w3.heap.size w3 := ⟨hs2.below hb3 hs2.lt, hc2.below hb3 (by omega), ⟨l1, (hrd.below hb3 (Nat.le_refl _)).more z3⟩, ⟨[], Own.nil_⟩, hq2.then_below hb3 (by omega), hgl, by omega, by omega, Nat.le_refl _, hn1, hcap1, by omega, hlow⟩
  have HB1 := Lib.hid hb1
  have HF : ∀ (W : World) (z : Int), GkI w1 g N C B A l A1 n1 c1 none 0 0 w3.heap.size W → (-2 ≤ z ∧ z ≤ 1000100) → DgFu w (.returned (.tuple #[.int .i64 r, .slice A1 n1 c1, .int .i64 z])) W := fun W z h hz => by
    obtain ⟨m1, h1⟩ := h.r1
    exact ⟨r, A1, n1, c1, m1, z, rfl, hr, hz, h1.more h.hm2, ⟨h.k1.1, h.k1.2, h.k2⟩, HB1.out.trans (h.o.below (by omega) (by omega))⟩
  have HF' := Lib.hid HF
  clear hlr hrd hc2 hlow hb1 hb3 hs2 hq2 HF
  by_cases hcd : Cd = 0
  · subst hcd
    go_wp2_with fail
    refine (l01Next_any g N C B A l 6 _ hP.s hP.c hl (by omega) hN (by omega)).mono ?_
    rintro e w4 ⟨t, rfl, t0, t1, t9, hs4, hq4⟩
    have hP4 := hP.src hs4 hq4
    clear hP hs4 hq4 t1 t9
    by_cases ht : t = 0
    · subst ht
      go_wp2_with fail
      refine (l01Next_any g N C B A l 900 _ hP4.s hP4.c hl (by omega) hN (by omega)).mono ?_
      rintro e w5 ⟨v, rfl, v0, v1, v9, hs5, hq5⟩
      have v2 : v < 900 := v1 (by decide)
      have hP5 := hP4.src hs5 hq5
      clear hP4 hs5 hq5 v1 v9
      go_wp2_with fail
      refine (pick_lit g N C B A l [0, 1, v, 1000000, 1000001] _ _ w5 rfl rfl hP5.s hP5.c hl (by omega) hN (by simp) (by simp)).mono ?_
      rintro e w6 ⟨x, rfl, hx, hs6, hq6⟩
      have HE := Lib.hid (HF'.out _ (x) (hP5.src hs6 hq6) (by simp at hx; omega))
      clear hP5 hs6 hq6 hx
      go_wp2_with fail
      go_ret3
      exact HE.out
    · have ht' : (t == 0) = false := by simpa using ht
      go_wp2_with fail
      refine (l01Next_any g N C B A l 5 _ hP4.s hP4.c hl (by omega) hN (by omega)).mono ?_
      rintro e w5 ⟨v, rfl, v0, v1, v9, hs5, hq5⟩
      have v2 : v < 5 := v1 (by decide)
      have e1 : IntKind.i64.wrap (R + v) = R + v := IntWalk.i64_in _ (by omega)
      have e2 : IntKind.i64.wrap (R + v - 2) = R + v - 2 := IntWalk.i64_in _ (by omega)
      have HE := Lib.hid (HF'.out _ (R + v - 2) (hP4.src hs5 hq5) (by omega))
      clear hP4 hs5 hq5 v1 v9
      go_wp2_with fail
      go_ret3
      exact HE.out
  · have hcd' : (Cd == 0) = false := by simpa using hcd
    obtain ⟨hP4, h_⟩ : GkI w1 g N C B A l A1 n1 c1 none 0 0 w3.heap.size w3 ∧ True := ⟨hP, trivial⟩
    clear hP h_
    go_wp2_with fail
    refine (l01Next_any g N C B A l 900 _ hP4.s hP4.c hl (by omega) hN (by omega)).mono ?_
    rintro e w5 ⟨v, rfl, v0, v1, v9, hs5, hq5⟩
    have v2 : v < 900 := v1 (by decide)
    have hP5 := hP4.src hs5 hq5
    clear hP4 hs5 hq5 v1 v9
    go_wp2_with fail
    refine (pick_lit g N C B A l [0, 1, v, 1000000, 1000001] _ _ w5 rfl rfl hP5.s hP5.c hl (by omega) hN (by simp) (by simp)).mono ?_
    rintro e w6 ⟨x, rfl, hx, hs6, hq6⟩
    have HE := Lib.hid (HF'.out _ (x) (hP5.src hs6 hq6) (by simp at hx; omega))
    clear hP5 hs6 hq6 hx
    go_wp2_with fail
    go_ret3
    exact HE.out
end Go.Proofs.Ytilfmnffdloneaa
