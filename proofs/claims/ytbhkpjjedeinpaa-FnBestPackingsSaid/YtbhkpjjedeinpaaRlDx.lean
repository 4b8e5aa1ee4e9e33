/- Contracts of the draws of a packing, and of the draws out of a code. -/
import Derived.Test.YtbhkpjjedeinpaaRlDw
namespace Go.Proofs.Ytbhkpjjedeinpaa
open Go.RowKit
set_option linter.unusedVariables false

theorem to_below10 {P : Program} {f : FuncId} {args : Array Value} {w : World} {v : Ending} (h : Calls P f args w fun e w' => e = v ∧ w = w') : Calls P f args w fun e w' => e = v ∧ Below w.heap.size w w' :=
  h.mono fun e w' ⟨he, hw⟩ => ⟨he, by rw [← hw]; exact Below.refl _ _⟩
def DrPk (w : World) (g N C : Nat) (A : Option Addr) (e' : Ending) (w' : World) : Prop :=
  ∃ (r : Int) (A1 : Option Addr) (n1 c1 : Nat) (l1 : List Int) (A2 : Option Addr) (n2 c2 : Nat) (l2 : List Int), e' = .returned (.tuple #[.int .i64 r, .slice A1 n1 c1, .slice A2 n2 c2]) ∧ (-1000000 ≤ r ∧ r ≤ 1000000) ∧ Rd I w' w'.heap.size A1 n1 l1 ∧ Rd I w' w'.heap.size A2 n2 l2 ∧ (n1 ≤ 20 ∧ n1 ≤ c1 ∧ n2 ≤ 20 ∧ n2 ≤ c2) ∧ Src w' g A N C ∧ Only g (g + 1) w w'
/-- What is known of the two rows: the strips below block m, the packing from there on. -/
structure PkI (w : World) (g N C B : Nat) (A : Option Addr) (l : List Int) (A1 : Option Addr) (n1 c1 : Nat) (A2 : Option Addr) (n2 c2 : Nat) (m : Nat) (wr : World) : Prop where
  s : Src wr g A N C
  c : Rd U wr B A N l
  r1 : ∃ l1, Rd I wr m A1 n1 l1
  r2 : ∃ l2, Own I wr m wr.heap.size 2 (.slice A2 n2 c2) l2
  o : Only g (g + 1) w wr
  hg : g < w.heap.size
  hB : B ≤ g
  hm : w.heap.size ≤ m
  hm2 : m ≤ wr.heap.size
  k1 : n1 ≤ 20
  k2 : n1 ≤ c1
  k3 : n2 ≤ 20
  low : ∀ b o, A1 = some ⟨b, o, none⟩ → 0 < n1 → w.heap.size ≤ b
theorem Rd.only2 {α : Type} {enc : α → Value} {w w' : World} {B lo hi n : Nat} {A : Option Addr} {l : List α} (h : Rd enc w B A n l) (ho : Only lo hi w w') (hs : B ≤ w.heap.size) (hlow : ∀ b o, A = some ⟨b, o, none⟩ → 0 < n → hi ≤ b) : Rd enc w' B A n l :=
  ⟨h.1, fun hp => by
    obtain ⟨b, o, e, hb, hc⟩ := h.2 hp
    exact ⟨b, o, e, hb, fun j x hx => (World.cell?_of_block (ho.block b (by omega) (.inr (hlow b o e hp)))).trans (hc j x hx)⟩⟩
section
variable {w wr w' : World} {g N C B n1 c1 n2 c2 m : Nat} {A A1 A2 : Option Addr} {l : List Int}
theorem PkI.src (h : PkI w g N C B A l A1 n1 c1 A2 n2 c2 m wr) (hs : Src w' g A N C) (hq : Only g (g + 1) wr w') : PkI w g N C B A l A1 n1 c1 A2 n2 c2 m w' := by
  have a1 := h.hg
  have a2 := h.hB
  have a3 := h.o.size
  have a4 := h.hm
  have a5 := h.hm2
  obtain ⟨l1, h1⟩ := h.r1
  obtain ⟨l2, h2⟩ := h.r2
  exact ⟨hs, h.c.only hq (by omega) (by omega), ⟨l1, h1.only2 hq a5 fun b o e hp => by have := h.low b o e hp; omega⟩, ⟨l2, (h2.only hq (.inr (by omega))).mono (Nat.le_refl _) hq.size⟩, h.o.trans hq, a1, a2, a4, Nat.le_trans a5 hq.size, h.k1, h.k2, h.k3, h.low⟩
theorem PkI.set {l2 : List Int} (h : PkI w g N C B A l A1 n1 c1 A2 n2 c2 m wr) (ho : Own I w' m w'.heap.size 2 (.slice A2 n2 c2) l2) (hO : Only m wr.heap.size wr w') : PkI w g N C B A l A1 n1 c1 A2 n2 c2 m w' := by
  have a1 := h.hg
  have a2 := h.hB
  have a3 := h.o.size
  have a4 := h.hm
  have a5 := h.hm2
  obtain ⟨l1, h1⟩ := h.r1
  exact ⟨h.s.only hO (.inl (by omega)), h.c.only hO (by omega) (by omega), ⟨l1, h1.only hO (Nat.le_refl _) a5⟩, ⟨l2, ho⟩, h.o.then_only hO a4, a1, a2, a4, Nat.le_trans a5 hO.size, h.k1, h.k2, h.k3, h.low⟩
/-- Another packing, in new blocks. -/
theorem PkI.new {A3 : Option Addr} {n3 c3 : Nat} {l3 : List Int} (h : PkI w g N C B A l A1 n1 c1 A2 n2 c2 m wr) (hb : Below wr.heap.size wr w') (ho : Own I w' wr.heap.size w'.heap.size 2 (.slice A3 n3 c3) l3) (hn : n3 ≤ 20) : PkI w g N C B A l A1 n1 c1 A3 n3 c3 m w' := by
  have a1 := h.hg
  have a2 := h.hB
  have a3 := h.o.size
  have a4 := h.hm
  have a5 := h.hm2
  obtain ⟨l1, h1⟩ := h.r1
  exact ⟨h.s.below hb h.s.lt, h.c.below hb (by omega), ⟨l1, h1.below hb a5⟩, ⟨l3, ho.mono a5 (Nat.le_refl _)⟩, h.o.then_below hb (by omega), a1, a2, a4, Nat.le_trans a5 hb.size, h.k1, h.k2, hn, h.low⟩
theorem PkI.done {r : Int} (h : PkI w g N C B A l A1 n1 c1 A2 n2 c2 m wr) (hr : -1000000 ≤ r ∧ r ≤ 1000000) : DrPk w g N C A (.returned (.tuple #[.int .i64 r, .slice A1 n1 c1, .slice A2 n2 c2])) wr := by
  obtain ⟨l1, h1⟩ := h.r1
  obtain ⟨l2, h2⟩ := h.r2
  exact ⟨r, A1, n1, c1, l1, A2, n2, c2, l2, rfl, hr, h1.more h.hm2, h2.rd, ⟨h.k1, h.k2, h.k3, h2.cap⟩, h.s, h.o⟩
end
set_option maxRecDepth 100000 in
set_option maxHeartbeats 16000000 in
theorem drawPk_any (g N C B : Nat) (A : Option Addr) (l : List Int) (w : World) (hs : Src w g A N C) (hc : Rd U w B A N l) (hl : inByte l) (hB : B ≤ g) (hN : N ≤ 1048576) :
    Calls Try.prog 50 #[.pointer (some ⟨g, 0, none⟩)] w fun e' w' => DrPk w g N C A e' w' := by
  have hlt := hs.lt
  go_enter Try.func50, Try.ntmps50
  go_wp2_with fail
  refine (drawRl_any g N C B A l w hs hc hl hB hN).mono ?_
  rintro e w1 ⟨r, A1, n1, c1, s, rfl, hr, o1, hn1, hs1, hq1⟩
  have hz1 := hq1.size
  have HL := Lib.hid o1.rd.1
  have hcap1 := o1.cap
  obtain ⟨R, hR⟩ : ∃ R, Rl.ffR r s = R := ⟨_, rfl⟩
  obtain ⟨Cd, hCd⟩ : ∃ C, Rl.ffC r s = C := ⟨_, rfl⟩
  have hff := fun W (hW : Rd I W w1.heap.size A1 n1 s) (hz : w1.heap.size ≤ W.heap.size) => specFf_any' r A1 n1 c1 w1.heap.size s R Cd W hW hz (by omega) hR hCd
  have HR := Lib.hid hR
  have HCd := Lib.hid hCd
  have hc1 := hc.only hq1 (by omega) (by omega)
  have hlow : ∀ b o, A1 = some ⟨b, o, none⟩ → 0 < n1 → w.heap.size ≤ b := fun b o e hp => by
    obtain ⟨g0, _, e0, hg0, _⟩ := o1.at_ (k := 0) hp
    rw [e] at e0
    injection e0 with e0
    injection e0 with e0 _ _
    omega
  have HLOW := Lib.hid hlow
  clear hs hc hR hCd hlow
  go_wp2_with fail
  refine (hff _ o1.rd (Nat.le_refl _)).mono ?_
  rintro e w2 ⟨A2, n2, c2, rfl, o2, hn2, hb2⟩
  have hrd1 := (o1.rd).below hb2 (Nat.le_refl _)
  have hz2 := hb2.size
  have HS2 := Lib.hid (hs1.below hb2 hs1.lt)
  have HC2 := Lib.hid (hc1.below hb2 (by omega))
  have HO2 := Lib.hid (hq1.then_below hb2 (by omega))
  clear hff o1 hs1 hq1 hb2 hc1
  obtain ⟨d, hd⟩ : ∃ d, Rl.okT r s = d := ⟨_, rfl⟩
  have HD := Lib.hid hd
  clear hd
  cases d
  · obtain rfl : Cd = 1 := HCd.out.symm.trans (Rl.ff_no HD.out).1
    have hP : PkI w g N C B A l A1 n1 c1 none 0 0 w2.heap.size w2 := ⟨HS2.out, HC2.out, ⟨s, hrd1.more hz2⟩, ⟨[], Own.nil_⟩, HO2.out, hlt, hB, by omega, Nat.le_refl _, hn1, hcap1, by omega, HLOW.out⟩
    have hlit : Own I (w2.alloc (.cells #[.int .i64 0] 2)) w2.heap.size (w2.heap.size + 1) 2 (.slice (some ⟨w2.heap.size, 0, none⟩) 1 1) [(0 : Int)] := by
      refine ⟨⟨by simp, .inr ⟨w2.heap.size, 1, #[.int .i64 0], rfl, Nat.le_refl _, heap_alloc_new w2 _, by simp, by unfold maxLen; omega, by simp, by simp⟩⟩, fun k hk => by simp [Value.ownBlock] at hk; omega⟩
    have HE := Lib.hid ((hP.new ((Below.refl _ _).alloc (Nat.le_refl _) _) (hlit.mono (Nat.le_refl _) (by simp)) (by omega)).done hr)
    clear hP hlit o2 hrd1
    go_wp2_with fail
    go_ret3
    exact HE.out
  · obtain rfl : Cd = 0 := HCd.out.symm.trans (Rl.ff_yes HD.out).1
    have hnn : n2 = n1 := by
      have h1 := o2.rd.1
      rw [← HR.out, (Rl.ff_yes HD.out).2.1, (Rl.isP_iff.1 (Rl.ff_pack HD.out)).2.1, HL.out] at h1
      exact h1.symm
    have hP : PkI w g N C B A l A1 n1 c1 A2 n2 c2 w1.heap.size w2 := ⟨HS2.out, HC2.out, ⟨s, hrd1⟩, ⟨R, o2⟩, HO2.out, hlt, hB, hz1, hz2, hn1, hcap1, by omega, HLOW.out⟩
    have HRD1 := Lib.hid hrd1
    clear o2 hrd1 hnn
    go_wp2_with fail
    refine (l01Next_any g N C B A l 3 _ hP.s hP.c hl hB hN (by omega)).mono ?_
    rintro e w3 ⟨v, rfl, v0, v1, v9, hs3, hq3⟩
    have hP3 := hP.src hs3 hq3
    have hrd3 : Rd I w3 w1.heap.size A1 n1 s := HRD1.out.only2 hq3 hz2 fun b o e hp => by have := HLOW.out b o e hp; omega
    have hz3 := hq3.size
    clear hP hs3 hq3 v1 v9 HRD1
    by_cases hv : v = 0
    · subst hv
      obtain ⟨R2, hR2⟩ : ∃ R, Rl.lfR r s = R := ⟨_, rfl⟩
      have hlf := fun W (hW : Rd I W w1.heap.size A1 n1 s) (hz : w1.heap.size ≤ W.heap.size) => specLf_any' r A1 n1 c1 w1.heap.size s R2 0 W hW hz (by omega) hR2 HCd.out
      have HR2 := Lib.hid hR2
      clear hR2
      go_wp2_with fail
      refine (hlf _ hrd3 (by omega)).mono ?_
      rintro e w4 ⟨A4, n4, c4, rfl, o4, hn4, hb4⟩
      have hn41 : n4 = n1 := by
        have h1 := o4.rd.1
        rw [← HR2.out, (Rl.ff_yes HD.out).2.2, (Rl.isP_iff.1 (Rl.lf_pack HD.out)).2.1, HL.out] at h1
        exact h1.symm
      have hP4 := hP3.new hb4 o4 (by omega)
      clear hP3 hlf hrd3 o4 hb4 hn41
      by_cases hn0 : n4 = 0
      · have hnI : ¬ (0 < (n4 : Int)) := by omega
        have HE := Lib.hid (hP4.done hr)
        clear hP4
        subst hn0
        go_wp2_with fail
        go_ret3
        exact HE.out
      · have hnI : 0 < (n4 : Int) := by omega
        have hn20 := hP4.k3
        go_wp2_with fail
        refine (l01Next_any g N C B A l 4 _ hP4.s hP4.c hl hB hN (by omega)).mono ?_
        rintro e w5 ⟨t, rfl, t0, t1, t9, hs5, hq5⟩
        have hP5 := hP4.src hs5 hq5
        clear hP4 hs5 hq5 t1 t9
        by_cases ht : t = 0
        · subst ht
          go_wp2_with fail
          refine (l01Next_any g N C B A l (n4 : Int) _ hP5.s hP5.c hl hB hN (by omega)).mono ?_
          rintro e w6 ⟨y, rfl, y0, y1, y9, hs6, hq6⟩
          have y2 : y < (n4 : Int) := y1 (by omega)
          obtain ⟨j, rfl⟩ : ∃ j : Nat, y = (j : Int) := ⟨y.toNat, by omega⟩
          have hj : j < n4 := by omega
          have hP6 := hP5.src hs6 hq6
          clear hP5 hs6 hq6 y1 y9 y0 y2
          go_wp2_with fail
          refine (l01Next_any g N C B A l 5 _ hP6.s hP6.c hl hB hN (by omega)).mono ?_
          rintro e w7 ⟨z, rfl, z0, z1, z9, hs7, hq7⟩
          have z2 : z < 5 := z1 (by decide)
          have ez : IntKind.i64.wrap (z - 1) = z - 1 := IntWalk.i64_in _ (by omega)
          have hP7 := hP6.src hs7 hq7
          obtain ⟨l2, o7⟩ := hP7.r2
          obtain ⟨gp, x, rfl, _, _, _, hx, cx, fx⟩ := o7.at_ (k := j) hj
          have hst := o7.set_ (k := j) (z - 1)
          have HE := Lib.hid ((hP7.set (hst.1.mono (Nat.le_refl _) (show w7.heap.size ≤ (w7.setCell ⟨gp, j, none⟩ (I (z - 1))).heap.size by simp)) hst.2).done hr)
          clear hP6 hP7 hs7 hq7 o7 hst hx z1 z9
          go_wp2_with fail
          go_ret3
          exact HE.out
        · have ht' : (t == 0) = false := by simpa using ht
          have HE := Lib.hid (hP5.done hr)
          clear hP5
          go_wp2_with fail
          go_ret3
          exact HE.out
    · have hv' : (v == 0) = false := by simpa using hv
      clear hrd3
      by_cases hn0 : n2 = 0
      · have hnI : ¬ (0 < (n2 : Int)) := by omega
        have HE := Lib.hid (hP3.done hr)
        clear hP3
        subst hn0
        go_wp2_with fail
        go_ret3
        exact HE.out
      · have hnI : 0 < (n2 : Int) := by omega
        have hn20 := hP3.k3
        go_wp2_with fail
        refine (l01Next_any g N C B A l 4 _ hP3.s hP3.c hl hB hN (by omega)).mono ?_
        rintro e w5 ⟨t, rfl, t0, t1, t9, hs5, hq5⟩
        have hP5 := hP3.src hs5 hq5
        clear hP3 hs5 hq5 t1 t9
        by_cases ht : t = 0
        · subst ht
          go_wp2_with fail
          refine (l01Next_any g N C B A l (n2 : Int) _ hP5.s hP5.c hl hB hN (by omega)).mono ?_
          rintro e w6 ⟨y, rfl, y0, y1, y9, hs6, hq6⟩
          have y2 : y < (n2 : Int) := y1 (by omega)
          obtain ⟨j, rfl⟩ : ∃ j : Nat, y = (j : Int) := ⟨y.toNat, by omega⟩
          have hj : j < n2 := by omega
          have hP6 := hP5.src hs6 hq6
          clear hP5 hs6 hq6 y1 y9 y0 y2
          go_wp2_with fail
          refine (l01Next_any g N C B A l 5 _ hP6.s hP6.c hl hB hN (by omega)).mono ?_
          rintro e w7 ⟨z, rfl, z0, z1, z9, hs7, hq7⟩
          have z2 : z < 5 := z1 (by decide)
          have ez : IntKind.i64.wrap (z - 1) = z - 1 := IntWalk.i64_in _ (by omega)
          have hP7 := hP6.src hs7 hq7
          obtain ⟨l2, o7⟩ := hP7.r2
          obtain ⟨gp, x, rfl, _, _, _, hx, cx, fx⟩ := o7.at_ (k := j) hj
          have hst := o7.set_ (k := j) (z - 1)
          have HE := Lib.hid ((hP7.set (hst.1.mono (Nat.le_refl _) (show w7.heap.size ≤ (w7.setCell ⟨gp, j, none⟩ (I (z - 1))).heap.size by simp)) hst.2).done hr)
          clear hP6 hP7 hs7 hq7 o7 hst hx z1 z9
          go_wp2_with fail
          go_ret3
          exact HE.out
        · have ht' : (t == 0) = false := by simpa using ht
          have HE := Lib.hid (hP5.done hr)
          clear hP5
          go_wp2_with fail
          go_ret3
          exact HE.out
def DrF1 (w : World) (e' : Ending) (w' : World) : Prop := ∃ (r : Int) (A5 : Option Addr) (n c : Nat) (li : List Int), e' = .returned (.tuple #[.int .i64 r, .slice A5 n c]) ∧ (-1000000 ≤ r ∧ r ≤ 1000000) ∧ Rd I w' w'.heap.size A5 n li ∧ (n ≤ 20 ∧ n ≤ c) ∧ Below w.heap.size w w'
def DrF3 (w : World) (e' : Ending) (w' : World) : Prop :=
  ∃ (r : Int) (A1 : Option Addr) (n1 c1 : Nat) (l1 : List Int) (A2 : Option Addr) (n2 c2 : Nat) (l2 : List Int), e' = .returned (.tuple #[.int .i64 r, .slice A1 n1 c1, .slice A2 n2 c2]) ∧ (-1000000 ≤ r ∧ r ≤ 1000000) ∧ Rd I w' w'.heap.size A1 n1 l1 ∧ Rd I w' w'.heap.size A2 n2 l2 ∧ (n1 ≤ 20 ∧ n1 ≤ c1 ∧ n2 ≤ 20 ∧ n2 ≤ c2) ∧ Below w.heap.size w w'
set_option maxRecDepth 100000 in
set_option maxHeartbeats 4000000 in
theorem DrawFf_any1 (N C B : Nat) (A : Option Addr) (l : List Int) (w : World) (hc : Rd U w B A N l) (hl : inByte l) (hB : B ≤ w.heap.size) (hN : N ≤ 1048576) :
    Calls Try.prog 14 #[.slice A N C] w fun e' w' => DrF1 w e' w' := by
  go_enter Try.func14, Try.ntmps14
  go_wp2_with fail
  refine (l01From_ex N C B A l w hc hl hB).mono ?_
  rintro e w1 ⟨g, rfl, hg, hs1, hb1⟩
  have hc1 := hc.below hb1 hB
  have z1 := hb1.size
  go_wp2_with fail
  refine (drawRl_any g N C B A l w1 hs1 hc1 hl (by omega) hN).mono ?_
  rintro e w2 ⟨r, A1, n1, c1, l1, rfl, hr, o1, hn, hs2, hq2⟩
  have HE := Lib.hid (show DrF1 w (.returned (.tuple #[.int .i64 r, .slice A1 n1 c1])) w2 from ⟨r, A1, n1, c1, l1, rfl, hr, o1.rd, ⟨hn, o1.cap⟩, hb1.trans (hq2.below (by omega) (by omega))⟩)
  clear o1 hs2 hq2 hs1 hb1 hc1 hn hr
  go_wp2_with fail
  go_ret2
  exact HE.out
set_option maxRecDepth 100000 in
set_option maxHeartbeats 4000000 in
theorem DrawBp_any (N C B : Nat) (A : Option Addr) (l : List Int) (w : World) (hc : Rd U w B A N l) (hl : inByte l) (hB : B ≤ w.heap.size) (hN : N ≤ 1048576) :
    Calls Try.prog 28 #[.slice A N C] w fun e' w' => DrF1 w e' w' := by
  go_enter Try.func28, Try.ntmps28
  go_wp2_with fail
  refine (l01From_ex N C B A l w hc hl hB).mono ?_
  rintro e w1 ⟨g, rfl, hg, hs1, hb1⟩
  have hc1 := hc.below hb1 hB
  have z1 := hb1.size
  go_wp2_with fail
  refine (drawRl_any g N C B A l w1 hs1 hc1 hl (by omega) hN).mono ?_
  rintro e w2 ⟨r, A1, n1, c1, l1, rfl, hr, o1, hn, hs2, hq2⟩
  have HE := Lib.hid (show DrF1 w (.returned (.tuple #[.int .i64 r, .slice A1 n1 c1])) w2 from ⟨r, A1, n1, c1, l1, rfl, hr, o1.rd, ⟨hn, o1.cap⟩, hb1.trans (hq2.below (by omega) (by omega))⟩)
  clear o1 hs2 hq2 hs1 hb1 hc1 hn hr
  go_wp2_with fail
  go_ret2
  exact HE.out
set_option maxRecDepth 100000 in
set_option maxHeartbeats 4000000 in
theorem DrawSp_any' (N C B : Nat) (A : Option Addr) (l : List Int) (w : World) (hc : Rd U w B A N l) (hl : inByte l) (hB : B ≤ w.heap.size) (hN : N ≤ 1048576) :
    Calls Try.prog 21 #[.slice A N C] w fun e' w' => DrF3 w e' w' := by
  go_enter Try.func21, Try.ntmps21
  go_wp2_with fail
  refine (l01From_ex N C B A l w hc hl hB).mono ?_
  rintro e w1 ⟨g, rfl, hg, hs1, hb1⟩
  have hc1 := hc.below hb1 hB
  have z1 := hb1.size
  go_wp2_with fail
  refine (drawPk_any g N C B A l w1 hs1 hc1 hl (by omega) hN).mono ?_
  rintro e w2 ⟨r, A1, n1, c1, l1, A2, n2, c2, l2, rfl, hr, h1, h2, hn, hs2, hq2⟩
  have HE := Lib.hid (show DrF3 w (.returned (.tuple #[.int .i64 r, .slice A1 n1 c1, .slice A2 n2 c2])) w2 from ⟨r, A1, n1, c1, l1, A2, n2, c2, l2, rfl, hr, h1, h2, hn, hb1.trans (hq2.below (by omega) (by omega))⟩)
  clear h1 h2 hs2 hq2 hs1 hb1 hc1 hn hr
  go_wp2_with fail
  go_ret3
  exact HE.out
end Go.Proofs.Ytbhkpjjedeinpaa
