/- Contracts of the program's least run (by sort.Search), of LeastRun and BestUps. -/
import Derived.Test.YtilfmnffdloneaaGpRf
namespace Go.Proofs.Ytilfmnffdloneaa
open Go.RowKit
set_option linter.unusedVariables false

theorem lrClo_any (r : Int) (g k : Nat) (A : Option Addr) (n c B : Nat) (q : List Int) (w : World) (h : Rd I w B A n q) (hB : B ≤ w.heap.size) (hn : n ≤ 6) (hq : ∀ x ∈ q, 1 ≤ x ∧ x ≤ 1000000) (hr : 1 ≤ r ∧ r ≤ 32) (hk : k < 1000000) (hg : GBx w g r A n c) :
    Calls Try.prog 66 #[.int .i64 k, .pointer (some ⟨g, 0, none⟩)] w fun e w' => e = .returned (.bool (decide (Ga.tot (Ga.forR q ((k : Int) + 1)) ≤ r))) ∧ Below w.heap.size w w' := by
  have e1 : IntKind.i64.wrap ((k : Int) + 1) = (k : Int) + 1 := IntWalk.i64_in _ (by omega)
  have k0 := hg.cell 0 (v := .int .i64 r) rfl
  have k1 := hg.cell 1 (v := .slice A n c) rfl
  have huf := implGuf_any r ((k : Int) + 1) A n c B q _ _ w h hB hn hq hr (by omega) rfl rfl
  go_enter Try.func66, Try.ntmps66
  go_wp2_with fail
  refine huf.mono ?_
  rintro e w2 ⟨A3, n3, c3, rfl, ho3, hn3, hb3⟩
  clear ho3
  go_wp2_with fail
  go_ret
  exact ⟨rfl, hb3⟩
/-- Where the search stands: what lies below a is too short, and b is enough. -/
structure SrP (r : Int) (q : List Int) (a b : Nat) : Prop where
  le : a ≤ b
  top : b ≤ 1000000
  low : ∀ k : Nat, k < a → r < Ga.tot (Ga.forR q ((k : Int) + 1))
  high : b < 1000000 → Ga.tot (Ga.forR q ((b : Int) + 1)) ≤ r
theorem SrP.up {r : Int} {q : List Int} {a b m : Nat} (h : SrP r q a b) (hq : ∀ x ∈ q, 1 ≤ x ∧ x ≤ 1000000) (hm : m < b) (hp : r < Ga.tot (Ga.forR q ((m : Int) + 1))) : SrP r q (m + 1) b := by
  refine ⟨by omega, h.top, fun k hk => ?_, h.high⟩
  have := Ga.forR_mono (q := q) (r := (k : Int) + 1) (t := (m : Int) + 1) (fun x hx => (hq x hx).1) (by omega) (by omega)
  omega
theorem SrP.down {r : Int} {q : List Int} {a b m : Nat} (h : SrP r q a b) (ha : a ≤ m) (hm : m < b) (hp : Ga.tot (Ga.forR q ((m : Int) + 1)) ≤ r) : SrP r q a m :=
  ⟨ha, by have := h.top; omega, h.low, fun _ => hp⟩
theorem SrP.least {r : Int} {q : List Int} {a : Nat} (h : SrP r q a a) (hq : ∀ x ∈ q, 1 ≤ x ∧ x ≤ 1000000) (hl : (q.length : Int) ≤ r) : Ga.least r q = (a : Int) + 1 := by
  have hlt : a < 1000000 := by
    rcases Nat.lt_or_ge a 1000000 with h1 | h1
    · exact h1
    · have h2 := h.low 999999 (by omega)
      have h3 := Ga.forR_top hq
      have h4 : ((999999 : Nat) : Int) + 1 = 1000000 := by decide
      rw [h4, h3] at h2
      omega
  refine Ga.least_is hq hl ⟨by omega, h.high hlt, fun k h1 h2 => ?_⟩
  have h5 := h.low (k - 1).toNat (by omega)
  have h6 : (((k - 1).toNat : Nat) : Int) + 1 = k := by omega
  rwa [h6] at h5
set_option maxRecDepth 100000 in
set_option maxHeartbeats 4000000 in
theorem lrSearch_any (r : Int) (g : Nat) (A : Option Addr) (n c B : Nat) (q : List Int) (w : World) (h : Rd I w B A n q) (hB : B ≤ w.heap.size) (hn : n ≤ 6) (hq : ∀ x ∈ q, 1 ≤ x ∧ x ≤ 1000000) (hr : 1 ≤ r ∧ r ≤ 32) (hg : GBx w g r A n c) :
    Calls Try.prog 65 #[.int .i64 1000000, .func (.func 66) #[] #[.pointer (some ⟨g, 0, none⟩)]] w fun e w' => (∃ a : Nat, e = .returned (.int .i64 a) ∧ SrP r q a a) ∧ Below w.heap.size w w' := by
  have HQ := Lib.hid hq
  clear hq
  go_enter Try.func65, Try.ntmps65
  go_wp2_with fail
  go_loopw [5, 6, 7] (fun i j _ wr => ∃ a b : Nat, i = .int .i64 a ∧ j = .int .i64 b ∧ Hid (SrP r q a b) ∧ Below w.heap.size w wr) (fun i j _ _ => (intOf j).toNat - (intOf i).toNat)
  case atStart => exact ⟨0, 1000000, rfl, rfl, Lib.hid ⟨by omega, Nat.le_refl _, fun k hk => by omega, fun h => by omega⟩, Below.refl _ _⟩
  case round =>
    obtain ⟨a, b, rfl, rfl, HS, hb⟩ := hrel
    have hab := HS.out.le
    have hbt := HS.out.top
    by_cases hlt : a < b
    · have hltI : (a : Int) < (b : Int) := by omega
      obtain ⟨m, hm⟩ : ∃ m : Nat, (a + b) / 2 = m := ⟨_, rfl⟩
      have e1 : IntKind.i64.wrap ((a : Int) + (b : Int)) = (a : Int) + (b : Int) := IntWalk.i64_in _ (by omega)
      have e2 : IntKind.u64.wrap ((a : Int) + (b : Int)) = (a : Int) + (b : Int) := IntWalk.u64_in _ (by omega)
      have e3 : ((a : Int) + (b : Int)) / 2 = (m : Int) := by omega
      have e4 : IntKind.i64.wrap (m : Int) = (m : Int) := IntWalk.i64_in _ (by omega)
      have e5 : IntKind.u64.wrap (m : Int) = (m : Int) := IntWalk.u64_in _ (by omega)
      have e6 : IntKind.i64.wrap ((m : Int) + 1) = (m : Int) + 1 := IntWalk.i64_in _ (by omega)
      have hcl := lrClo_any r g m A n c B q wr (h.below hb hB) (Nat.le_trans hB hb.size) hn HQ.out hr (by omega) (hg.below hb hg.lt)
      have hma : a ≤ m := by omega
      have hmb : m < b := by omega
      clear hm
      by_cases hp : Ga.tot (Ga.forR q ((m : Int) + 1)) ≤ r
      · rw [decide_eq_true hp] at hcl
        have HS2 := Lib.hid (HS.out.down hma hmb hp)
        clear hp
        go_wp2_with fail
        refine hcl.mono ?_
        rintro e w2 ⟨rfl, hb2⟩
        have HB2 := Lib.hid (hb.trans (hb2.mono hb.size))
        clear hb2 hcl
        go_wp2_with fail
        go_roundw
        case rel => exact ⟨a, m, rfl, rfl, HS2, HB2.out⟩
        case measure => simp [intOf]; omega
      · rw [decide_eq_false hp] at hcl
        have HS2 := Lib.hid (HS.out.up HQ.out hmb (by omega))
        clear hp
        go_wp2_with fail
        refine hcl.mono ?_
        rintro e w2 ⟨rfl, hb2⟩
        have HB2 := Lib.hid (hb.trans (hb2.mono hb.size))
        clear hb2 hcl
        go_wp2_with fail
        go_roundw
        case rel => exact ⟨m + 1, b, by go_num, rfl, HS2, HB2.out⟩
        case measure => simp [intOf]; omega
    · obtain rfl : a = b := by omega
      go_wp2_with fail
      go_ret
      exact ⟨⟨a, rfl, HS.out⟩, hb⟩
set_option maxRecDepth 100000 in
set_option maxHeartbeats 1000000 in
theorem implGlr_any (r : Int) (A : Option Addr) (n c B : Nat) (q : List Int) (R : Int) (w : World) (h : Rd I w B A n q) (hB : B ≤ w.heap.size) (hT : Ga.okG r q = true) (hR : Ga.least r q = R) :
    Calls Try.prog 46 #[GV r A n c] w fun e w' => e = .returned (.int .i64 R) ∧ Below w.heap.size w w' := by
  have hgg := Ga.okG_iff.1 hT
  have hn6 : n ≤ 6 := by rw [← h.1]; exact hgg.2.2.2.1
  have HN := Lib.hid (below_newG w (.cells #[.int .i64 r, .slice A n c] 57))
  have hbx : GBx (w.alloc (.cells #[.int .i64 r, .slice A n c] 57)) w.heap.size r A n c := Blk.new _ _ rfl
  have hz : (w.alloc (.cells #[.int .i64 r, .slice A n c] 57)).heap.size = w.heap.size + 1 := by simp
  have hse := lrSearch_any r w.heap.size A n c B q _ (h.alloc hB (.cells #[.int .i64 r, .slice A n c] 57)) (by omega) hn6 hgg.2.2.2.2 hgg.1 hbx
  have HG := Lib.hid hgg
  have HR := Lib.hid hR
  clear hgg hR hT
  go_enter Try.func46, Try.ntmps46
  go_wp2_with fail
  refine hse.mono ?_
  rintro e w1 ⟨⟨a, rfl, ha⟩, hb1⟩
  have hat := ha.top
  have HA : Hid ((a : Int) + 1 = R) := Lib.hid (by rw [← HR.out]; exact (ha.least HG.out.2.2.2.2 HG.out.2.2.1).symm)
  have e6 : IntKind.i64.wrap ((a : Int) + 1) = (a : Int) + 1 := IntWalk.i64_in _ (by omega)
  clear ha
  go_wp2_with fail
  go_ret
  exact ⟨ret_i HA.out, HN.out.trans (hb1.mono (by omega))⟩
set_option maxRecDepth 100000 in
set_option maxHeartbeats 1000000 in
theorem implGaLr_any (r : Int) (A : Option Addr) (n c B : Nat) (q : List Int) (R C : Int) (w : World) (h : Rd I w B A n q) (hB : B ≤ w.heap.size) (hn : n ≤ 1048576) (hc : n ≤ c) (hr : Ga.i64 r) (hR : Ga.lrR r q = R) (hC : Ga.lrC r q = C) :
    Calls Try.prog 17 #[.int .i64 r, .slice A n c] w fun e w' => e = .returned (.tuple #[.int .i64 R, .int .i64 C]) ∧ Below w.heap.size w w' := by
  obtain ⟨d, hd⟩ : ∃ d, Ga.okG r q = d := ⟨_, rfl⟩
  have HD := Lib.hid hd
  have HN := Lib.hid (below_newG w (.cells #[.int .i64 r, .slice A n c] 57))
  have hbx : GBx (w.alloc (.cells #[.int .i64 r, .slice A n c] 57)) w.heap.size r A n c := Blk.new _ _ rfl
  have hr1 := h.alloc hB (.cells #[.int .i64 r, .slice A n c] 57)
  have k0 := hbx.cell 0 (v := .int .i64 r) rfl
  have k1 := hbx.cell 1 (v := .slice A n c) rfl
  have hz9 : (w.alloc (.cells #[.int .i64 r, .slice A n c] 57)).heap.size = w.heap.size + 1 := by simp
  have hvt := implGv_any r A n c B q d _ hr1 (by omega) hn hd
  clear hd hr
  cases d
  · have e1 : R = 0 := by rw [← hR]; unfold Ga.lrR; rw [HD.out]; rfl
    have e2 : C = 1 := by rw [← hC]; unfold Ga.lrC Ga.code; rw [HD.out]; rfl
    subst e1 e2
    clear hR hC
    go_enter Try.func17, Try.ntmps17
    go_wp2_with fail
    refine hvt.mono ?_
    rintro e w1 ⟨rfl, hb1⟩
    go_wp2_with fail
    go_ret2
    exact ⟨rfl, HN.out.trans (hb1.mono (by omega))⟩
  · have e1 : Ga.least r q = R := by rw [← hR]; unfold Ga.lrR; rw [HD.out, if_pos rfl]
    have e2 : C = 0 := by rw [← hC]; unfold Ga.lrC Ga.code; rw [HD.out]; rfl
    subst e2
    have HR := Lib.hid e1
    clear hR hC e1
    go_enter Try.func17, Try.ntmps17
    go_wp2_with fail
    refine hvt.mono ?_
    rintro e w1 ⟨rfl, hb1⟩
    have q1 := hbx.below hb1 hbx.lt
    have hz3 := hb1.size
    replace k0 := q1.cell 0 (v := .int .i64 r) rfl
    replace k1 := q1.cell 1 (v := .slice A n c) rfl
    have hlr := implGlr_any r A n c B q R w1 (hr1.below hb1 (by omega)) (by omega) HD.out HR.out
    go_wp2_with fail
    refine hlr.mono ?_
    rintro e w2 ⟨rfl, hb2⟩
    go_wp2_with fail
    go_ret2
    exact ⟨rfl, (HN.out.trans (hb1.mono (by omega))).trans (hb2.mono (by omega))⟩
set_option maxRecDepth 100000 in
set_option maxHeartbeats 1000000 in
theorem implGaBu_any (r : Int) (A : Option Addr) (n c B : Nat) (q R : List Int) (C : Int) (w : World) (h : Rd I w B A n q) (hB : B ≤ w.heap.size) (hn : n ≤ 1048576) (hc : n ≤ c) (hr : Ga.i64 r) (hR : Ga.buR r q = R) (hC : Ga.lrC r q = C) :
    Calls Try.prog 15 #[.int .i64 r, .slice A n c] w fun e w' => LC w R C e w' := by
  obtain ⟨d, hd⟩ : ∃ d, Ga.okG r q = d := ⟨_, rfl⟩
  have HD := Lib.hid hd
  have HRD := Lib.hid hr
  obtain ⟨t, ht⟩ : ∃ t, Ga.lrR r q = t := ⟨_, rfl⟩
  have hlr := implGaLr_any r A n c B q t C w h hB hn hc hr ht hC
  have HT := Lib.hid ht
  clear hd hr ht
  cases d
  · have e1 : R = [] := by rw [← hR]; unfold Ga.buR; rw [HD.out]; rfl
    have e2 : C = 1 := by rw [← hC]; unfold Ga.lrC Ga.code; rw [HD.out]; rfl
    subst e2
    have HE := Lib.hid e1
    clear hR hC e1
    go_enter Try.func15, Try.ntmps15
    go_wp2_with fail
    refine hlr.mono ?_
    rintro e w1 ⟨rfl, hb1⟩
    go_wp2_with fail
    go_ret2
    exact LC.nil_ HE.out rfl hb1
  · have e1 : Ga.forR q (Ga.least r q) = R := by rw [← hR]; unfold Ga.buR; rw [HD.out, if_pos rfl]
    have e2 : C = 0 := by rw [← hC]; unfold Ga.lrC Ga.code; rw [HD.out]; rfl
    have HT2 : Hid (Ga.least r q = t) := Lib.hid (by rw [← HT.out]; unfold Ga.lrR; rw [HD.out, if_pos rfl])
    have hgg := Ga.okG_iff.1 HD.out
    have hP := Ga.least_P hgg.2.2.2.2 hgg.2.2.1
    rw [HT2.out] at hP
    have hcU : Ga.ufC r q t = 0 := by unfold Ga.ufC; rw [HD.out, if_pos hP.1, if_pos hP.2.1]; rfl
    have HCU := Lib.hid hcU
    have HRU : Hid (Ga.ufR r q t = R) := Lib.hid (by unfold Ga.ufR; rw [hcU, if_pos rfl, ← e1, HT2.out])
    have htb : Ga.i64 t := by have := hP.1; unfold Ga.i64; omega
    subst e2
    clear hR hC e1 hcU hP hgg
    go_enter Try.func15, Try.ntmps15
    go_wp2_with fail
    refine hlr.mono ?_
    rintro e w1 ⟨rfl, hb1⟩
    have huf := implGaUf_any r t A n c B q R 0 w1 (h.below hb1 hB) (Nat.le_trans hB hb1.size) hn hc HRD.out htb HRU.out HCU.out
    have HB1 := Lib.hid hb1
    clear hb1 hlr htb
    go_wp2_with fail
    refine huf.mono ?_
    rintro e w2 ⟨A3, n3, c3, rfl, ho3, hn3, hb3⟩
    have HO3 := Lib.hid (ho3.mono HB1.out.size (Nat.le_refl _))
    have HB3 := Lib.hid (HB1.out.trans (hb3.mono HB1.out.size))
    clear ho3 hb3
    go_wp2_with fail
    go_ret2
    exact LC.mk_ rfl rfl HO3.out (Nat.le_refl _) (Nat.le_refl _) hn3 HB3.out
end Go.Proofs.Ytilfmnffdloneaa
