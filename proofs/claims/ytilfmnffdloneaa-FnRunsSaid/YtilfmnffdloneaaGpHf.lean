/- Contracts of the program's test of a division's list and of a set-up's cost, and of DividedCost. -/
import Derived.Test.YtilfmnffdloneaaGpDv
namespace Go.Proofs.Ytilfmnffdloneaa
open Go.RowKit
set_option linter.unusedVariables false

namespace Ga
theorem rises_iff (f : List Int) : rises f = true ↔ ∀ (i : Nat) (x y : Int), f[i]? = some x → f[i + 1]? = some y → x < y := by
  induction f with
  | nil => simp [rises]
  | cons a t ih =>
    cases t with
    | nil => simp [rises]
    | cons b t =>
      simp only [rises, Bool.and_eq_true, decide_eq_true_eq, ih]
      constructor
      · rintro ⟨h1, h2⟩ i x y hx hy
        cases i with
        | zero => simp at hx hy; omega
        | succ i => exact h2 i x y (by simpa using hx) (by simpa using hy)
      · intro h
        exact ⟨h 0 a b rfl rfl, fun i x y hx hy => h (i + 1) x y (by simpa using hx) (by simpa using hy)⟩
/-- So far the list rises and names jobs only. -/
def UpTo (n : Nat) (f : List Int) (k : Nat) : Prop := ∀ (i : Nat) (x y : Int), i < k → f[i]? = some x → f[i + 1]? = some y → x < y ∧ y < (n : Int)
theorem UpTo.next {n k : Nat} {f : List Int} {x y : Int} (h : UpTo n f k) (hx : f[k]? = some x) (hy : f[k + 1]? = some y) (h1 : x < y) (h2 : y < (n : Int)) : UpTo n f (k + 1) := by
  intro i a b hi ha hb
  rcases Nat.lt_or_ge i k with h3 | h3
  · exact h i a b h3 ha hb
  · obtain rfl : i = k := by omega
    rw [hx] at ha
    rw [hy] at hb
    cases ha
    cases hb
    exact ⟨h1, h2⟩
theorem UpTo.low {n k : Nat} {f : List Int} (h : UpTo n f k) (h0 : f[0]? = some 0) : ∀ (i : Nat) (x : Int), i ≤ k → f[i]? = some x → (i : Int) ≤ x := by
  intro i
  induction i with
  | zero => intro x _ hx; rw [h0] at hx; cases hx; exact Int.le_refl _
  | succ i ih =>
    intro x hi hx
    have hlt : i < f.length := by have := (List.getElem?_eq_some_iff.1 hx).1; omega
    have h1 := ih f[i] (by omega) (List.getElem?_eq_getElem hlt)
    have h2 := (h i f[i] x (by omega) (List.getElem?_eq_getElem hlt) hx).1
    omega
theorem isF_yes {n m : Nat} {f : List Int} (hn1 : 1 ≤ n) (hn : n ≤ 6) (hl : f.length = m + 1) (h0 : f[0]? = some 0) (h : UpTo n f m) : isF n f = true := by
  have hb : ∀ (i : Nat) (x : Int), f[i]? = some x → 0 ≤ x ∧ x ≤ (n : Int) - 1 := by
    intro i x hx
    have hlt := (List.getElem?_eq_some_iff.1 hx).1
    have h1 := h.low h0 i x (by omega) hx
    cases i with
    | zero => rw [h0] at hx; cases hx; omega
    | succ i =>
      have hlt2 : i < f.length := by omega
      have h2 := (h i f[i] x (by omega) (List.getElem?_eq_getElem hlt2) hx).2
      omega
  have hm : m < n := by
    have hlt : m < f.length := by omega
    have h1 := h.low h0 m f[m] (Nat.le_refl _) (List.getElem?_eq_getElem hlt)
    have h2 := hb m f[m] (List.getElem?_eq_getElem hlt)
    omega
  unfold isF
  simp only [Bool.and_eq_true, decide_eq_true_eq, wi_iff]
  refine ⟨by omega, (rises_iff f).2 fun i x y hx hy => (h i x y (by have := (List.getElem?_eq_some_iff.1 hy).1; omega) hx hy).1, ⟨by omega, fun x hx => ?_⟩, ?_⟩
  · obtain ⟨i, hi⟩ := List.getElem?_of_mem hx
    exact hb i x hi
  · rw [List.getD_eq_getElem?_getD, h0]
    rfl
theorem isF_empty (n : Nat) : isF n [] = false := rfl
theorem isF_head {n : Nat} {f : List Int} {x : Int} (hx : f[0]? = some x) (h : x ≠ 0) : isF n f = false := by
  cases e : isF n f
  · rfl
  · unfold isF at e
    simp only [Bool.and_eq_true, decide_eq_true_eq] at e
    have h1 := e.2.2.2
    rw [List.getD_eq_getElem?_getD, hx] at h1
    exact absurd h1 h
theorem isF_no {n k : Nat} {f : List Int} {x y : Int} (hx : f[k]? = some x) (hy : f[k + 1]? = some y) (h : y ≤ x ∨ (n : Int) ≤ y) : isF n f = false := by
  cases e : isF n f
  · rfl
  · unfold isF at e
    simp only [Bool.and_eq_true, decide_eq_true_eq, wi_iff] at e
    have h1 := (rises_iff f).1 e.2.1 k x y hx hy
    have h2 := e.2.2.1.2 y (List.mem_of_getElem? hy)
    omega
theorem sel_pos {n : Nat} {q f : List Int} (hf : isF n f = true) (hq : 1 ≤ q.length) : 1 ≤ (sel f q q.length).length := by
  have h0 : (0 : Int) ∈ f := by
    unfold isF at hf
    simp only [Bool.and_eq_true, decide_eq_true_eq] at hf
    obtain ⟨h1, _, _, h2⟩ := hf
    cases f with
    | nil => simp at h1
    | cons a t => simp at h2; subst h2; simp
  have hm : q.getD 0 0 ∈ sel f q q.length := by
    unfold sel
    refine List.mem_map.2 ⟨0, List.mem_filter.2 ⟨List.mem_range.2 (by omega), ?_⟩, rfl⟩
    simpa using h0
  have := List.length_pos_of_mem hm
  omega
end Ga
theorem setupG_any (z : Int) (w : World) :
    Calls Try.prog 56 #[.int .i64 z] w fun e w' => e = .returned (.bool (decide (0 ≤ z ∧ z ≤ 1000000))) ∧ w = w' := by
  by_cases h1 : z < 0
  · rw [decide_eq_false (by omega)]
    have h2 : ¬ 0 ≤ z := by omega
    go_enter Try.func56, Try.ntmps56
    go_wp2_with fail
    go_ret
    exact ⟨rfl, rfl⟩
  · have h2 : 0 ≤ z := by omega
    by_cases h3 : z ≤ 1000000
    · rw [decide_eq_true ⟨h2, h3⟩]
      go_enter Try.func56, Try.ntmps56
      go_wp2_with fail
      go_ret
      exact ⟨rfl, rfl⟩
    · rw [decide_eq_false (by omega)]
      go_enter Try.func56, Try.ntmps56
      go_wp2_with fail
      go_ret
      exact ⟨rfl, rfl⟩
set_option maxRecDepth 100000 in
set_option maxHeartbeats 4000000 in
theorem implGhf_any (r : Int) (A1 A2 : Option Addr) (n c1 n2 c2 B2 : Nat) (f : List Int) (b : Bool) (w : World) (h2 : Rd I w B2 A2 n2 f) (hB2 : B2 ≤ w.heap.size) (hn1 : 1 ≤ n) (hn : n ≤ 6) (hn2 : n2 ≤ 1048576) (hc2 : n2 ≤ c2) (hb : Ga.isF n f = b) :
    Calls Try.prog 60 #[GV r A1 n c1, .slice A2 n2 c2] w fun e w' => e = .returned (.bool b) ∧ Below w.heap.size w w' := by
  have HB := Lib.hid hb
  have HL2 := Lib.hid h2.1
  have HN := Lib.hid (below_newG w (.cells #[.int .i64 r, .slice A1 n c1] 57))
  have hbx : GBx (w.alloc (.cells #[.int .i64 r, .slice A1 n c1] 57)) w.heap.size r A1 n c1 := Blk.new _ _ rfl
  have hr0 := h2.alloc hB2 (.cells #[.int .i64 r, .slice A1 n c1] 57)
  have k1 := hbx.cell 1 (v := .slice A1 n c1) rfl
  clear hbx hb
  cases n2 with
  | zero =>
    have HF : Hid (b = false) := Lib.hid (by rw [← HB.out, List.eq_nil_of_length_eq_zero HL2.out]; rfl)
    go_enter Try.func60, Try.ntmps60
    go_wp2_with fail
    go_ret
    exact ⟨ret_b HF.out.symm, HN.out⟩
  | succ m =>
    obtain ⟨b2, o2, x0, rfl, hb2, hx0, cx0⟩ := hr0.at_ (k := 0) (by omega)
    have c00 : (w.alloc (.cells #[.int .i64 r, .slice A1 n c1] 57)).cell? ⟨b2, o2, none⟩ = some (.int .i64 x0) := cx0
    have HX0 := Lib.hid hx0
    have hnz : ¬ ((m : Int) + 1 = 0) := by omega
    have hpos : (0 : Int) < (m : Int) + 1 := by omega
    have h1c : 1 ≤ c2 := by omega
    clear hx0 cx0
    by_cases hxz : x0 = 0
    rotate_left
    · have HF : Hid (b = false) := Lib.hid (by rw [← HB.out]; exact Ga.isF_head HX0.out hxz)
      have hxB : (x0 != 0) = true := by simpa using hxz
      go_enter Try.func60, Try.ntmps60
      go_wp2_with fail
      go_ret
      exact ⟨ret_b HF.out.symm, HN.out⟩
    subst hxz
    by_cases hc1 : c2 = 1
    · obtain rfl : m = 0 := by omega
      subst hc1
      have HT : Hid (b = true) := Lib.hid (by rw [← HB.out]; exact Ga.isF_yes hn1 hn HL2.out HX0.out fun i x y hi => absurd hi (Nat.not_lt_zero i))
      go_enter Try.func60, Try.ntmps60
      go_wp2_with fail
      refine wp_loop_rounds 1 ?_
      rw [rounds_succ]
      go_wp2_with fail
      go_ret
      exact ⟨ret_b HT.out.symm, HN.out⟩
    go_enter Try.func60, Try.ntmps60
    go_wp2_with fail
    go_loop [5, 6, 19] (fun _ _ i => ∃ k : Nat, k ≤ m ∧ i = .int .i64 k ∧ Hid (Ga.UpTo n f k)) (fun _ _ i => m - (intOf i).toNat)
    case atStart => exact ⟨0, Nat.zero_le _, rfl, Lib.hid fun i x y hi => absurd hi (Nat.not_lt_zero i)⟩
    case round =>
      obtain ⟨k, hk, rfl, HU⟩ := hrel
      by_cases hlt : k < m
      · obtain ⟨b3, o3, x, e3, _, hx, cx⟩ := hr0.at_ (k := k) (by omega)
        obtain ⟨b4, o4, y, e4, _, hy, cy⟩ := hr0.at_ (k := k + 1) (by omega)
        cases e3
        cases e4
        have cy2 : (w.alloc (.cells #[.int .i64 r, .slice A1 n c1] 57)).cell? ⟨b2, o2 + 1 + k, none⟩ = some (.int .i64 y) := by
          rw [show o2 + 1 + k = o2 + (k + 1) by omega]
          exact cy
        have HX := Lib.hid hx
        have HY := Lib.hid hy
        have hltI : (k : Int) < (m : Int) + 1 := by omega
        clear hx hy cy
        by_cases h1 : y ≤ x
        · have HF : Hid (b = false) := Lib.hid (by rw [← HB.out]; exact Ga.isF_no HX.out HY.out (.inl h1))
          go_wp2_with fail
          go_ret
          exact ⟨ret_b HF.out.symm, HN.out⟩
        by_cases h3 : (n : Int) ≤ y
        · have HF : Hid (b = false) := Lib.hid (by rw [← HB.out]; exact Ga.isF_no HX.out HY.out (.inr h3))
          go_wp2_with fail
          go_ret
          exact ⟨ret_b HF.out.symm, HN.out⟩
        have HU2 : Hid (Ga.UpTo n f (k + 1)) := Lib.hid (HU.out.next HX.out HY.out (by omega) (by omega))
        go_wp2_with fail
        go_round
        case rel => exact ⟨k + 1, by omega, by go_num, HU2⟩
        case measure => simp [intOf]; omega
      · obtain rfl : k = m := by omega
        have HT : Hid (b = true) := Lib.hid (by rw [← HB.out]; exact Ga.isF_yes hn1 hn HL2.out HX0.out HU.out)
        go_wp2_with fail
        go_ret
        exact ⟨ret_b HT.out.symm, HN.out⟩
set_option maxRecDepth 100000 in
set_option maxHeartbeats 4000000 in
theorem implGaDc_any (r z : Int) (A1 A2 : Option Addr) (n1 c1 B1 n2 c2 B2 : Nat) (q f : List Int) (R C : Int) (w : World) (h1 : Rd I w B1 A1 n1 q) (h2 : Rd I w B2 A2 n2 f) (hB1 : B1 ≤ w.heap.size) (hB2 : B2 ≤ w.heap.size) (hn1 : n1 ≤ 1048576) (hn2 : n2 ≤ 1048576) (hc1 : n1 ≤ c1) (hc2 : n2 ≤ c2) (hr : Ga.i64 r) (hz : Ga.i64 z) (hR : Ga.dcR r q f z = R) (hC : Ga.dcC r q f z = C) :
    Calls Try.prog 33 #[.int .i64 r, .slice A1 n1 c1, .slice A2 n2 c2, .int .i64 z] w fun e w' => e = .returned (.tuple #[.int .i64 R, .int .i64 C]) ∧ Below w.heap.size w w' := by
  obtain ⟨d, hd⟩ : ∃ d, Ga.okG r q = d := ⟨_, rfl⟩
  have HD := Lib.hid hd
  have HN := Lib.hid (below_newG w (.cells #[.int .i64 r, .slice A1 n1 c1] 57))
  have hbx : GBx (w.alloc (.cells #[.int .i64 r, .slice A1 n1 c1] 57)) w.heap.size r A1 n1 c1 := Blk.new _ _ rfl
  have hr1 := h1.alloc hB1 (.cells #[.int .i64 r, .slice A1 n1 c1] 57)
  have hr2 := h2.alloc hB2 (.cells #[.int .i64 r, .slice A1 n1 c1] 57)
  have k0 := hbx.cell 0 (v := .int .i64 r) rfl
  have k1 := hbx.cell 1 (v := .slice A1 n1 c1) rfl
  have hz9 : (w.alloc (.cells #[.int .i64 r, .slice A1 n1 c1] 57)).heap.size = w.heap.size + 1 := by simp
  have hvt := implGv_any r A1 n1 c1 B1 q d _ hr1 (by omega) hn1 hd
  have HNO : Hid (C ≠ 0 → R = 0) := Lib.hid fun hne => by rw [← hR]; unfold Ga.dcR; rw [hC, if_neg hne]
  clear hd hr
  cases d
  · have e2 : C = 1 := by rw [← hC]; unfold Ga.dcC Ga.code; rw [HD.out]; rfl
    obtain rfl : R = 0 := HNO.out (by rw [e2]; decide)
    subst e2
    clear hR hC
    go_enter Try.func33, Try.ntmps33
    go_wp2_with fail
    refine hvt.mono ?_
    rintro e w1 ⟨rfl, hb1⟩
    go_wp2_with fail
    go_ret2
    exact ⟨rfl, HN.out.trans (hb1.mono (by omega))⟩
  have hgg := Ga.okG_iff.1 HD.out
  have hn6 : n1 ≤ 6 := by rw [← h1.1]; exact hgg.2.2.2.1
  have hn0 : 1 ≤ n1 := by rw [← h1.1]; exact hgg.2.1
  have HL1 := Lib.hid h1.1
  obtain ⟨b, hb⟩ : ∃ b, Ga.isF n1 f = b := ⟨_, rfl⟩
  have HB := Lib.hid hb
  have HC : Hid (C = if decide (0 ≤ z ∧ z ≤ 1000000) && b then 0 else 2) := Lib.hid (by rw [← hC, ← hb, ← HL1.out]; unfold Ga.dcC Ga.code Ga.dcB; rw [HD.out, if_pos rfl])
  have HRR : Hid (C = 0 → Ga.cost r q f z = R) := Lib.hid fun hne => by rw [← hR]; unfold Ga.dcR; rw [hC, if_pos hne]
  clear hR hC hgg hb
  cases b
  · have HC2 : Hid (C = 2) := Lib.hid (by rw [HC.out, Bool.and_false]; rfl)
    obtain rfl : R = 0 := HNO.out (by rw [HC2.out]; decide)
    obtain rfl : C = 2 := HC2.out
    go_enter Try.func33, Try.ntmps33
    go_wp2_with fail
    refine hvt.mono ?_
    rintro e w1 ⟨rfl, hb1⟩
    have q1 := hbx.below hb1 hbx.lt
    have hz3 := hb1.size
    replace k0 := q1.cell 0 (v := .int .i64 r) rfl
    replace k1 := q1.cell 1 (v := .slice A1 n1 c1) rfl
    have hhf := implGhf_any r A1 A2 n1 c1 n2 c2 B2 f false w1 (hr2.below hb1 (by omega)) (by omega) hn0 hn6 hn2 hc2 HB.out
    go_wp2_with fail
    refine hhf.mono ?_
    rintro e w2 ⟨rfl, hb2⟩
    go_wp2_with fail
    go_ret2
    exact ⟨rfl, (HN.out.trans (hb1.mono (by omega))).trans (hb2.mono (by omega))⟩
  have hsu := fun W => setupG_any z W
  by_cases hzz : 0 ≤ z ∧ z ≤ 1000000
  rotate_left
  · have HC2 : Hid (C = 2) := Lib.hid (by rw [HC.out, decide_eq_false hzz]; rfl)
    obtain rfl : R = 0 := HNO.out (by rw [HC2.out]; decide)
    obtain rfl : C = 2 := HC2.out
    rw [decide_eq_false hzz] at hsu
    clear hzz hz
    go_enter Try.func33, Try.ntmps33
    go_wp2_with fail
    refine hvt.mono ?_
    rintro e w1 ⟨rfl, hb1⟩
    have q1 := hbx.below hb1 hbx.lt
    have hz3 := hb1.size
    replace k0 := q1.cell 0 (v := .int .i64 r) rfl
    replace k1 := q1.cell 1 (v := .slice A1 n1 c1) rfl
    have hhf := implGhf_any r A1 A2 n1 c1 n2 c2 B2 f true w1 (hr2.below hb1 (by omega)) (by omega) hn0 hn6 hn2 hc2 HB.out
    go_wp2_with fail
    refine hhf.mono ?_
    rintro e w2 ⟨rfl, hb2⟩
    have hsu2 := hsu w2
    clear hsu
    go_wp2_with fail
    refine hsu2.mono ?_
    rintro e _ ⟨rfl, rfl⟩
    go_wp2_with fail
    go_ret2
    exact ⟨rfl, (HN.out.trans (hb1.mono (by omega))).trans (hb2.mono (by omega))⟩
  have HC2 : Hid (C = 0) := Lib.hid (by rw [HC.out, decide_eq_true hzz]; rfl)
  have HR2 := Lib.hid (HRR.out HC2.out)
  obtain rfl : C = 0 := HC2.out
  rw [decide_eq_true hzz] at hsu
  have HZZ := Lib.hid hzz
  have HSP := Lib.hid (Ga.sel_pos (q := q) HB.out (by rw [HL1.out]; exact hn0))
  clear hzz hz
  go_enter Try.func33, Try.ntmps33
  go_wp2_with fail
  refine hvt.mono ?_
  rintro e w1 ⟨rfl, hb1⟩
  have q1 := hbx.below hb1 hbx.lt
  have hz3 := hb1.size
  replace k0 := q1.cell 0 (v := .int .i64 r) rfl
  replace k1 := q1.cell 1 (v := .slice A1 n1 c1) rfl
  have hs1 := hr1.below hb1 (by omega)
  have hs2 := hr2.below hb1 (by omega)
  have hhf := implGhf_any r A1 A2 n1 c1 n2 c2 B2 f true w1 hs2 (by omega) hn0 hn6 hn2 hc2 HB.out
  go_wp2_with fail
  refine hhf.mono ?_
  rintro e w2 ⟨rfl, hb2⟩
  have hsu2 := hsu w2
  have q2 := q1.below hb2 q1.lt
  have hz4 := hb2.size
  replace k0 := q2.cell 0 (v := .int .i64 r) rfl
  replace k1 := q2.cell 1 (v := .slice A1 n1 c1) rfl
  have hdv := implGdv_any r z A1 A2 n1 c1 B1 n2 c2 B2 q f R w2 (hs1.below hb2 (by omega)) (hs2.below hb2 (by omega)) (by omega) (by omega) hn2 HD.out HZZ.out HR2.out HSP.out
  have HB2 := Lib.hid ((HN.out.trans (hb1.mono (by omega))).trans (hb2.mono (by omega)))
  clear hsu hb1 hb2
  go_wp2_with fail
  refine hsu2.mono ?_
  rintro e _ ⟨rfl, rfl⟩
  go_wp2_with fail
  refine hdv.mono ?_
  rintro e w3 ⟨rfl, hb3⟩
  go_wp2_with fail
  go_ret2
  exact ⟨rfl, HB2.out.trans (hb3.mono (by omega))⟩
end Go.Proofs.Ytilfmnffdloneaa
