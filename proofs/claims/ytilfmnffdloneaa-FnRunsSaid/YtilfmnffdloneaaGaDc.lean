/- The model's DividedCost. -/
import Derived.Test.YtilfmnffdloneaaGaDv
namespace Go.Proofs.Ytilfmnffdloneaa
open Go.RowKit
set_option linter.unusedVariables false

set_option maxRecDepth 100000 in
set_option maxHeartbeats 4000000 in
/-- Whether the arguments are in their ranges. -/
theorem gaDcIn (q f : List Int) (z : Int) (n1 n2 : Nat) (hq : q.length = n1) (hf : f.length = n2) :
    (Ga.dcB q f z = false ∧ ¬ (0 ≤ z ∧ z ≤ 1000000)) ∨ ((0 ≤ z ∧ z ≤ 1000000) ∧ ((Ga.dcB q f z = false ∧ n2 = 0) ∨ (1 ≤ n2 ∧ ((Ga.dcB q f z = false ∧ Ga.rises f = false) ∨ (Ga.rises f = true ∧ ((Ga.dcB q f z = false ∧ Ga.wi 6 0 ((n1 : Int) - 1) f = false) ∨ (Ga.wi 6 0 ((n1 : Int) - 1) f = true ∧ Ga.dcB q f z = decide (f.getD 0 0 = 0)))))))) := by
  unfold Ga.dcB Ga.isF
  rw [hq, hf]
  by_cases h1 : 0 ≤ z ∧ z ≤ 1000000
  · right
    refine ⟨h1, ?_⟩
    rw [decide_eq_true h1, Bool.true_and]
    by_cases h2 : n2 = 0
    · left
      subst h2
      exact ⟨rfl, rfl⟩
    · right
      refine ⟨by omega, ?_⟩
      rw [decide_eq_true (show 1 ≤ n2 by omega), Bool.true_and]
      cases h3 : Ga.rises f
      · left
        exact ⟨rfl, rfl⟩
      · right
        refine ⟨rfl, ?_⟩
        rw [Bool.true_and]
        cases h4 : Ga.wi 6 0 ((n1 : Int) - 1) f
        · left
          exact ⟨rfl, rfl⟩
        · right
          exact ⟨rfl, by rw [Bool.true_and]⟩
  · left
    rw [decide_eq_false h1]
    exact ⟨rfl, h1⟩
set_option maxRecDepth 100000 in
set_option maxHeartbeats 8000000 in
theorem specGaDc_any (sl z : Int) (A1 A2 : Option Addr) (n1 c1 B1 n2 c2 B2 : Nat) (q f : List Int) (R C : Int) (w : World) (h1 : Rd I w B1 A1 n1 q) (h2 : Rd I w B2 A2 n2 f) (hB1 : B1 ≤ w.heap.size) (hB2 : B2 ≤ w.heap.size) (hn1 : n1 ≤ 1048576) (hn2 : n2 ≤ 1048576) (hR : Ga.dcR sl q f z = R) (hC : Ga.dcC sl q f z = C) :
    Calls Try.prog 34 #[.int .i64 sl, .slice A1 n1 c1, .slice A2 n2 c2, .int .i64 z] w fun e w' => e = .returned (.tuple #[.int .i64 R, .int .i64 C]) ∧ Below w.heap.size w w' := by
  have HC := Lib.hid hC
  have HR := Lib.hid hR
  have HL1 := Lib.hid h1.1
  have HL2 := Lib.hid h2.1
  have bad : ∀ b, Ga.dcB q f z = b → C ≠ 0 → Hid (R = 0) := fun b hb h0 => Lib.hid (by rw [← HR.out]; unfold Ga.dcR; rw [HC.out, if_neg h0])
  have hco : ∀ b, Ga.dcB q f z = b → ∀ W, Q w W → Calls Try.prog 42 #[.int .i64 sl, .slice A1 n1 c1, .bool b] W fun e w' => e = .returned (.int .i64 C) ∧ W = w' := fun b hb W hW => specGaC_any sl A1 n1 c1 B1 q b C W (h1.q hW) hn1 (by rw [← HC.out]; unfold Ga.dcC; rw [hb])
  have no : Ga.dcB q f z = false → C ≠ 0 := fun hb => by
    rw [← HC.out]
    unfold Ga.dcC Ga.code
    rw [hb]
    split <;> simp
  have em : IntKind.i64.wrap ((n1 : Int) - 1) = (n1 : Int) - 1 := IntWalk.i64_in _ (by omega)
  clear hR hC
  rcases gaDcIn q f z n1 n2 HL1.out HL2.out with ⟨hb, hz⟩ | ⟨hz, hrest⟩
  · have hin := fun W => l01In_no z 0 1000000 W (by omega)
    have h0 := no hb
    have hcB : (C != 0) = true := by simpa using h0
    have hr0 := bad _ hb h0
    have hcc := hco _ hb
    clear hco bad no hz hb
    go_enter Try.func34, Try.ntmps34
    go_wp2_with fail
    refine (hin _).mono ?_
    rintro e _ ⟨rfl, rfl⟩
    go_wp2_with fail
    refine (hcc _ (Q.refl _)).mono ?_
    rintro e _ ⟨rfl, rfl⟩
    go_wp2_with fail
    go_ret2
    exact ⟨by rw [hr0.out]; rfl, Below.refl _ _⟩
  have hin := fun W => l01In_yes z 0 1000000 W hz.1 hz.2
  rcases hrest with ⟨hb, hn0⟩ | ⟨hn0, hrest⟩
  · have h0 := no hb
    have hcB : (C != 0) = true := by simpa using h0
    have hr0 := bad _ hb h0
    have hcc := hco _ hb
    subst hn0
    clear hco bad no hz hb
    go_enter Try.func34, Try.ntmps34
    go_wp2_with fail
    refine (hin _).mono ?_
    rintro e _ ⟨rfl, rfl⟩
    go_wp2_with fail
    refine (hcc _ (Q.refl _)).mono ?_
    rintro e _ ⟨rfl, rfl⟩
    go_wp2_with fail
    go_ret2
    exact ⟨by rw [hr0.out]; rfl, Below.refl _ _⟩
  obtain ⟨n3, rfl⟩ : ∃ n3, n2 = n3 + 1 := ⟨n2 - 1, by omega⟩
  have hn0I : (0 : Int) < (n3 : Int) + 1 := by omega
  clear hn0
  rcases hrest with ⟨hb, hri⟩ | ⟨hri, hrest⟩
  · have hrs := gaRises_any A2 (n3 + 1) c2 B2 f false w h2 hn2 hri
    have h0 := no hb
    have hcB : (C != 0) = true := by simpa using h0
    have hr0 := bad _ hb h0
    have hcc := hco _ hb
    clear hco bad no hz hb hri
    go_enter Try.func34, Try.ntmps34
    go_wp2_with fail
    refine (hin _).mono ?_
    rintro e _ ⟨rfl, rfl⟩
    go_wp2_with fail
    refine hrs.mono ?_
    rintro e w1 ⟨rfl, hq1⟩
    go_wp2_with fail
    refine (hcc _ hq1).mono ?_
    rintro e _ ⟨rfl, rfl⟩
    go_wp2_with fail
    go_ret2
    exact ⟨by rw [hr0.out]; rfl, hq1.below _⟩
  have hrs := gaRises_any A2 (n3 + 1) c2 B2 f true w h2 hn2 hri
  have hwi := fun (b : Bool) (hb : Ga.wi 6 0 ((n1 : Int) - 1) f = b) W (hW : Q w W) => gaWithin_any 6 0 ((n1 : Int) - 1) A2 (n3 + 1) c2 B2 f b W (h2.q hW) hn2 hb
  rcases hrest with ⟨hb, hw0⟩ | ⟨hw0, hb⟩
  · have hww := hwi _ hw0
    have h0 := no hb
    have hcB : (C != 0) = true := by simpa using h0
    have hr0 := bad _ hb h0
    have hcc := hco _ hb
    clear hco bad no hz hb hri hwi hw0
    go_enter Try.func34, Try.ntmps34
    go_wp2_with fail
    refine (hin _).mono ?_
    rintro e _ ⟨rfl, rfl⟩
    go_wp2_with fail
    refine hrs.mono ?_
    rintro e w1 ⟨rfl, hq1⟩
    go_wp2_with fail
    refine (hww _ hq1).mono ?_
    rintro e _ ⟨rfl, rfl⟩
    go_wp2_with fail
    refine (hcc _ hq1).mono ?_
    rintro e _ ⟨rfl, rfl⟩
    go_wp2_with fail
    go_ret2
    exact ⟨by rw [hr0.out]; rfl, hq1.below _⟩
  have hww := hwi _ hw0
  obtain ⟨b2, o2, x, rfl, hb2, hx, cx⟩ := h2.at_ (show 0 < n3 + 1 by omega)
  have ex : f.getD 0 0 = x := by rw [List.getD_eq_getElem?_getD, hx]; rfl
  rw [ex] at hb
  have cx' : ∀ W, Q w W → W.cell? ⟨b2, o2, none⟩ = some (.int .i64 x) := fun W hW => by
    obtain ⟨m, rfl⟩ := hW
    exact cx
  clear hx ex cx
  by_cases hx0 : x = 0
  · have hb' : Ga.dcB q f z = true := by rw [hb, decide_eq_true hx0]
    have hxB : (x == 0) = true := by simpa using hx0
    subst hx0
    have hcc := hco _ hb'
    by_cases h0 : C = 0
    · subst h0
      have hg : Ga.okG sl q = true := by
        have h9 := HC.out
        unfold Ga.dcC Ga.code at h9
        rw [hb'] at h9
        cases e : Ga.okG sl q
        · rw [e] at h9; simp at h9
        · rfl
      have hcs := fun W (hW : Q w W) => specGaCo_any sl z A1 (some ⟨b2, o2, none⟩) n1 c1 B1 (n3 + 1) c2 B2 q f R W (h1.q hW) (h2.q hW) (by rw [hW.size]; exact hB1) (by rw [hW.size]; exact hB2) hn2 hg hz (by rw [← HR.out]; unfold Ga.dcR; rw [HC.out, if_pos rfl])
      clear hco bad no hb hb' hri hwi hw0 hg hz
      go_enter Try.func34, Try.ntmps34
      go_wp2_with fail
      refine (hin _).mono ?_
      rintro e _ ⟨rfl, rfl⟩
      go_wp2_with fail
      refine hrs.mono ?_
      rintro e w1 ⟨rfl, hq1⟩
      have cx1 := cx' w1 hq1
      go_wp2_with fail
      refine (hww _ hq1).mono ?_
      rintro e _ ⟨rfl, rfl⟩
      go_wp2_with fail
      refine (hcc _ hq1).mono ?_
      rintro e _ ⟨rfl, rfl⟩
      go_wp2_with fail
      refine (hcs _ hq1).mono ?_
      rintro e w5 ⟨rfl, hb5⟩
      have hz9 := hq1.size
      go_wp2_with fail
      go_ret2
      exact ⟨rfl, (hq1.below _).trans (hb5.mono (by omega))⟩
    · have hcB : (C != 0) = true := by simpa using h0
      have hr0 := bad _ hb' h0
      clear hco bad no hz hb hb' hri hwi hw0
      go_enter Try.func34, Try.ntmps34
      go_wp2_with fail
      refine (hin _).mono ?_
      rintro e _ ⟨rfl, rfl⟩
      go_wp2_with fail
      refine hrs.mono ?_
      rintro e w1 ⟨rfl, hq1⟩
      have cx1 := cx' w1 hq1
      go_wp2_with fail
      refine (hww _ hq1).mono ?_
      rintro e _ ⟨rfl, rfl⟩
      go_wp2_with fail
      refine (hcc _ hq1).mono ?_
      rintro e _ ⟨rfl, rfl⟩
      go_wp2_with fail
      go_ret2
      exact ⟨by rw [hr0.out]; rfl, hq1.below _⟩
  · have hb' : Ga.dcB q f z = false := by rw [hb, decide_eq_false hx0]
    have hxB : (x == 0) = false := by simpa using hx0
    have h0 := no hb'
    have hcB : (C != 0) = true := by simpa using h0
    have hr0 := bad _ hb' h0
    have hcc := hco _ hb'
    clear hco bad no hz hb hb' hri hwi hw0
    go_enter Try.func34, Try.ntmps34
    go_wp2_with fail
    refine (hin _).mono ?_
    rintro e _ ⟨rfl, rfl⟩
    go_wp2_with fail
    refine hrs.mono ?_
    rintro e w1 ⟨rfl, hq1⟩
    have cx1 := cx' w1 hq1
    go_wp2_with fail
    refine (hww _ hq1).mono ?_
    rintro e _ ⟨rfl, rfl⟩
    go_wp2_with fail
    refine (hcc _ hq1).mono ?_
    rintro e _ ⟨rfl, rfl⟩
    go_wp2_with fail
    go_ret2
    exact ⟨by rw [hr0.out]; rfl, hq1.below _⟩
end Go.Proofs.Ytilfmnffdloneaa
