/- Contracts of the model's UpsFor, LeastRun and BestUps. -/
import Derived.Test.YtilfmnffdloneaaGaPb
namespace Go.Proofs.Ytilfmnffdloneaa
open Go.RowKit
set_option linter.unusedVariables false

set_option maxRecDepth 100000 in
set_option maxHeartbeats 4000000 in
theorem specGaUf_any (sl r : Int) (A1 : Option Addr) (n1 c1 B1 : Nat) (q R : List Int) (C : Int) (w : World) (h1 : Rd I w B1 A1 n1 q) (hB1 : B1 ≤ w.heap.size) (hn1 : n1 ≤ 1048576) (hR : Ga.ufR sl q r = R) (hC : Ga.ufC sl q r = C) :
    Calls Try.prog 26 #[.int .i64 sl, .slice A1 n1 c1, .int .i64 r] w fun e w' => LC w R C e w' := by
  obtain ⟨b, hb⟩ : ∃ b, decide (1 ≤ r ∧ r ≤ 1000000) = b := ⟨_, rfl⟩
  have hin : ∀ W, Calls Try.prog 54 #[.int .i64 r, .int .i64 1, .int .i64 1000000] W fun e w' => e = .returned (.bool b) ∧ W = w' := fun W => by
    cases b
    · exact l01In_no r 1 1000000 W (by have := of_decide_eq_false hb; omega)
    · exact l01In_yes r 1 1000000 W (of_decide_eq_true hb).1 (of_decide_eq_true hb).2
  obtain ⟨K, hK⟩ : ∃ K, Ga.code sl q b = K := ⟨_, rfl⟩
  have hco := specGaC_any sl A1 n1 c1 B1 q b K w h1 hn1 hK
  by_cases h0 : K = 0
  · subst h0
    have hgb : Ga.okG sl q = true ∧ b = true := by
      unfold Ga.code at hK
      cases e1 : Ga.okG sl q <;> cases b <;> simp [e1] at hK ⊢
    obtain ⟨hg, rfl⟩ := hgb
    have hgg := Ga.okG_iff.1 hg
    have hrb := of_decide_eq_true hb
    have hn6 : n1 ≤ 6 := by rw [← h1.1]; exact hgg.2.2.2.1
    have hfo := specGaF_any A1 n1 c1 B1 q r w h1 hB1 hn6 hgg.2.2.2.2 hrb
    obtain ⟨z, hz⟩ : ∃ z, Ga.tot (Ga.forR q r) = z := ⟨_, rfl⟩
    have HTW : Hid (Ga.tw 0 (Ga.forR q r) = z) := Lib.hid (by rw [Ga.tw_for hgg.2.2.2.1 hgg.2.2.2.2 hrb.1, hz])
    have HC : Hid (C = if z ≤ sl then 0 else 4) := Lib.hid (by rw [← hC]; unfold Ga.ufC; rw [if_pos hg, if_pos hrb, hz])
    have HR : Hid (R = if C = 0 then Ga.forR q r else []) := Lib.hid (by rw [← hR]; unfold Ga.ufR; rw [hC])
    clear hR hC hg hgg hrb hb hK hz
    go_enter Try.func26, Try.ntmps26
    go_wp2_with fail
    refine (hin _).mono ?_
    rintro e _ ⟨rfl, rfl⟩
    go_wp2_with fail
    refine hco.mono ?_
    rintro e _ ⟨rfl, rfl⟩
    clear hco hin
    go_wp2_with fail
    refine hfo.mono ?_
    rintro e w1 ⟨A5, c5, rfl, ho5, hb5⟩
    have hsm := gaSum_any A5 n1 c5 w1.heap.size (Ga.forR q r) z w1 ho5.rd (by omega) HTW.out
    have HB5 := Lib.hid hb5
    have HO5 := Lib.hid ho5
    clear ho5 hb5 hfo
    by_cases hzs : sl < z
    · have HC2 : Hid (C = 4) := Lib.hid (by rw [HC.out, if_neg (by omega)])
      have HR2 : Hid (R = []) := Lib.hid (by rw [HR.out, HC2.out]; rfl)
      go_wp2_with fail
      refine hsm.mono ?_
      rintro e _ ⟨rfl, rfl⟩
      go_wp2_with fail
      go_ret2
      exact LC.nil_ HR2.out HC2.out HB5.out
    · have HC2 : Hid (C = 0) := Lib.hid (by rw [HC.out, if_pos (by omega)])
      have HR2 : Hid (R = Ga.forR q r) := Lib.hid (by rw [HR.out, HC2.out]; rfl)
      have hzd : (sl < z) = False := eq_false hzs
      clear hzs
      go_wp2_with fail
      refine hsm.mono ?_
      rintro e _ ⟨rfl, rfl⟩
      go_wp2_with fail
      go_ret2
      exact LC.mk_ HR2.out HC2.out HO5.out (Nat.le_refl _) (Nat.le_refl _) (by omega) HB5.out
  · have HC : Hid (C = K) := Lib.hid (by
      rw [← hC, ← hK]
      unfold Ga.ufC Ga.code
      cases e1 : Ga.okG sl q
      · rfl
      · cases b
        · rw [if_pos rfl, if_neg (of_decide_eq_false hb)]
          rfl
        · unfold Ga.code at hK
          rw [e1] at hK
          exact absurd hK.symm h0)
    have HR : Hid (R = []) := Lib.hid (by rw [← hR]; unfold Ga.ufR; rw [hC, HC.out, if_neg h0])
    have hcB : (K != 0) = true := by simpa using h0
    clear hR hC hb hK
    go_enter Try.func26, Try.ntmps26
    go_wp2_with fail
    refine (hin _).mono ?_
    rintro e _ ⟨rfl, rfl⟩
    go_wp2_with fail
    refine hco.mono ?_
    rintro e _ ⟨rfl, rfl⟩
    go_wp2_with fail
    go_ret2
    exact LC.nil_ HR.out HC.out (Below.refl _ _)
set_option maxRecDepth 100000 in
set_option maxHeartbeats 4000000 in
theorem specGaLr_any (sl : Int) (A1 : Option Addr) (n1 c1 B1 : Nat) (q : List Int) (R C : Int) (w : World) (h1 : Rd I w B1 A1 n1 q) (hB1 : B1 ≤ w.heap.size) (hn1 : n1 ≤ 1048576) (hR : Ga.lrR sl q = R) (hC : Ga.lrC sl q = C) :
    Calls Try.prog 18 #[.int .i64 sl, .slice A1 n1 c1] w fun e w' => e = .returned (.tuple #[.int .i64 R, .int .i64 C]) ∧ Below w.heap.size w w' := by
  have hco := specGaC_any sl A1 n1 c1 B1 q true C w h1 hn1 hC
  obtain ⟨d, hd⟩ : ∃ d, Ga.okG sl q = d := ⟨_, rfl⟩
  cases d
  · have e1 : C = 1 := by rw [← hC]; unfold Ga.lrC Ga.code; rw [hd]; rfl
    have HR : Hid (R = 0) := Lib.hid (by rw [← hR]; unfold Ga.lrR; rw [hd]; rfl)
    subst e1
    clear hR hC hd
    go_enter Try.func18, Try.ntmps18
    go_wp2_with fail
    refine hco.mono ?_
    rintro e _ ⟨rfl, rfl⟩
    go_wp2_with fail
    go_ret2
    exact ⟨by rw [HR.out]; rfl, Below.refl _ _⟩
  · have e1 : C = 0 := by rw [← hC]; unfold Ga.lrC Ga.code; rw [hd]; rfl
    have HR : Hid (Ga.least sl q = R) := Lib.hid (by rw [← hR]; unfold Ga.lrR; rw [hd, if_pos rfl])
    have hgg := Ga.okG_iff.1 hd
    have hle := specGaL_any sl A1 n1 c1 B1 q R w h1 hB1 (by rw [← h1.1]; exact hgg.2.2.2.1) hgg.2.2.2.2 (by rw [← h1.1]; exact hgg.2.2.1) HR.out
    subst e1
    clear hR hC hd hgg
    go_enter Try.func18, Try.ntmps18
    go_wp2_with fail
    refine hco.mono ?_
    rintro e _ ⟨rfl, rfl⟩
    go_wp2_with fail
    refine hle.mono ?_
    rintro e w1 ⟨rfl, hb1⟩
    go_wp2_with fail
    go_ret2
    exact ⟨rfl, hb1⟩
set_option maxRecDepth 100000 in
set_option maxHeartbeats 4000000 in
theorem specGaBu_any (sl : Int) (A1 : Option Addr) (n1 c1 B1 : Nat) (q R : List Int) (C : Int) (w : World) (h1 : Rd I w B1 A1 n1 q) (hB1 : B1 ≤ w.heap.size) (hn1 : n1 ≤ 1048576) (hR : Ga.buR sl q = R) (hC : Ga.lrC sl q = C) :
    Calls Try.prog 16 #[.int .i64 sl, .slice A1 n1 c1] w fun e w' => LC w R C e w' := by
  have hco := specGaC_any sl A1 n1 c1 B1 q true C w h1 hn1 hC
  obtain ⟨d, hd⟩ : ∃ d, Ga.okG sl q = d := ⟨_, rfl⟩
  cases d
  · have e1 : C = 1 := by rw [← hC]; unfold Ga.lrC Ga.code; rw [hd]; rfl
    have HR : Hid (R = []) := Lib.hid (by rw [← hR]; unfold Ga.buR; rw [hd]; rfl)
    subst e1
    clear hR hC hd
    go_enter Try.func16, Try.ntmps16
    go_wp2_with fail
    refine hco.mono ?_
    rintro e _ ⟨rfl, rfl⟩
    go_wp2_with fail
    go_ret2
    exact LC.nil_ HR.out rfl (Below.refl _ _)
  · have e1 : C = 0 := by rw [← hC]; unfold Ga.lrC Ga.code; rw [hd]; rfl
    obtain ⟨L, hL⟩ : ∃ L, Ga.least sl q = L := ⟨_, rfl⟩
    have HR : Hid (Ga.forR q L = R) := Lib.hid (by rw [← hR]; unfold Ga.buR; rw [hd, if_pos rfl, hL])
    have hgg := Ga.okG_iff.1 hd
    have hn6 : n1 ≤ 6 := by rw [← h1.1]; exact hgg.2.2.2.1
    have hle := specGaL_any sl A1 n1 c1 B1 q L w h1 hB1 hn6 hgg.2.2.2.2 (by rw [← h1.1]; exact hgg.2.2.1) hL
    have hLP := Ga.least_P hgg.2.2.2.2 hgg.2.2.1
    rw [hL] at hLP
    have HLB := Lib.hid hLP.1
    have HQ := Lib.hid hgg.2.2.2.2
    subst e1
    clear hR hC hd hgg hL hLP
    go_enter Try.func16, Try.ntmps16
    go_wp2_with fail
    refine hco.mono ?_
    rintro e _ ⟨rfl, rfl⟩
    go_wp2_with fail
    refine hle.mono ?_
    rintro e w1 ⟨rfl, hb1⟩
    have hfo := specGaF_any A1 n1 c1 B1 q L w1 (h1.below hb1 hB1) (by have := hb1.size; omega) hn6 HQ.out HLB.out
    rw [HR.out] at hfo
    have hz1' := hb1.size
    go_wp2_with fail
    refine hfo.mono ?_
    rintro e w2 ⟨A5, c5, rfl, ho5, hb5⟩
    have HB5 := Lib.hid (hb1.trans (hb5.mono hz1'))
    have HO5 := Lib.hid (ho5.mono hz1' (Nat.le_refl _))
    clear ho5 hb5 hfo hle hco
    go_wp2_with fail
    go_ret2
    exact LC.mk_ rfl rfl HO5.out (Nat.le_refl _) (Nat.le_refl _) (by omega) HB5.out
end Go.Proofs.Ytilfmnffdloneaa
