/- Contracts of the model's tests of gangs and ups. -/
import Derived.Test.YtilfmnffdloneaaGaMath
import Derived.Test.YtilfmnffdloneaaIn
import Derived.Test.YtilfmnffdloneaaPad
import Derived.BigQuiet
import Derived.BigRegion
import Derived.Deep.QuietTactic
namespace Go.Proofs.Ytilfmnffdloneaa
open Go.RowKit
set_option linter.unusedVariables false

theorem take_nextGa (l : List Int) (k : Nat) (x : Int) (hx : l[k]? = some x) : l.take (k + 1) = l.take k ++ [x] := by
  rw [List.take_add_one, hx]
  rfl
set_option maxRecDepth 100000 in
set_option maxHeartbeats 1000000 in
theorem gaWithin_any (most : Nat) (lo hi : Int) (A : Option Addr) (n c B : Nat) (s : List Int) (b : Bool) (w : World) (h : Rd I w B A n s) (hn : n ≤ 1048576) (hb : Ga.wi most lo hi s = b) :
    Calls Try.prog 63 #[.slice A n c, .int .i64 (most : Int), .int .i64 lo, .int .i64 hi] w fun e w' => e = .returned (.bool b) ∧ w = w' := by
  have HL : Hid (s.length = n) := h.1
  have HB := Lib.hid hb
  clear hb
  go_enter Try.func63, Try.ntmps63
  go_wp2_with fail
  go_loop [9] (fun i => ∃ k : Nat, k ≤ n ∧ i = .int .i64 k ∧ ∀ c ∈ s.take k, lo ≤ c ∧ c ≤ hi) (fun i => n - (intOf i).toNat)
  case atStart => exact ⟨0, Nat.zero_le _, rfl, by simp⟩
  case round =>
    obtain ⟨k, hk, rfl, hall⟩ := hrel
    have HA := Lib.hid hall
    clear hall
    by_cases hlt : k < n
    · obtain ⟨b1, o, x, rfl, hbB, hx, hc⟩ := h.at_ hlt
      have HX := Lib.hid hx
      clear hx
      by_cases hok : lo ≤ x ∧ x ≤ hi
      · obtain ⟨x0, x1⟩ := hok
        have hin := fun W => l01In_yes x lo hi W x0 x1
        have HOK : Hid (lo ≤ x ∧ x ≤ hi) := Lib.hid ⟨x0, x1⟩
        clear x0 x1
        go_wp2_with fail
        refine (hin _).mono ?_
        rintro e _ ⟨rfl, rfl⟩
        go_wp2_with fail
        go_round
        case rel =>
          refine ⟨k + 1, by omega, by go_num, ?_⟩
          rw [take_nextGa s k x HX.out]
          intro y hy
          rcases List.mem_append.1 hy with hy | hy
          · exact HA.out y hy
          · simp at hy; subst hy; exact HOK.out
        case measure => simp [intOf]; omega
      · have HN : Hid (b = false) := Lib.hid (by
          rw [← HB.out]
          unfold Ga.wi
          rw [Bool.and_eq_false_iff]
          right
          rw [List.all_eq_false]
          exact ⟨x, List.mem_of_getElem? HX.out, by simpa using hok⟩)
        have hin := fun W => l01In_no x lo hi W (by omega)
        clear hok
        go_wp2_with fail
        refine (hin _).mono ?_
        rintro e _ ⟨rfl, rfl⟩
        go_wp2_with fail
        go_ret
        exact ⟨ret_b HN.out.symm, rfl⟩
    · obtain rfl : k = n := by omega
      have HE : Hid (decide (k ≤ most) = b) := Lib.hid (by
        rw [← HB.out]
        unfold Ga.wi
        have h1 := HA.out
        rw [List.take_of_length_le (by rw [HL.out]; exact Nat.le_refl _)] at h1
        rw [HL.out, List.all_eq_true.2 (fun x hx => by simpa using h1 x hx), Bool.and_true])
      go_wp2_with fail
      go_ret
      exact ⟨ret_b (by rw [← HE.out]), rfl⟩
/-- A sum as it is reckoned. -/
def Ga.tw : Int → List Int → Int
  | t, [] => t
  | t, x :: s => Ga.tw (IntKind.i64.wrap (t + x)) s
theorem Ga.tw_snoc (t : Int) (s : List Int) (x : Int) : Ga.tw t (s ++ [x]) = IntKind.i64.wrap (Ga.tw t s + x) := by
  induction s generalizing t with
  | nil => rfl
  | cons a s ih => simp only [List.cons_append, Ga.tw, ih]
theorem Ga.tw_is {t : Int} {s : List Int} (ht : 0 ≤ t) (hs : ∀ x ∈ s, 0 ≤ x ∧ x ≤ 10000000) (hb : t + (s.length : Int) * 10000000 ≤ 9000000000000000000) : Ga.tw t s = t + Ga.tot s := by
  induction s generalizing t with
  | nil => simp [Ga.tw, Ga.tot]
  | cons a s ih =>
    have h1 := hs a (by simp)
    simp only [List.length_cons, Int.natCast_add, Int.add_mul] at hb
    have h0 : 0 ≤ (s.length : Int) * 10000000 := Int.mul_nonneg (by omega) (by omega)
    have e : IntKind.i64.wrap (t + a) = t + a := IntWalk.i64_in _ (by omega)
    simp only [Ga.tw, Ga.tot, e]
    rw [ih (by omega) (fun x hx => hs x (by simp [hx])) (by omega)]
    omega
set_option maxRecDepth 100000 in
set_option maxHeartbeats 1000000 in
theorem gaSum_any (A : Option Addr) (n c B : Nat) (s : List Int) (q : Int) (w : World) (h : Rd I w B A n s) (hn : n ≤ 1048576) (hq : Ga.tw 0 s = q) :
    Calls Try.prog 55 #[.slice A n c] w fun e w' => e = .returned (.int .i64 q) ∧ w = w' := by
  have HL : Hid (s.length = n) := h.1
  have HQ := Lib.hid hq
  clear hq
  go_enter Try.func55, Try.ntmps55
  go_wp2_with fail
  go_loop [3, 4] (fun v i => ∃ (k : Nat) (t : Int), k ≤ n ∧ i = .int .i64 k ∧ v = .int .i64 t ∧ Hid (Ga.tw 0 (s.take k) = t)) (fun _ i => n - (intOf i).toNat)
  case atStart => exact ⟨0, 0, Nat.zero_le _, rfl, rfl, Lib.hid (by simp [Ga.tw])⟩
  case round =>
    obtain ⟨k, t, hk, rfl, rfl, HT⟩ := hrel
    by_cases hlt : k < n
    · obtain ⟨b1, o, x, rfl, hbB, hx, hc⟩ := h.at_ hlt
      obtain ⟨z, ez⟩ : ∃ z, IntKind.i64.wrap (t + x) = z := ⟨_, rfl⟩
      have HZ : Hid (Ga.tw 0 (s.take (k + 1)) = z) := Lib.hid (by rw [take_nextGa s k x hx, Ga.tw_snoc, HT.out, ez])
      clear hx
      go_wp2_with fail
      go_round
      case rel => exact ⟨k + 1, z, by omega, by go_num, rfl, HZ⟩
      case measure => simp [intOf]; omega
    · obtain rfl : k = n := by omega
      have HE : Hid (t = q) := Lib.hid (by
        rw [← HT.out, ← HQ.out, List.take_of_length_le (by rw [HL.out]; exact Nat.le_refl _)])
      go_wp2_with fail
      go_ret
      exact ⟨by rw [HE.out]; rfl, rfl⟩
set_option maxRecDepth 100000 in
set_option maxHeartbeats 2000000 in
theorem specGaG_any (sl : Int) (A : Option Addr) (n c B : Nat) (q : List Int) (b : Bool) (w : World) (h : Rd I w B A n q) (hn : n ≤ 1048576) (hb : Ga.okG sl q = b) :
    Calls Try.prog 35 #[.int .i64 sl, .slice A n c] w fun e w' => e = .returned (.bool b) ∧ w = w' := by
  have HL : Hid (q.length = n) := h.1
  have HB := Lib.hid hb
  clear hb
  by_cases hs : 1 ≤ sl ∧ sl ≤ 32
  · have hin := fun W => l01In_yes sl 1 32 W hs.1 hs.2
    by_cases h1 : n = 0
    · have HF : Hid (b = false) := Lib.hid (by rw [← HB.out]; unfold Ga.okG; rw [HL.out, decide_eq_false (show ¬ 1 ≤ n by omega), Bool.false_and, Bool.and_false])
      subst h1
      clear hs
      go_enter Try.func35, Try.ntmps35
      go_wp2_with fail
      refine (hin _).mono ?_
      rintro e _ ⟨rfl, rfl⟩
      go_wp2_with fail
      go_ret
      exact ⟨ret_b HF.out.symm, rfl⟩
    · have h1I : (1 : Int) ≤ (n : Int) := by omega
      by_cases h2 : (n : Int) ≤ sl
      · have hwi := gaWithin_any 6 1 1000000 A n c B q b w h hn (by rw [← HB.out]; unfold Ga.okG; rw [HL.out, decide_eq_true hs, decide_eq_true (show 1 ≤ n by omega), decide_eq_true h2]; simp)
        clear hs h1
        go_enter Try.func35, Try.ntmps35
        go_wp2_with fail
        refine (hin _).mono ?_
        rintro e _ ⟨rfl, rfl⟩
        go_wp2_with fail
        refine hwi.mono ?_
        rintro e _ ⟨rfl, rfl⟩
        go_wp2_with fail
        go_ret
        exact ⟨rfl, rfl⟩
      · have HF : Hid (b = false) := Lib.hid (by rw [← HB.out]; unfold Ga.okG; rw [HL.out, decide_eq_false h2, Bool.false_and, Bool.and_false, Bool.and_false])
        have h2' : ¬ (n : Int) ≤ sl := h2
        clear hs h1
        go_enter Try.func35, Try.ntmps35
        go_wp2_with fail
        refine (hin _).mono ?_
        rintro e _ ⟨rfl, rfl⟩
        go_wp2_with fail
        go_ret
        exact ⟨ret_b HF.out.symm, rfl⟩
  · have hin := fun W => l01In_no sl 1 32 W (by omega)
    have HF : Hid (b = false) := Lib.hid (by rw [← HB.out]; unfold Ga.okG; rw [decide_eq_false hs, Bool.false_and])
    clear hs
    go_enter Try.func35, Try.ntmps35
    go_wp2_with fail
    refine (hin _).mono ?_
    rintro e _ ⟨rfl, rfl⟩
    go_wp2_with fail
    go_ret
    exact ⟨ret_b HF.out.symm, rfl⟩
/-- The code of a gang and of whatever else is in its range. -/
def Ga.code (sl : Int) (q : List Int) (b : Bool) : Int := if Ga.okG sl q then (if b then 0 else 2) else 1
set_option maxRecDepth 100000 in
theorem specGaC_any (sl : Int) (A : Option Addr) (n c B : Nat) (q : List Int) (b : Bool) (C : Int) (w : World) (h : Rd I w B A n q) (hn : n ≤ 1048576) (hC : Ga.code sl q b = C) :
    Calls Try.prog 42 #[.int .i64 sl, .slice A n c, .bool b] w fun e w' => e = .returned (.int .i64 C) ∧ w = w' := by
  obtain ⟨d, hd⟩ : ∃ d, Ga.okG sl q = d := ⟨_, rfl⟩
  have hg := fun W (hW : Rd I W B A n q) => specGaG_any sl A n c B q d W hW hn hd
  have HC : Hid (C = if d then (if b then 0 else 2) else 1) := Lib.hid (by rw [← hC]; unfold Ga.code; rw [hd])
  clear hC hd
  cases d <;> cases b
  all_goals
    go_enter Try.func42, Try.ntmps42
    go_wp2_with fail
    refine (hg _ h).mono ?_
    rintro e _ ⟨rfl, rfl⟩
    go_wp2_with fail
    go_ret
    exact ⟨by rw [HC.out]; rfl, rfl⟩
/-- A truth is handed back of which something is known. -/
def AnyBG (R : Bool → Prop) (w : World) (e : Ending) (w' : World) : Prop := ∃ b : Bool, e = .returned (.bool b) ∧ R b ∧ w = w'
set_option maxRecDepth 100000 in
set_option maxHeartbeats 2000000 in
theorem specGaU_any (sl : Int) (A1 A2 : Option Addr) (n1 c1 B1 n2 c2 B2 : Nat) (q u : List Int) (w : World) (h1 : Rd I w B1 A1 n1 q) (h2 : Rd I w B2 A2 n2 u) (hn1 : n1 ≤ 1048576) (hn2 : n2 ≤ 1048576) :
    Calls Try.prog 51 #[.int .i64 sl, .slice A1 n1 c1, .slice A2 n2 c2] w fun e w' => AnyBG (fun b => sl ≤ 32 → Ga.okU sl q u = b) w e w' := by
  have HL1 : Hid (q.length = n1) := Lib.hid h1.1
  have HL2 : Hid (u.length = n2) := Lib.hid h2.1
  by_cases hl : n2 = n1
  · subst hl
    obtain ⟨d, hd⟩ : ∃ d, Ga.wi 6 1 sl u = d := ⟨_, rfl⟩
    have hwi := gaWithin_any 6 1 sl A2 n2 c2 B2 u d w h2 hn2 hd
    have HD := Lib.hid hd
    clear hd
    cases d
    · have HE : Hid (Ga.okU sl q u = false) := Lib.hid (by unfold Ga.okU; rw [HD.out, Bool.false_and, Bool.and_false])
      go_enter Try.func51, Try.ntmps51
      go_wp2_with fail
      refine hwi.mono ?_
      rintro e _ ⟨rfl, rfl⟩
      go_wp2_with fail
      go_ret
      exact ⟨false, rfl, fun _ => HE.out, rfl⟩
    · obtain ⟨z, hz⟩ : ∃ z, Ga.tw 0 u = z := ⟨_, rfl⟩
      have hsm := gaSum_any A2 n2 c2 B2 u z w h2 hn2 hz
      have HE : Hid (sl ≤ 32 → Ga.okU sl q u = decide (z ≤ sl)) := Lib.hid fun hs => by
        have h5 := Ga.wi_iff.1 HD.out
        have h6 : Ga.tw 0 u = Ga.tot u := by
          rw [Ga.tw_is (Int.le_refl 0) (fun x hx => by have := h5.2 x hx; omega) (by omega)]
          omega
        unfold Ga.okU
        rw [HD.out, HL1.out, HL2.out, ← hz, h6]
        simp
      clear hz
      go_enter Try.func51, Try.ntmps51
      go_wp2_with fail
      refine hwi.mono ?_
      rintro e _ ⟨rfl, rfl⟩
      go_wp2_with fail
      refine hsm.mono ?_
      rintro e _ ⟨rfl, rfl⟩
      go_wp2_with fail
      go_ret
      exact ⟨decide (z ≤ sl), rfl, HE.out, rfl⟩
  · have HE : Hid (Ga.okU sl q u = false) := Lib.hid (by unfold Ga.okU; rw [HL1.out, HL2.out, decide_eq_false hl, Bool.false_and])
    have hlI : ¬ ((n2 : Int) = (n1 : Int)) := by omega
    have hlB : ((n2 : Int) == (n1 : Int)) = false := by simpa using hlI
    go_enter Try.func51, Try.ntmps51
    go_wp2_with fail
    go_ret
    exact ⟨false, rfl, fun _ => HE.out, rfl⟩
end Go.Proofs.Ytilfmnffdloneaa
