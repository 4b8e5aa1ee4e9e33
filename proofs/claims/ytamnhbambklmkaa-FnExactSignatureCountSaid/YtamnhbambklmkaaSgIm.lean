/- Contracts of the tests of units and pages, and of IsUnit, SignatureCount and SignatureOf, the program's and the model's. -/
import Derived.Test.YtamnhbambklmkaaSgMath
import Derived.Test.YtamnhbambklmkaaPad
import Derived.Test.YtamnhbambklmkaaSrc
namespace Go.Proofs.Ytamnhbambklmkaa
open Go.RowKit

theorem folds_any (u v : Int) (w : World) (hv : Sg.folds u = v) :
    Calls Try.prog 73 #[.int .i64 u] w fun e w' => e = .returned (.int .i64 v) ∧ w = w' := by
  have HV := Lib.hid hv
  clear hv
  by_cases h1 : u = 128
  · subst h1
    have HE : Hid (6 = v) := Lib.hid HV.out
    go_enter Try.func73, Try.ntmps73
    go_wp2
    go_ret
    exact ⟨ret_i HE.out, rfl⟩
  by_cases h2 : u = 64
  · subst h2
    have HE : Hid (5 = v) := Lib.hid HV.out
    go_enter Try.func73, Try.ntmps73
    go_wp2
    go_ret
    exact ⟨ret_i HE.out, rfl⟩
  by_cases h3 : u = 32
  · subst h3
    have HE : Hid (4 = v) := Lib.hid HV.out
    go_enter Try.func73, Try.ntmps73
    go_wp2
    go_ret
    exact ⟨ret_i HE.out, rfl⟩
  by_cases h4 : u = 16
  · subst h4
    have HE : Hid (3 = v) := Lib.hid HV.out
    go_enter Try.func73, Try.ntmps73
    go_wp2
    go_ret
    exact ⟨ret_i HE.out, rfl⟩
  by_cases h5 : u = 8
  · subst h5
    have HE : Hid (2 = v) := Lib.hid HV.out
    go_enter Try.func73, Try.ntmps73
    go_wp2
    go_ret
    exact ⟨ret_i HE.out, rfl⟩
  by_cases h6 : u = 4
  · subst h6
    have HE : Hid (1 = v) := Lib.hid HV.out
    go_enter Try.func73, Try.ntmps73
    go_wp2
    go_ret
    exact ⟨ret_i HE.out, rfl⟩
  · have HE : Hid (0 = v) := Lib.hid (by
      have := HV.out
      unfold Sg.folds at this
      rwa [if_neg h1, if_neg h2, if_neg h3, if_neg h4, if_neg h5, if_neg h6] at this)
    go_enter Try.func73, Try.ntmps73
    go_wp2
    go_ret
    exact ⟨ret_i HE.out, rfl⟩

theorem pageTotal_any (p : Int) (b : Bool) (w : World) (hb : Sg.inP p = b) :
    Calls Try.prog 86 #[.int .i64 p] w fun e w' => e = .returned (.bool b) ∧ w = w' := by
  have HB := Lib.hid hb
  clear hb
  by_cases h1 : 1 ≤ p
  · go_enter Try.func86, Try.ntmps86
    go_wp2
    go_ret
    exact ⟨ret_b (by rw [← HB.out]; simp [Sg.inP, h1]), rfl⟩
  · have h1' : p < 1 := by omega
    go_enter Try.func86, Try.ntmps86
    go_wp2
    go_ret
    exact ⟨ret_b (by rw [← HB.out]; simp [Sg.inP]; omega), rfl⟩

set_option maxHeartbeats 1000000 in
theorem can_any (p : Int) (A : Option Addr) (n c B : Nat) (L : List Int) (b : Bool) (w : World) (h : Rd I w B A n L) (hn : n ≤ 1048576) (hb : Sg.canB p L = b) :
    Calls Try.prog 65 #[.int .i64 p, .slice A n c] w fun e w' => e = .returned (.bool b) ∧ Q w w' := by
  have HL : Hid (L.length = n) := h.1
  have HB := Lib.hid hb
  clear hb
  go_enter Try.func65, Try.ntmps65
  go_wp2
  go_loopw [5, 7, 8, 11] (fun f _ _ i wr => ∃ (k : Nat) (x : Int), k ≤ n ∧ i = .int .i64 k ∧ f = .int .i64 x ∧ Hid (Sg.cg 0 L = Sg.cg x (L.drop k)) ∧ Q w wr) (fun _ _ _ i _ => n - (intOf i).toNat)
  case atStart => exact ⟨0, 0, Nat.zero_le _, rfl, rfl, Lib.hid rfl, Q.refl _⟩
  case round =>
    obtain ⟨k, x, hk, rfl, rfl, HC, hq⟩ := hrel
    have h := h.q hq
    by_cases hlt : k < n
    · obtain ⟨b', o, u, rfl, hbB, hu, hc⟩ := h.at_ hlt
      have HD : Hid (L.drop k = u :: L.drop (k + 1)) := Lib.hid (by
        have hk : k < L.length := (List.getElem?_eq_some_iff.1 hu).1
        rw [List.drop_eq_getElem_cons hk]
        congr 1
        exact (List.getElem?_eq_some_iff.1 hu).2)
      clear hu
      obtain ⟨y, hy⟩ : ∃ y, Sg.folds u = y := ⟨_, rfl⟩
      have HY := Lib.hid hy
      clear hy
      by_cases hle : y ≤ x
      · have HF : Hid (false = b) := Lib.hid (by
          rw [← HB.out]
          unfold Sg.canB
          rw [HC.out, HD.out, Sg.cg, HY.out, if_pos hle]
          rfl)
        go_wp2_with (go_at_call 73; refine (folds_any u y _ HY.out).mono ?_; rintro e _ ⟨rfl, rfl⟩)
        go_ret
        exact ⟨ret_b HF.out, hq⟩
      · have HF : Hid (Sg.cg 0 L = Sg.cg y (L.drop (k + 1))) := Lib.hid (by rw [HC.out, HD.out, Sg.cg, HY.out, if_neg hle])
        have hle' : x < y := by omega
        go_wp2_with (go_at_call 73; refine (folds_any u y _ HY.out).mono ?_; rintro e _ ⟨rfl, rfl⟩)
        go_roundw
        case rel => exact ⟨k + 1, y, by omega, by go_num, rfl, HF, hq⟩
        case measure => simp [intOf]; omega
    · obtain rfl : k = n := by omega
      have HE : Hid (Sg.canE p (some x) = b) := Lib.hid (by
        rw [← HB.out]
        unfold Sg.canB
        rw [HC.out, List.drop_of_length_le (by have := HL.out; omega)]
        rfl)
      by_cases g1 : 0 < x
      · obtain ⟨v, hv⟩ : ∃ v, Sg.inP p = v := ⟨_, rfl⟩
        have HF : Hid (v = b) := Lib.hid (by rw [← HE.out, ← hv]; simp [Sg.canE, g1])
        have HV := Lib.hid hv
        clear hv
        go_wp2_with (go_at_call 86; refine (pageTotal_any p v _ HV.out).mono ?_; rintro e _ ⟨rfl, rfl⟩)
        go_ret
        exact ⟨ret_b HF.out, hq⟩
      · have g1' : x ≤ 0 := by omega
        go_wp2
        go_ret
        exact ⟨ret_b (by rw [← HE.out]; simp [Sg.canE]; exact fun h => absurd h (by omega)), hq⟩

/-- canGather of one unit that the call writes out. -/
theorem can_lit (p u : Int) (b : Bool) (w : World) (hb : Sg.fits p u = b) :
    Calls Try.prog 65 #[.int .i64 p, .slice (some ⟨w.heap.size, 0, none⟩) 1 1] (w.alloc (.cells #[.int .i64 u] 2)) fun e w' => e = .returned (.bool b) ∧ Below w.heap.size w w' := by
  have hr : Rd I (w.alloc (.cells #[.int .i64 u] 2)) (w.heap.size + 1) (some ⟨w.heap.size, 0, none⟩) 1 [u] := by
    refine ⟨rfl, fun _ => ⟨_, 0, rfl, by omega, fun j x hx => ?_⟩⟩
    match j, hx with
    | 0, hx =>
      simp at hx
      subst hx
      simp [World.cell?_alloc_new]
  refine (can_any p _ 1 1 _ [u] b _ hr (by omega) (by rw [Sg.can_one]; exact hb)).mono ?_
  rintro e w' ⟨he, hq⟩
  exact ⟨he, ((Below.refl _ _).alloc (Nat.le_refl _) _).trans (hq.below _)⟩

theorem l06Unit_any (u : Int) (b : Bool) (w : World) (hb : Sg.un u = b) :
    Calls Try.prog 30 #[.int .i64 u] w fun e w' => e = .returned (.bool b) ∧ Below w.heap.size w w' := by
  have HB := Lib.hid hb
  clear hb
  go_enter Try.func30, Try.ntmps30
  go_wp2_with fail
  have hr := Rd.lit I w 2 Sg.allU
  refine (l01Has_any _ 6 6 _ u Sg.allU _ hr (by omega)).mono ?_
  rintro e _ ⟨rfl, rfl⟩
  go_wp2_with fail
  go_ret
  exact ⟨ret_b (by rw [← HB.out]; simp [Sg.un, Sg.allU]), (Below.refl _ _).alloc (Nat.le_refl _) _⟩

theorem implUnit_any (u : Int) (b : Bool) (w : World) (hb : Sg.un u = b) :
    Calls Try.prog 29 #[.int .i64 u] w fun e w' => e = .returned (.bool b) ∧ Below w.heap.size w w' := by
  have HB : Hid (decide (0 < Sg.folds u) = b) := Lib.hid (by rw [Sg.un_folds]; exact hb)
  clear hb
  obtain ⟨y, hy⟩ : ∃ y, Sg.folds u = y := ⟨_, rfl⟩
  have HY := Lib.hid hy
  rw [hy] at HB
  clear hy
  go_enter Try.func29, Try.ntmps29
  go_wp2_with fail
  refine (folds_any u y _ HY.out).mono ?_
  rintro e _ ⟨rfl, rfl⟩
  go_wp2_with fail
  go_ret
  exact ⟨ret_b HB.out, Below.refl _ _⟩

set_option maxHeartbeats 1000000 in
theorem l06Fits_any (p u : Int) (b : Bool) (w : World) (hb : Sg.fits p u = b) :
    Calls Try.prog 66 #[.int .i64 p, .int .i64 u] w fun e w' => e = .returned (.bool b) ∧ Below w.heap.size w w' := by
  have HB := Lib.hid hb
  clear hb
  by_cases hp : 1 ≤ p ∧ p ≤ 4096
  · obtain ⟨h1, h2⟩ := hp
    have HE : Hid (Sg.un u = b) := Lib.hid (by rw [← HB.out]; simp [Sg.fits, Sg.inP, h1, h2])
    clear HB
    go_enter Try.func66, Try.ntmps66
    go_wp2_with fail
    refine (l01In_yes _ _ _ _ h1 h2).mono ?_
    rintro e _ ⟨rfl, rfl⟩
    go_wp2_with fail
    refine (l06Unit_any u b _ HE.out).mono ?_
    rintro e w1 ⟨rfl, hb1⟩
    go_wp2_with fail
    go_ret
    exact ⟨rfl, hb1⟩
  · have H1 : Hid (p < 1 ∨ 4096 < p) := Lib.hid (by omega)
    have HE : Hid (false = b) := Lib.hid (by rw [← HB.out]; unfold Sg.fits Sg.inP; rw [decide_eq_false hp]; rfl)
    clear HB hp
    go_enter Try.func66, Try.ntmps66
    go_wp2_with fail
    refine (l01In_no _ _ _ _ H1.out).mono ?_
    rintro e _ ⟨rfl, rfl⟩
    go_wp2_with fail
    go_ret
    exact ⟨ret_b HE.out, Below.refl _ _⟩
end Go.Proofs.Ytamnhbambklmkaa
