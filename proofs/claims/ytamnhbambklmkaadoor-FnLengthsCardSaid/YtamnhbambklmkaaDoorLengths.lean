/- The walk of the law of lengths. -/
import Derived.Test.YtamnhbambklmkaaDoorDamage
namespace Go.Proofs.YtamnhbambklmkaaDoor
open Go.RowKit

theorem big_any (A : Option Addr) (N C : Nat) (w : World) :
    Calls Tryd.prog 6 #[.slice A N C] w fun e w' => e = .returned (.bool (decide (4096 < N))) ∧ w = w' := by
  go_enter Tryd.func6, Tryd.ntmps6
  go_wp2
  go_ret
  exact ⟨ret_b (by simp; omega), rfl⟩

theorem lenText_ne (n : Int) (h : 0 ≤ n ∧ n ≤ 1000000000) : ¬ (lenText n).toList = [] := by
  rw [ByteArray.toList_eq, lenText_data h]
  simp
theorem lenText_out (n : Int) (h : ¬ (0 ≤ n ∧ n ≤ 1000000000)) : lenText n = ⟨#[]⟩ := by
  unfold lenText
  rw [if_neg h]
theorem LenR.own {n x : Int} {b : Bool} (h : LenR (lenText n) x b) : (0 ≤ n ∧ n ≤ 1000000000 ∧ b = true ∧ x = n ∧ ¬ (lenText n).toList = []) ∨ (b = false ∧ lenText n = ⟨#[]⟩) := by
  by_cases hn : 0 ≤ n ∧ n ≤ 1000000000
  · rcases h with ⟨rfl, hx, he⟩ | ⟨_, _, hne⟩
    · exact .inl ⟨hn.1, hn.2, rfl, (lenText_inj hn hx he).symm, lenText_ne n hn⟩
    · exact absurd rfl (hne n hn)
  · have e := lenText_out n hn
    rcases h with ⟨rfl, hx, he⟩ | ⟨rfl, _, _⟩
    · have := lenText_ne x hx
      rw [← he, e, ByteArray.toList_eq] at this
      exact absurd rfl this
    · exact .inr ⟨rfl, e⟩

set_option maxRecDepth 100000 in
set_option maxHeartbeats 4000000 in
theorem w_FnLengths (A : Option Addr) (N C : Nat) (l : List Int) (w : World) (h : Rd U w w.heap.size A N l) (hl : inByte l) (hL : Lb w) :
    Calls Tryd.prog 3 #[.slice A N C] w fun e w' => e = .returned (.bool true) ∧ Below w.heap.size w w' := by
  by_cases hN : N ≤ 4096
  · have HF : Hid (decide (4096 < N) = false) := decide_eq_false (by omega)
    have HL := Lib.hid hL
    clear hL
    go_enter Tryd.func3, Tryd.ntmps3
    go_wp2_with fail
    refine (big_any A N C _).mono ?_
    rintro e _ ⟨rfl, rfl⟩
    rw [HF.out]
    go_wp2_with fail
    refine (DrawLength_any N C _ A l _ h hl (Nat.le_refl _) (by omega)).mono ?_
    rintro e w1 ⟨n, rfl, hn, hb1⟩
    have hz1 := hb1.size
    have HL1 := Lib.hid (HL.out.below hb1)
    obtain ⟨t, ht⟩ : ∃ t, t = lenText n := ⟨_, rfl⟩
    have HT := Lib.hid ht
    have htz : t.size ≤ 40 := by rw [ht]; exact lenText_size n
    clear ht
    go_wp2_with fail
    refine (implLen_any n _ _ (by omega) HL1.out.tab gPow HL1.out.lt).mono ?_
    rintro e w2 ⟨rfl, hb2⟩
    rw [← HT.out]
    have hb2' := hb1.trans (hb2.mono hz1)
    have hz2 := hb2.size
    have HL2 := Lib.hid (HL1.out.below hb2)
    go_wp2_with fail
    refine (implRead_any t _ HL2.out (by omega)).mono ?_
    rintro e w3 ⟨x, ok, rfl, hok, hb3⟩
    have hb3' := hb2'.trans (hb3.mono (by omega))
    have hz3 := hb3.size
    have HL3 := Lib.hid (HL2.out.below hb3)
    have HOK : Hid (LenR (lenText n) x ok) := Lib.hid (by rw [← HT.out]; exact hok)
    clear hok
    go_wp2_with fail
    refine (DrawRead_any N C _ A l _ (h.below hb3' (Nat.le_refl _)) hl (by omega) (by omega)).mono ?_
    rintro e w4 ⟨s, rfl, hs, hb4⟩
    have hb4' := hb3'.trans (hb4.mono (by omega))
    have hz4 := hb4.size
    have HL4 := Lib.hid (HL3.out.below hb4)
    go_wp2_with fail
    refine (implRead_any s _ HL4.out (by omega)).mono ?_
    rintro e w5 ⟨y, one, rfl, h1, hb5⟩
    have hb5' := hb4'.trans (hb5.mono (by omega))
    have hz5 := hb5.size
    have HL5 := Lib.hid (HL4.out.below hb5)
    go_wp2_with fail
    refine (specRead_any s _ (by omega)).mono ?_
    rintro e w6 ⟨z, two, rfl, h2, hb6⟩
    have hb6' := hb5'.trans (hb6.mono (by omega))
    have hz6 := hb6.size
    have HL6 := Lib.hid (HL5.out.below hb6)
    obtain ⟨rfl, rfl⟩ := h1.same h2
    have HY : Hid (one = true → (0 ≤ y ∧ y ≤ 1000000000) ∧ s = lenText y) := Lib.hid (fun ho => by
      rcases h1 with ⟨_, hy, he⟩ | ⟨hf, _, _⟩
      · exact ⟨hy, he⟩
      · rw [hf] at ho; cases ho)
    clear h1 h2 hb1 hb2 hb3 hb4 hb5 hb6
    go_wp2_with fail
    refine (specLen_any n _ (by omega)).mono ?_
    rintro e w7 ⟨rfl, hb7⟩
    have hb7' := hb6'.trans (hb7.mono (by omega))
    have hz7 := hb7.size
    have HL7 := Lib.hid (HL6.out.below hb7)
    clear hb7
    rcases LenR.own HOK.out with ⟨hn0, hn1, rfl, rfl, hne⟩ | ⟨rfl, hnil⟩
    · rw [← HT.out] at hne ⊢
      cases one with
      | false =>
        go_wp2_with fail
        go_ret
        exact ⟨ret_b (show (!t.toList.isEmpty) = true from by simpa using hne), hb7'⟩
      | true =>
        obtain ⟨⟨hy0, hy1⟩, hsy⟩ := HY.out rfl
        have HSY := Lib.hid hsy
        clear hsy
        go_wp2_with fail
        refine (implLen_any y _ _ (by omega) HL7.out.tab gPow HL7.out.lt).mono ?_
        rintro e w8 ⟨rfl, hb8⟩
        rw [← HSY.out]
        go_wp2_with fail
        go_ret
        exact ⟨ret_b (show (!t.toList.isEmpty) = true from by simpa using hne), hb7'.trans (hb8.mono (by omega))⟩
    · rw [← HT.out] at hnil ⊢
      subst hnil
      cases one with
      | false =>
        go_wp2_with fail
        go_ret
        exact ⟨rfl, hb7'⟩
      | true =>
        obtain ⟨⟨hy0, hy1⟩, hsy⟩ := HY.out rfl
        have HSY := Lib.hid hsy
        clear hsy
        go_wp2_with fail
        refine (implLen_any y _ _ (by omega) HL7.out.tab gPow HL7.out.lt).mono ?_
        rintro e w8 ⟨rfl, hb8⟩
        rw [← HSY.out]
        go_wp2_with fail
        go_ret
        exact ⟨rfl, hb7'.trans (hb8.mono (by omega))⟩
  · have HF : Hid (decide (4096 < N) = true) := decide_eq_true (by omega)
    go_enter Tryd.func3, Tryd.ntmps3
    go_wp2_with fail
    refine (big_any A N C _).mono ?_
    rintro e _ ⟨rfl, rfl⟩
    rw [HF.out]
    go_wp2_with fail
    go_ret
    exact ⟨rfl, Below.refl _ _⟩
end Go.Proofs.YtamnhbambklmkaaDoor
