/- The walk of the law of roman numerals: the draws, the answers, the way back, the padded count. -/
import Derived.Test.YtoanopgafihjiaaDoorRoDraw
import Derived.Test.YtoanopgafihjiaaDoorRoRead
import Derived.Test.YtoanopgafihjiaaDoorRoLaid
import Derived.Test.YtoanopgafihjiaaDoorPad
namespace Go.Proofs.YtoanopgafihjiaaDoor
open Go.RowKit Ro

theorem rr_back (n : Int) (h : 1 ≤ n ∧ n ≤ 3999) : rrN (St (romI n)).data.toList = n ∧ rrOk (St (romI n)).data.toList = true := by
  obtain ⟨k, rfl⟩ := Int.eq_ofNat_of_zero_le (show 0 ≤ n by omega)
  have := rr_found (l := (St (romI k)).data.toList) (k := k) (by omega) (by omega) (by rw [St_list]; exact (if_pos h).symm)
  exact this
theorem implRead_is (s : ByteArray) (x : Int) (b : Bool) (w : World) (hsg : Sg w) (hs : s.size ≤ 1048576) (hx : rrN s.data.toList = x) (hb : rrOk s.data.toList = b) :
    Calls Tryd.prog 19 #[.string s] w fun e w' => e = .returned (.tuple #[.int .i64 x, .bool b]) ∧ Below w.heap.size w w' := by
  subst hx hb
  exact implRead_any s w hsg hs
theorem specRead_is (s : ByteArray) (x : Int) (b : Bool) (w : World) (hx : rrN s.data.toList = x) (hb : rrOk s.data.toList = b) :
    Calls Tryd.prog 20 #[.string s] w fun e w' => e = .returned (.tuple #[.int .i64 x, .bool b]) ∧ w = w' := by
  subst hx hb
  exact specRead_any s w
theorem implPad_is (n u p c : Int) (w : World) (hn : -9223372036854775808 ≤ n ∧ n ≤ 9223372036854775807) (hu : -9223372036854775808 ≤ u ∧ u ≤ 9223372036854775807) (hp : padR n u = p) (hc : padC n u = c) :
    Calls Tryd.prog 22 #[.int .i64 n, .int .i64 u] w fun e w' => e = .returned (.tuple #[.int .i64 p, .int .i64 c]) ∧ w = w' := by
  subst hp hc
  exact implPad_any n u w hn hu
theorem specPad_is (n u p c : Int) (w : World) (hp : padR n u = p) (hc : padC n u = c) :
    Calls Tryd.prog 23 #[.int .i64 n, .int .i64 u] w fun e w' => e = .returned (.tuple #[.int .i64 p, .int .i64 c]) ∧ w = w' := by
  subst hp hc
  exact specPad_any n u w
theorem pad_facts (n u : Int) : (padC n u = 2 ∧ padR n u = 0) ∨ (padC n u = 0 ∧ 0 ≤ n ∧ n ≤ 1000000000 ∧ 1 ≤ u ∧ u ≤ 1000000000 ∧ ∃ p, padR n u = p ∧ n ≤ p ∧ p < n + u ∧ p % u = 0) := by
  by_cases h : padOk n u
  · right
    obtain ⟨⟨h0, h1⟩, h2, h3⟩ := h
    obtain ⟨_, _, b2, b3⟩ := pad_bd n u h0 h1 h2 h3
    exact ⟨if_pos ⟨⟨h0, h1⟩, h2, h3⟩, h0, h1, h2, h3, _, if_pos ⟨⟨h0, h1⟩, h2, h3⟩, b2, b3, Int.mul_emod_left _ _⟩
  · exact .inl ⟨if_neg h, if_neg h⟩

set_option maxRecDepth 100000 in
set_option maxHeartbeats 4000000 in
theorem w_FnRomans (A : Option Addr) (N C : Nat) (l : List Int) (w : World) (h : Rd U w w.heap.size A N l) (hl : inByte l) (hsg : Sg w) :
    Calls Tryd.prog 4 #[.slice A N C] w fun e w' => e = .returned (.bool true) ∧ Below w.heap.size w w' := by
  have HSG := Lib.hid hsg
  have hgl := hsg.lt
  clear hsg
  by_cases hN : N ≤ 4096
  · have HF : Hid (decide (4096 < N) = false) := decide_eq_false (by omega)
    go_enter Tryd.func4, Tryd.ntmps4
    go_wp2_with fail
    refine (big_any A N C _).mono ?_
    rintro e _ ⟨rfl, rfl⟩
    rw [HF.out]
    go_wp2_with fail
    refine (DrawRoman_any N C _ A l _ h hl (Nat.le_refl _) (by omega)).mono ?_
    rintro e w1 ⟨n, rfl, hn, hb1⟩
    have hz1 := hb1.size
    obtain ⟨t, ht⟩ : ∃ t, St (romI n) = t := ⟨_, rfl⟩
    have HT := Lib.hid ht
    have htz : t.size ≤ 15 := by rw [← ht, St_size]; exact romI_len n
    clear ht
    go_wp2_with fail
    refine (implRoman_is n t _ (HSG.out.below hb1 hgl) HT.out).mono ?_
    rintro e w2 ⟨rfl, hb2⟩
    have hb2' := hb1.trans (hb2.mono hz1)
    have hz2 := hb2'.size
    go_wp2_with fail
    refine (DrawReadRoman_any N C _ A l _ (h.below hb2' (Nat.le_refl _)) hl hz2 (by omega)).mono ?_
    rintro e w3 ⟨s, rfl, hsz, hb3⟩
    have hb3' := hb2'.trans (hb3.mono hz2)
    have hz3 := hb3'.size
    obtain ⟨x, hx⟩ : ∃ x, rrN s.data.toList = x := ⟨_, rfl⟩
    obtain ⟨b, hb⟩ : ∃ b, rrOk s.data.toList = b := ⟨_, rfl⟩
    have HX := Lib.hid hx
    have HB := Lib.hid hb
    clear hx hb
    go_wp2_with fail
    refine (implRead_is s x b _ (HSG.out.below hb3' hgl) (by omega) HX.out HB.out).mono ?_
    rintro e w4 ⟨rfl, hb4⟩
    have hb4' := hb3'.trans (hb4.mono hz3)
    have hz4 := hb4'.size
    go_wp2_with fail
    refine (specRead_is s x b _ HX.out HB.out).mono ?_
    rintro e _ ⟨rfl, rfl⟩
    go_wp2_with fail
    refine (DrawPad_any N C _ A l _ (h.below hb4' (Nat.le_refl _)) hl hz4 (by omega)).mono ?_
    rintro e w5 ⟨a, u, rfl, ha, hu, hb5⟩
    have hb5' := hb4'.trans (hb5.mono hz4)
    have hz5 := hb5'.size
    have hpf := pad_facts a u
    obtain ⟨p, hp⟩ : ∃ p, padR a u = p := ⟨_, rfl⟩
    obtain ⟨c, hc⟩ : ∃ c, padC a u = c := ⟨_, rfl⟩
    rw [hp, hc] at hpf
    have HP := Lib.hid hp
    have HC := Lib.hid hc
    have HPF := Lib.hid hpf
    clear hp hc hpf
    go_wp2_with fail
    refine (implPad_is a u p c _ (by omega) (by omega) HP.out HC.out).mono ?_
    rintro e _ ⟨rfl, rfl⟩
    go_wp2_with fail
    refine (specPad_is a u p c _ HP.out HC.out).mono ?_
    rintro e _ ⟨rfl, rfl⟩
    go_wp2_with fail
    refine (specRoman_is n t _ HT.out).mono ?_
    rintro e _ ⟨rfl, rfl⟩
    by_cases hnn : 1 ≤ n ∧ n ≤ 3999
    · obtain ⟨r1, r2⟩ := rr_back n hnn
      rw [HT.out] at r1 r2
      have R1 := Lib.hid r1
      have R2 := Lib.hid r2
      have htn : ¬ t.toList = [] := by
        rw [ByteArray.toList_eq, ← HT.out, St_list]
        unfold romI
        rw [if_pos hnn]
        exact roman_ne _ (by omega) (by omega)
      have htn2 : t.toList.isEmpty = false := by simpa using htn
      clear r1 r2 hnn
      go_wp2_with fail
      refine (implRead_is t n true _ (HSG.out.below hb5' hgl) (by omega) R1.out R2.out).mono ?_
      rintro e w6 ⟨rfl, hb6⟩
      have hb6' := hb5'.trans (hb6.mono hz5)
      rcases HPF.out with ⟨rfl, rfl⟩ | ⟨rfl, u0, u1, u2, u3, _, rfl, p1, p2, p3⟩
      · go_wp2_with fail
        go_ret
        exact ⟨rfl, hb6'⟩
      · have u4 : ¬ u = 0 := by omega
        have p4 : 0 ≤ p := by omega
        go_wp2_with fail
        go_ret
        exact ⟨rfl, hb6'⟩
    · have hte : t = ⟨#[]⟩ := by
        rw [← HT.out]
        unfold romI
        rw [if_neg hnn]
        rfl
      subst hte
      clear hnn
      rcases HPF.out with ⟨rfl, rfl⟩ | ⟨rfl, u0, u1, u2, u3, _, rfl, p1, p2, p3⟩
      · go_wp2_with fail
        go_ret
        exact ⟨rfl, hb5'⟩
      · have u4 : ¬ u = 0 := by omega
        have p4 : 0 ≤ p := by omega
        go_wp2_with fail
        go_ret
        exact ⟨rfl, hb5'⟩
  · have HF : Hid (decide (4096 < N) = true) := decide_eq_true (by omega)
    go_enter Tryd.func4, Tryd.ntmps4
    go_wp2_with fail
    refine (big_any A N C _).mono ?_
    rintro e _ ⟨rfl, rfl⟩
    rw [HF.out]
    go_wp2_with fail
    go_ret
    exact ⟨rfl, Below.refl _ _⟩
end Go.Proofs.YtoanopgafihjiaaDoor
