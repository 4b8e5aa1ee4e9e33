/- Contracts of FindFolds, the model's and the program's: both answer ffR and ffC. -/
import Derived.Test.YtjpfbonnohodhaaDoorStFs
import Derived.Test.YtjpfbonnohodhaaDoorStMk
import Derived.Test.YtjpfbonnohodhaaDoorStFind
import Derived.Test.YtjpfbonnohodhaaDoorBld2
namespace Go.Proofs.YtjpfbonnohodhaaDoor
open Go.RowKit Go.Shelf

set_option maxRecDepth 100000 in
set_option maxHeartbeats 1000000 in
theorem same_any (A A' : Option Addr) (n n' c c' B B' : Nat) (l l' : List Int) (w : World) (h : Rd I w B A n l) (h' : Rd I w B' A' n' l') (hn : n ≤ 1048576) (hn' : n' ≤ 1048576) :
    Calls Tryd.prog 59 #[.slice A n c, .slice A' n' c'] w fun e w' => e = .returned (.bool (decide (l = l'))) ∧ Q w w' := by
  have HL : Hid (l.length = n) := h.1
  have HL' : Hid (l'.length = n') := h'.1
  by_cases hl : n = n'
  · subst hl
    go_enter Tryd.func59, Tryd.ntmps59
    go_wp2_with fail
    go_loopw [5] (fun i wr => ∃ k : Nat, k ≤ n ∧ i = .int .i64 k ∧ Hid (l.take k = l'.take k) ∧ Q w wr) (fun i _ => n - (intOf i).toNat)
    case atStart => exact ⟨0, Nat.zero_le _, rfl, Lib.hid (by simp), Q.refl _⟩
    case round =>
      obtain ⟨k, hk, rfl, HE, hq⟩ := hrel
      have h := h.q hq
      have h' := h'.q hq
      by_cases hlt : k < n
      · obtain ⟨b, o, x, rfl, hbB, hx, hc⟩ := h.at_ hlt
        obtain ⟨b', o', x', rfl, hbB', hx', hc'⟩ := h'.at_ hlt
        have HX := Lib.hid hx
        have HX' := Lib.hid hx'
        clear hx hx'
        by_cases hxx : x = x'
        · subst hxx
          go_wp2_with fail
          go_quiet (fail)
          go_wp2_with fail
          go_roundw
          case rel => exact ⟨k + 1, by omega, by go_num, Lib.hid (by rw [take_next l k x HX.out, take_next l' k x HX'.out, HE.out]), hq.more _⟩
          case measure => simp [intOf]; omega
        · have HN : Hid (decide (l = l') = false) := Lib.hid (decide_eq_false fun e => hxx (by
            have h1 := HX.out
            have h2 := HX'.out
            rw [e, h2] at h1
            injection h1 with h1
            exact h1.symm))
          have n1 : (x != x') = true := by simpa using hxx
          go_wp2_with fail
          go_quiet (fail)
          go_wp2_with fail
          go_ret
          exact ⟨ret_b HN.out.symm, hq.more _⟩
      · obtain rfl : k = n := by omega
        have HN : Hid (decide (l = l') = true) := Lib.hid (decide_eq_true (by
          have := HE.out
          rwa [List.take_of_length_le (Nat.le_of_eq HL.out), List.take_of_length_le (Nat.le_of_eq HL'.out)] at this))
        go_wp2_with fail
        go_ret
        exact ⟨ret_b HN.out.symm, hq⟩
  · have HN : Hid (decide (l = l') = false) := Lib.hid (decide_eq_false fun e => hl (by rw [← HL.out, ← HL'.out, e]))
    have n1 : ((n : Int) != (n' : Int)) = true := by simp; omega
    clear hl
    go_enter Tryd.func59, Tryd.ntmps59
    go_wp2_with fail
    go_ret
    exact ⟨ret_b HN.out.symm, Q.refl _⟩

set_option maxRecDepth 100000 in
set_option maxHeartbeats 1000000 in
theorem equal_any (A A' : Option Addr) (n n' c c' B B' : Nat) (l l' : List Int) (w : World) (h : Rd I w B A n l) (h' : Rd I w B' A' n' l') (hn : n ≤ 1048576) (hn' : n' ≤ 1048576) :
    Calls Tryd.prog 41 #[.slice A n c, .slice A' n' c'] w fun e w' => e = .returned (.bool (decide (l = l'))) ∧ Q w w' := by
  have HL : Hid (l.length = n) := h.1
  have HL' : Hid (l'.length = n') := h'.1
  by_cases hl : n = n'
  · subst hl
    go_enter Tryd.func41, Tryd.ntmps41
    go_wp2_with fail
    go_loopw [5, 13] (fun _ i wr => ∃ k : Nat, k ≤ n ∧ i = .int .i64 k ∧ Hid (l.take k = l'.take k) ∧ Q w wr) (fun _ i _ => n - (intOf i).toNat)
    case atStart => exact ⟨0, Nat.zero_le _, rfl, Lib.hid (by simp), Q.refl _⟩
    case round =>
      obtain ⟨k, hk, rfl, HE, hq⟩ := hrel
      have h := h.q hq
      have h' := h'.q hq
      by_cases hlt : k < n
      · obtain ⟨b, o, x, rfl, hbB, hx, hc⟩ := h.at_ hlt
        obtain ⟨b', o', x', rfl, hbB', hx', hc'⟩ := h'.at_ hlt
        have HX := Lib.hid hx
        have HX' := Lib.hid hx'
        clear hx hx'
        by_cases hxx : x = x'
        · subst hxx
          go_wp2_with fail
          go_quiet (fail)
          go_wp2_with fail
          go_roundw
          case rel => exact ⟨k + 1, by omega, by go_num, Lib.hid (by rw [take_next l k x HX.out, take_next l' k x HX'.out, HE.out]), hq.more _⟩
          case measure => simp [intOf]; omega
        · have HN : Hid (decide (l = l') = false) := Lib.hid (decide_eq_false fun e => hxx (by
            have h1 := HX.out
            have h2 := HX'.out
            rw [e, h2] at h1
            injection h1 with h1
            exact h1.symm))
          have n1 : (x != x') = true := by simpa using hxx
          go_wp2_with fail
          go_quiet (fail)
          go_wp2_with fail
          go_ret
          exact ⟨ret_b HN.out.symm, hq.more _⟩
      · obtain rfl : k = n := by omega
        have HN : Hid (decide (l = l') = true) := Lib.hid (decide_eq_true (by
          have := HE.out
          rwa [List.take_of_length_le (Nat.le_of_eq HL.out), List.take_of_length_le (Nat.le_of_eq HL'.out)] at this))
        go_wp2_with fail
        go_ret
        exact ⟨ret_b HN.out.symm, hq⟩
  · have HN : Hid (decide (l = l') = false) := Lib.hid (decide_eq_false fun e => hl (by rw [← HL.out, ← HL'.out, e]))
    have n1 : ((n : Int) != (n' : Int)) = true := by simp; omega
    clear hl
    go_enter Tryd.func41, Tryd.ntmps41
    go_wp2_with fail
    go_ret
    exact ⟨ret_b HN.out.symm, Q.refl _⟩

/-- How the model's search ends. -/
def FindP (o : Option (List UInt8)) (w : World) (e : Ending) (w' : World) : Prop :=
  ∃ t b, e = .returned (.tuple #[.string t, .bool b]) ∧ (match o with | some r => b = true ∧ t = ⟨r.toArray⟩ | none => b = false) ∧ Below w.heap.size w w'
theorem FindP.some_ {o : Option (List UInt8)} {r : List UInt8} {w w' : World} {t : ByteArray} (ho : o = some r) (ht : t = ⟨r.toArray⟩) (hb : Below w.heap.size w w') : FindP o w (.returned (.tuple #[.string t, .bool true])) w' := by
  subst ho
  exact ⟨t, true, rfl, ⟨rfl, ht⟩, hb⟩
theorem FindP.none_ {o : Option (List UInt8)} {w w' : World} {t : ByteArray} (ho : o = none) (hb : Below w.heap.size w w') : FindP o w (.returned (.tuple #[.string t, .bool false])) w' := by
  subst ho
  exact ⟨t, false, rfl, rfl, hb⟩
theorem bytes_eq (s : ByteArray) : s = ⟨s.data.toList.toArray⟩ := by
  obtain ⟨⟨l⟩⟩ := s
  rfl
theorem snoc_list (s : ByteArray) (b : UInt8) : (s ++ (⟨#[b]⟩ : ByteArray)).data.toList = s.data.toList ++ [b] := by
  simp

set_option maxRecDepth 100000 in
set_option maxHeartbeats 4000000 in
theorem find_any (A : Option Addr) (n c B : Nat) (st : List Int) (hn : n ≤ 64) (f : Nat) : ∀ (s : ByteArray) (w : World), St.foldsB s.data.toList = true → s.size + f = 7 → Rd I w B A n st → B ≤ w.heap.size →
    Calls Tryd.prog 43 #[.slice A n c, .string s] w (FindP (St.fnd st f s.data.toList) w) := by
  induction f with
  | zero =>
    intro s w hf h7 h hB
    have := St.folds_len hf
    rw [toList_len] at this
    omega
  | succ f ih =>
    intro s w hf h7 h hB
    have h6 : s.size ≤ 6 := by omega
    have HL : Hid (st.length = n) := h.1
    have HF := Lib.hid hf
    have IH := Lib.hid ih
    clear hf ih
    obtain ⟨N, hN⟩ : ∃ N : Nat, N = 2 ^ s.size := ⟨_, rfl⟩
    have hN64 : N ≤ 64 := by rw [hN]; exact pow_le6 h6
    have hsh2 : IntKind.i64.wrap (2 ^ s.size) = (N : Int) := by rw [hN]; exact shl_one' _ h6
    have huw : IntKind.u64.wrap (s.size : Int) = (s.size : Int) := by
      show (s.size : Int) % 18446744073709551616 = _
      omega
    have HN := Lib.hid hN
    clear hN
    by_cases h1 : n = N
    · have hst : St.fnd st (f + 1) s.data.toList = if St.stack s.data.toList = st then some s.data.toList else none := by
        rw [St.fnd, if_pos (by rw [HL.out, h1, toList_len]; exact HN.out)]
      have HST := Lib.hid hst
      have HM := Lib.hid h1
      have hb1 : ((n : Int) == (N : Int)) = true := by rw [beq_iff_eq]; omega
      have hb2 : (n : Int) = (N : Int) := by omega
      clear hst h1
      go_enter Tryd.func43, Tryd.ntmps43
      go_wp2_with fail
      refine (stack_any s _ HF.out).mono ?_
      rintro e w1 ⟨A1, n1, c1, rfl, ho, hbl⟩
      have hn1 : n1 ≤ 1048576 := by
        have h1 := stack_len _ HF.out
        have h2 := ho.rd.1
        rw [toList_len, ← HN.out] at h1
        omega
      go_wp2_with fail
      refine (same_any A1 A n1 n c1 c _ B _ st _ ho.rd (h.below hbl hB) hn1 (by omega)).mono ?_
      rintro e w2 ⟨rfl, hq⟩
      have HB := Lib.hid (hbl.trans (hq.below _))
      go_wp2_with fail
      go_ret2
      refine ⟨s, decide (St.stack s.data.toList = st), rfl, ?_, HB.out⟩
      rw [HST.out]
      by_cases he : St.stack s.data.toList = st
      · rw [if_pos he]
        exact ⟨decide_eq_true he, bytes_eq s⟩
      · rw [if_neg he]
        exact decide_eq_false he
    · have hb1 : ((n : Int) == (N : Int)) = false := by simp; omega
      have hb2 : ¬ (n : Int) = (N : Int) := by omega
      by_cases h2 : n < N
      · have hst : St.fnd st (f + 1) s.data.toList = none := by
          rw [St.fnd, if_neg (by rw [HL.out, toList_len, ← HN.out]; exact h1), if_pos (by rw [HL.out, toList_len, ← HN.out]; exact h2)]
        have HST := Lib.hid hst
        clear hst h1
        go_enter Tryd.func43, Tryd.ntmps43
        go_wp2_with fail
        go_ret2
        exact FindP.none_ HST.out (Below.refl _ _)
      · have h5 : s.size ≤ 5 := by
          rcases Nat.lt_or_ge s.size 6 with h | h
          · omega
          · have h66 : s.size = 6 := by omega
            have := HN.out
            rw [h66] at this
            omega
        have hst : St.fnd st (f + 1) s.data.toList = match St.fnd st f (s.data.toList ++ [76]) with | some o => some o | none => St.fnd st f (s.data.toList ++ [82]) := by
          rw [St.fnd, if_neg (by rw [HL.out, toList_len, ← HN.out]; exact h1), if_neg (by rw [HL.out, toList_len, ← HN.out]; exact h2)]
          cases St.fnd st f (s.data.toList ++ [76]) <;> rfl
        have HST := Lib.hid hst
        have hb3 : ¬ (n : Int) < (N : Int) := by omega
        have hfL := Lib.hid (St.folds_snoc (b := 76) HF.out (by rw [toList_len]; exact h5) (.inl rfl))
        have hfR := Lib.hid (St.folds_snoc (b := 82) HF.out (by rw [toList_len]; exact h5) (.inr rfl))
        obtain ⟨sL, hsL⟩ : ∃ x, x = s ++ (⟨#[76]⟩ : ByteArray) := ⟨_, rfl⟩
        obtain ⟨sR, hsR⟩ : ∃ x, x = s ++ (⟨#[82]⟩ : ByteArray) := ⟨_, rfl⟩
        have HLl : Hid (sL.data.toList = s.data.toList ++ [76]) := Lib.hid (by rw [hsL, snoc_list])
        have HRl : Hid (sR.data.toList = s.data.toList ++ [82]) := Lib.hid (by rw [hsR, snoc_list])
        have HszL : Hid (sL.size = s.size + 1) := by
          have h := congrArg List.length HLl.out
          rw [List.length_append, toList_len, toList_len] at h
          exact Lib.hid h
        have HszR : Hid (sR.size = s.size + 1) := by
          have h := congrArg List.length HRl.out
          rw [List.length_append, toList_len, toList_len] at h
          exact Lib.hid h
        have hcL : s ++ (⟨#[76]⟩ : ByteArray) = sL := hsL.symm
        have hcR : s ++ (⟨#[82]⟩ : ByteArray) = sR := hsR.symm
        clear hst h1 hsL hsR
        go_enter Tryd.func43, Tryd.ntmps43
        go_wp2_with fail
        refine (IH.out sL _ (by rw [HLl.out]; exact hfL.out) (by have := HszL.out; omega) h hB).mono ?_
        rintro e w1 ⟨t, b, rfl, hres, hbl⟩
        have hz := hbl.size
        rw [HLl.out] at hres
        have HRES := Lib.hid hres
        clear hres
        cases b with
        | true =>
          have HO : Hid (∃ r, St.fnd st f (s.data.toList ++ [76]) = some r ∧ t = ⟨r.toArray⟩) := by
            have := HRES.out
            cases hx : St.fnd st f (s.data.toList ++ [76]) with
            | some r => rw [hx] at this; exact Lib.hid ⟨r, rfl, this.2⟩
            | none => rw [hx] at this; cases this
          go_wp2_with fail
          go_ret2
          obtain ⟨r, h1, h2⟩ := HO.out
          exact FindP.some_ (by rw [HST.out, h1]) h2 hbl
        | false =>
          have HO : Hid (St.fnd st f (s.data.toList ++ [76]) = none) := by
            have := HRES.out
            cases hx : St.fnd st f (s.data.toList ++ [76]) with
            | some r => rw [hx] at this; cases this.1
            | none => exact Lib.hid rfl
          go_wp2_with fail
          refine (IH.out sR _ (by rw [HRl.out]; exact hfR.out) (by have := HszR.out; omega) (h.below hbl hB) (Nat.le_trans hB hz)).mono ?_
          rintro e w2 ⟨t2, b2, rfl, hres2, hbl2⟩
          rw [HRl.out] at hres2
          have HB := Lib.hid (hbl.trans (hbl2.mono hz))
          have HRES2 := Lib.hid hres2
          clear hres2
          go_wp2_with fail
          go_ret2
          exact ⟨t2, b2, rfl, by rw [HST.out, HO.out]; exact HRES2.out, HB.out⟩
end Go.Proofs.YtjpfbonnohodhaaDoor
