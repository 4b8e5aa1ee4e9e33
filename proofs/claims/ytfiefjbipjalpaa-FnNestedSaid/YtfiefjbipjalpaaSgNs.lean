/- Contracts of NestedPages, NestedPlace and PartnerOf, the program's and the model's: the same numbers and codes. -/
import Derived.Test.YtfiefjbipjalpaaSgMath
import Derived.Test.YtfiefjbipjalpaaIn
namespace Go.Proofs.Ytfiefjbipjalpaa
open Go.RowKit

theorem Sg.idx_first {p : Int} : ∀ {L : List Int} {k : Nat}, L[k]? = some p → p ∉ L.take k → L.idxOf p = k := by
  intro L
  induction L with
  | nil => intro k h; simp at h
  | cons a L ih =>
    intro k h hn
    match k, h with
    | 0, h => simp at h; subst h; simp
    | k + 1, h =>
      have h1 : L[k]? = some p := by simpa using h
      rw [List.take_succ_cons, List.mem_cons] at hn
      have h2 : ¬ a = p := fun e => hn (.inl e.symm)
      have := ih h1 (fun e => hn (.inr e))
      have hb : (a == p) = false := by simpa using h2
      rw [List.idxOf_cons, hb, this]
      rfl

set_option maxHeartbeats 1000000 in
theorem sgIndex_any (A : Option Addr) (n c B : Nat) (p : Int) (L : List Int) (w : World) (h : Rd I w B A n L) (hn : n ≤ 1048576) (v : Int) (hv : (if p ∈ L then (L.idxOf p : Int) else -1) = v) :
    Calls Try.prog 89 #[.slice A n c, .int .i64 p] w fun e w' => e = .returned (.int .i64 v) ∧ w = w' := by
  have HL : Hid (L.length = n) := h.1
  have HV := Lib.hid hv
  clear hv
  go_enter Try.func89, Try.ntmps89
  go_wp2
  go_loop [5, 8] (fun _ i => ∃ k : Nat, k ≤ n ∧ i = .int .i64 k ∧ Hid (p ∉ L.take k)) (fun _ i => n - (intOf i).toNat)
  case atStart => exact ⟨0, Nat.zero_le _, rfl, Lib.hid (by simp)⟩
  case round =>
    obtain ⟨k, hk, rfl, HN⟩ := hrel
    by_cases hlt : k < n
    · obtain ⟨b, o, x, rfl, hbB, hx, hc⟩ := h.at_ hlt
      have HX := Lib.hid hx
      clear hx
      by_cases hxp : p = x
      · have HE : Hid ((k : Int) = v) := Lib.hid (by
          have h1 := HX.out
          rw [← hxp] at h1
          rw [← HV.out, if_pos (List.mem_of_getElem? h1), Sg.idx_first h1 HN.out])
        subst hxp
        go_wp2
        go_ret
        exact ⟨ret_i HE.out, rfl⟩
      · have hne : (p == x) = false := by simpa using hxp
        go_wp2
        go_round
        case rel =>
          refine ⟨k + 1, by omega, by go_num, Lib.hid ?_⟩
          rw [take_next L k x HX.out, List.mem_append]
          rintro (hh | hh)
          · exact HN.out hh
          · exact hxp (List.mem_singleton.1 hh)
        case measure => simp [intOf]; omega
    · obtain rfl : k = n := by omega
      have HE : Hid (-1 = v) := Lib.hid (by
        have h1 := HN.out
        rw [List.take_of_length_le (Nat.le_of_eq HL.out)] at h1
        rw [← HV.out, if_neg h1])
      go_wp2
      go_ret
      exact ⟨ret_i HE.out, rfl⟩

theorem canNest_any (n : Int) (b : Bool) (w : World) (hb : decide (1 ≤ n ∧ n ≤ 64) = b) :
    Calls Try.prog 86 #[.int .i64 n] w fun e w' => e = .returned (.bool b) ∧ w = w' := by
  have HB := Lib.hid hb
  clear hb
  by_cases h1 : 1 ≤ n
  · go_enter Try.func86, Try.ntmps86
    go_wp2
    go_ret
    exact ⟨ret_b (by rw [← HB.out]; simp [h1]), rfl⟩
  · have h1' : n < 1 := by omega
    go_enter Try.func86, Try.ntmps86
    go_wp2
    go_ret
    exact ⟨ret_b (by rw [← HB.out]; simp; omega), rfl⟩

/-- The four pages as a new row. -/
def FourP (w : World) (n k : Int) (e : Ending) (w' : World) : Prop :=
  ∃ g, e = .returned (.slice (some ⟨g, 0, none⟩) 4 4) ∧ Own I w' w.heap.size w'.heap.size 2 (.slice (some ⟨g, 0, none⟩) 4 4) (Sg.four n k) ∧ Below w.heap.size w w'
theorem FourP.mk_ (w : World) (n k : Int) : FourP w n k (.returned (.slice (some ⟨w.heap.size, 0, none⟩) 4 4)) (w.alloc (.cells #[.int .i64 (4 * n - 2 * k), .int .i64 (2 * k + 1), .int .i64 (2 * k + 2), .int .i64 (4 * n - 2 * k - 1)] 2)) :=
  ⟨_, rfl, Own.here (World.ownsRow_lit w #[.int .i64 (4 * n - 2 * k), .int .i64 (2 * k + 1), .int .i64 (2 * k + 2), .int .i64 (4 * n - 2 * k - 1)] 4 (Nat.le_refl _) (by unfold maxLen; omega) rfl) rfl, (Below.refl _ _).alloc (Nat.le_refl _) _⟩

set_option maxHeartbeats 1000000 in
theorem fourPages_any (n k : Int) (w : World) (h1 : 1 ≤ n) (h2 : n ≤ 64) (h3 : 0 ≤ k) (h4 : k < n) :
    Calls Try.prog 87 #[.int .i64 n, .int .i64 k] w fun e w' => FourP w n k e w' := by
  have e1 : IntKind.i64.wrap (4 * n) = 4 * n := IntWalk.i64_in _ (by omega)
  have e2 : IntKind.i64.wrap (2 * k) = 2 * k := IntWalk.i64_in _ (by omega)
  have e3 : IntKind.i64.wrap (4 * n - 2 * k) = 4 * n - 2 * k := IntWalk.i64_in _ (by omega)
  have e4 : IntKind.i64.wrap (2 * k + 1) = 2 * k + 1 := IntWalk.i64_in _ (by omega)
  have e5 : IntKind.i64.wrap (2 * k + 2) = 2 * k + 2 := IntWalk.i64_in _ (by omega)
  have e6 : IntKind.i64.wrap (4 * n - 2 * k - 1) = 4 * n - 2 * k - 1 := IntWalk.i64_in _ (by omega)
  go_enter Try.func87, Try.ntmps87
  go_wp2
  go_ret
  exact FourP.mk_ w n k
set_option maxHeartbeats 1000000 in
theorem l06Four_any (n k : Int) (w : World) (h1 : 1 ≤ n) (h2 : n ≤ 64) (h3 : 0 ≤ k) (h4 : k < n) :
    Calls Try.prog 88 #[.int .i64 n, .int .i64 k] w fun e w' => FourP w n k e w' := by
  have e1 : IntKind.i64.wrap (4 * n) = 4 * n := IntWalk.i64_in _ (by omega)
  have e2 : IntKind.i64.wrap (2 * k) = 2 * k := IntWalk.i64_in _ (by omega)
  have e3 : IntKind.i64.wrap (4 * n - 2 * k) = 4 * n - 2 * k := IntWalk.i64_in _ (by omega)
  have e4 : IntKind.i64.wrap (2 * k + 1) = 2 * k + 1 := IntWalk.i64_in _ (by omega)
  have e5 : IntKind.i64.wrap (2 * k + 2) = 2 * k + 2 := IntWalk.i64_in _ (by omega)
  have e6 : IntKind.i64.wrap (4 * n - 2 * k - 1) = 4 * n - 2 * k - 1 := IntWalk.i64_in _ (by omega)
  go_enter Try.func88, Try.ntmps88
  go_wp2
  go_ret
  exact FourP.mk_ w n k

theorem Sg.np_yes {n k : Int} {R : List Int} {C : Int} (h : Sg.npOk n k = true) (hR : Sg.npR n k = R) (hC : Sg.npC n k = C) : R = Sg.four n k ∧ C = 0 := by
  unfold Sg.npR at hR
  unfold Sg.npC at hC
  rw [h] at hR hC
  exact ⟨hR.symm, hC.symm⟩
theorem Sg.np_no {n k : Int} {R : List Int} {C : Int} (h : Sg.npOk n k = false) (hR : Sg.npR n k = R) (hC : Sg.npC n k = C) : R = [] ∧ C = 2 := by
  unfold Sg.npR at hR
  unfold Sg.npC at hC
  rw [h] at hR hC
  exact ⟨hR.symm, hC.symm⟩

set_option maxHeartbeats 1000000 in
theorem implNp_any (n k : Int) (R : List Int) (C : Int) (w : World) (hR : Sg.npR n k = R) (hC : Sg.npC n k = C) :
    Calls Try.prog 41 #[.int .i64 n, .int .i64 k] w fun e w' => LC w R C e w' := by
  cases ho : Sg.npOk n k
  · obtain ⟨r0, c0⟩ := Sg.np_no ho hR hC
    have R0 := Lib.hid r0
    have C0 := Lib.hid c0
    have ho' := of_decide_eq_false ho
    clear r0 c0 hR hC ho
    by_cases hn : 1 ≤ n ∧ n ≤ 64
    · have HN : Hid (decide (1 ≤ n ∧ n ≤ 64) = true) := Lib.hid (decide_eq_true hn)
      by_cases hk : k < 0
      · clear ho' hn
        go_enter Try.func41, Try.ntmps41
        go_wp2_with fail
        refine (canNest_any n true _ HN.out).mono ?_
        rintro e _ ⟨rfl, rfl⟩
        go_wp2_with fail
        go_ret2
        exact LC.nil_ R0.out C0.out (Below.refl _ _)
      · have hk0 : 0 ≤ k := by omega
        have hk1 : n ≤ k := by omega
        clear ho' hn hk
        go_enter Try.func41, Try.ntmps41
        go_wp2_with fail
        refine (canNest_any n true _ HN.out).mono ?_
        rintro e _ ⟨rfl, rfl⟩
        go_wp2_with fail
        go_ret2
        exact LC.nil_ R0.out C0.out (Below.refl _ _)
    · have HN : Hid (decide (1 ≤ n ∧ n ≤ 64) = false) := Lib.hid (decide_eq_false hn)
      clear ho' hn
      go_enter Try.func41, Try.ntmps41
      go_wp2_with fail
      refine (canNest_any n false _ HN.out).mono ?_
      rintro e _ ⟨rfl, rfl⟩
      go_wp2_with fail
      go_ret2
      exact LC.nil_ R0.out C0.out (Below.refl _ _)
  · obtain ⟨r0, c0⟩ := Sg.np_yes ho hR hC
    have R0 := Lib.hid r0
    have C0 := Lib.hid c0
    obtain ⟨⟨h1, h2⟩, h3, h4⟩ := of_decide_eq_true ho
    have HN : Hid (decide (1 ≤ n ∧ n ≤ 64) = true) := Lib.hid (decide_eq_true ⟨h1, h2⟩)
    clear r0 c0 hR hC ho
    go_enter Try.func41, Try.ntmps41
    go_wp2_with fail
    refine (canNest_any n true _ HN.out).mono ?_
    rintro e _ ⟨rfl, rfl⟩
    go_wp2_with fail
    refine (fourPages_any n k _ h1 h2 h3 h4).mono ?_
    rintro e w1 ⟨g, rfl, ho1, hb1⟩
    go_wp2_with fail
    go_ret2
    exact LC.mk_ R0.out C0.out ho1 (Nat.le_refl _) (Nat.le_refl _) (by omega) hb1

set_option maxHeartbeats 1000000 in
theorem specNp_any (n k : Int) (R : List Int) (C : Int) (w : World) (hR : Sg.npR n k = R) (hC : Sg.npC n k = C) :
    Calls Try.prog 42 #[.int .i64 n, .int .i64 k] w fun e w' => LC w R C e w' := by
  cases ho : Sg.npOk n k
  · obtain ⟨r0, c0⟩ := Sg.np_no ho hR hC
    have R0 := Lib.hid r0
    have C0 := Lib.hid c0
    have ho' := of_decide_eq_false ho
    clear r0 c0 hR hC ho
    by_cases hn : 1 ≤ n ∧ n ≤ 64
    · obtain ⟨h1, h2⟩ := hn
      have HK : Hid (k < 0 ∨ n - 1 < k) := Lib.hid (by omega)
      have e1 : IntKind.i64.wrap (n - 1) = n - 1 := IntWalk.i64_in _ (by omega)
      clear ho'
      go_enter Try.func42, Try.ntmps42
      go_wp2_with fail
      refine (l01In_yes _ _ _ _ h1 h2).mono ?_
      rintro e _ ⟨rfl, rfl⟩
      go_wp2_with fail
      refine (l01In_no _ _ _ _ HK.out).mono ?_
      rintro e _ ⟨rfl, rfl⟩
      go_wp2_with fail
      go_ret2
      exact LC.nil_ R0.out C0.out (Below.refl _ _)
    · have HN : Hid (n < 1 ∨ 64 < n) := Lib.hid (by omega)
      clear ho' hn
      go_enter Try.func42, Try.ntmps42
      go_wp2_with fail
      refine (l01In_no _ _ _ _ HN.out).mono ?_
      rintro e _ ⟨rfl, rfl⟩
      go_wp2_with fail
      go_ret2
      exact LC.nil_ R0.out C0.out (Below.refl _ _)
  · obtain ⟨r0, c0⟩ := Sg.np_yes ho hR hC
    have R0 := Lib.hid r0
    have C0 := Lib.hid c0
    obtain ⟨⟨h1, h2⟩, h3, h4⟩ := of_decide_eq_true ho
    have e1 : IntKind.i64.wrap (n - 1) = n - 1 := IntWalk.i64_in _ (by omega)
    clear r0 c0 hR hC ho
    go_enter Try.func42, Try.ntmps42
    go_wp2_with fail
    refine (l01In_yes _ _ _ _ h1 h2).mono ?_
    rintro e _ ⟨rfl, rfl⟩
    go_wp2_with fail
    refine (l01In_yes _ _ _ _ h3 (by omega)).mono ?_
    rintro e _ ⟨rfl, rfl⟩
    go_wp2_with fail
    refine (l06Four_any n k _ h1 h2 h3 h4).mono ?_
    rintro e w1 ⟨g, rfl, ho1, hb1⟩
    go_wp2_with fail
    go_ret2
    exact LC.mk_ R0.out C0.out ho1 (Nat.le_refl _) (Nat.le_refl _) (by omega) hb1

theorem Sg.ns_no {n p a b c : Int} (h : Sg.nsOk n p = false) (ha : Sg.nsA n p = a) (hb : Sg.nsB n p = b) (hc : Sg.nsC n p = c) : a = 0 ∧ b = 0 ∧ c = 2 := by
  unfold Sg.nsA at ha
  unfold Sg.nsB at hb
  unfold Sg.nsC at hc
  rw [h] at ha hb hc
  exact ⟨ha.symm, hb.symm, hc.symm⟩
theorem Sg.ns_yes {n p a b c : Int} (h : Sg.nsOk n p = true) (ha : Sg.nsA n p = a) (hb : Sg.nsB n p = b) (hc : Sg.nsC n p = c) : a = Sg.nsK n p ∧ b = Sg.nsI n p ∧ c = 0 := by
  unfold Sg.nsA at ha
  unfold Sg.nsB at hb
  unfold Sg.nsC at hc
  rw [h] at ha hb hc
  exact ⟨ha.symm, hb.symm, hc.symm⟩

set_option maxRecDepth 100000 in
set_option maxHeartbeats 1000000 in
theorem implNs_any (n p a b c : Int) (w : World) (ha : Sg.nsA n p = a) (hb : Sg.nsB n p = b) (hc : Sg.nsC n p = c) :
    Calls Try.prog 44 #[.int .i64 n, .int .i64 p] w fun e w' => e = .returned (.tuple #[.int .i64 a, .int .i64 b, .int .i64 c]) ∧ Below w.heap.size w w' := by
  by_cases hn : 1 ≤ n ∧ n ≤ 64
  · obtain ⟨h1, h2⟩ := hn
    have HN : Hid (decide (1 ≤ n ∧ n ≤ 64) = true) := Lib.hid (decide_eq_true ⟨h1, h2⟩)
    obtain ⟨N, rfl⟩ := Int.eq_ofNat_of_zero_le (show 0 ≤ n by omega)
    obtain ⟨K, hK⟩ : ∃ K, Sg.nsK (N : Int) p = K := ⟨_, rfl⟩
    have HA := Lib.hid ha
    have HBB := Lib.hid hb
    have HCC := Lib.hid hc
    have HK := Lib.hid hK
    clear ha hb hc hK
    go_enter Try.func44, Try.ntmps44
    go_wp2_with fail
    refine (canNest_any (N : Int) true _ HN.out).mono ?_
    rintro e _ ⟨rfl, rfl⟩
    go_wp2_with fail
    go_loopw [7, 13] (fun _ i wr => ∃ k : Nat, k ≤ N ∧ i = .int .i64 k ∧ Hid (Sg.nsOk (N : Int) p = true → (k : Int) ≤ K) ∧ Below w.heap.size w wr) (fun _ i _ => N - (intOf i).toNat)
    case atStart => exact ⟨0, Nat.zero_le _, rfl, Lib.hid (fun h => by have := (Sg.ns_bd h).1; have := HK.out; simp; omega), Below.refl _ _⟩
    case round =>
      obtain ⟨k, hk, rfl, HI, hb⟩ := hrel
      by_cases hlt : k < N
      · have hki : (k : Int) < (N : Int) := by omega
        have z := hb.size
        by_cases hit : Sg.nsOk (N : Int) p = true ∧ (k : Int) = K
        · obtain ⟨q1, q2, q3⟩ := Sg.ns_yes hit.1 HA.out HBB.out HCC.out
          rw [HK.out] at q1
          have HV : Hid ((if p ∈ Sg.four (N : Int) (k : Int) then ((Sg.four (N : Int) (k : Int)).idxOf p : Int) else -1) = b) := Lib.hid (by
            have := Sg.four_here hit.1
            rw [HK.out, ← hit.2] at this
            rw [this, q2])
          have hb0 : 0 ≤ b := by rw [q2]; exact (Sg.ns_bd hit.1).2.2.1
          have HE : Hid ((k : Int) = a ∧ c = 0) := Lib.hid ⟨by rw [q1, hit.2], q3⟩
          clear q1 q2 q3 hit
          go_wp2_with (first
            | (go_at_call 87; refine (fourPages_any (N : Int) (k : Int) _ h1 h2 (by omega) hki).mono ?_; rintro e w1 ⟨g, rfl, ho1, hb1⟩)
            | (go_at_call 89; refine (sgIndex_any _ 4 4 _ p _ _ ho1.rd (by omega) b HV.out).mono ?_; rintro e _ ⟨rfl, rfl⟩))
          exact bodyPost_ret (v := .tuple #[.int .i64 (k : Int), .int .i64 b, .int .i64 0]) (by simp [results, Try.results44, go_sem]) rfl ⟨by rw [HE.out.1, HE.out.2], hb.trans (hb1.mono z)⟩
        · have HV : Hid ((if p ∈ Sg.four (N : Int) (k : Int) then ((Sg.four (N : Int) (k : Int)).idxOf p : Int) else -1) = -1) := Lib.hid (if_neg (Sg.four_not (by omega) hki (by
            cases hs : Sg.nsOk (N : Int) p
            · exact .inl rfl
            · right
              rw [HK.out]
              exact fun e => hit ⟨hs, e⟩) h2))
          have HI' : Hid (Sg.nsOk (N : Int) p = true → ((k + 1 : Nat) : Int) ≤ K) := Lib.hid (fun h => by
            have := HI.out h
            have h3 : ¬ (k : Int) = K := fun e => hit ⟨h, e⟩
            omega)
          clear hit
          go_wp2_with (first
            | (go_at_call 87; refine (fourPages_any (N : Int) (k : Int) _ h1 h2 (by omega) hki).mono ?_; rintro e w1 ⟨g, rfl, ho1, hb1⟩)
            | (go_at_call 89; refine (sgIndex_any _ 4 4 _ p _ _ ho1.rd (by omega) (-1) HV.out).mono ?_; rintro e _ ⟨rfl, rfl⟩))
          go_roundw
          case rel => exact ⟨k + 1, by omega, by go_num, HI', hb.trans (hb1.mono z)⟩
          case measure => simp [intOf]; omega
      · obtain rfl : k = N := by omega
        have HE : Hid (a = 0 ∧ b = 0 ∧ c = 2) := Lib.hid (by
          refine Sg.ns_no ?_ HA.out HBB.out HCC.out
          cases hs : Sg.nsOk (k : Int) p
          · rfl
          · have h3 := HI.out hs
            have h4 := (Sg.ns_bd hs).2.1
            rw [HK.out] at h4
            omega)
        go_wp2
        exact bodyPost_ret (v := .tuple #[.int .i64 0, .int .i64 0, .int .i64 2]) (by simp [results, Try.results44, go_sem]) rfl ⟨by rw [HE.out.1, HE.out.2.1, HE.out.2.2], hb⟩
  · have HN : Hid (decide (1 ≤ n ∧ n ≤ 64) = false) := Lib.hid (decide_eq_false hn)
    obtain ⟨rfl, rfl, rfl⟩ := Sg.ns_no (decide_eq_false (fun h => hn h.1)) ha hb hc
    clear hn ha hb hc
    go_enter Try.func44, Try.ntmps44
    go_wp2_with fail
    refine (canNest_any n false _ HN.out).mono ?_
    rintro e _ ⟨rfl, rfl⟩
    go_wp2_with fail
    exact bodyPost_ret (v := .tuple #[.int .i64 0, .int .i64 0, .int .i64 2]) (by simp [results, Try.results44, go_sem]) rfl ⟨rfl, Below.refl _ _⟩
end Go.Proofs.Ytfiefjbipjalpaa
