/- Contracts of ChapterOf, the model's and the program's. -/
import Derived.Test.YtoanopgafihjiaaChap
import Derived.Outline
namespace Go.Proofs.Ytoanopgafihjiaa
open Go.RowKit Pg

def cpC (r : Bool) (f : Int) (l : List Int) (p : Int) : Int := if okB f l = true then (if 1 ≤ p ∧ p ≤ stop r (f + 1) l - 1 then 0 else 2) else 1
def coR (r : Bool) (f : Int) (l : List Int) (p : Int) : Int := if cpC r f l p = 0 then (if chap r (f + 1) l p 0 < 0 then 0 else chap r (f + 1) l p 0) else 0
def coC (r : Bool) (f : Int) (l : List Int) (p : Int) : Int := if cpC r f l p = 0 then (if chap r (f + 1) l p 0 < 0 then 4 else 0) else cpC r f l p

set_option maxHeartbeats 2000000 in
theorem checkPage_any (f : Int) (A : Option Addr) (n c B : Nat) (r : Bool) (l : List Int) (p : Int) (w : World) (h : Rd I w B A n l) (hB : B ≤ w.heap.size) (hn : n ≤ 1048576) (hf : -9223372036854775808 ≤ f ∧ f ≤ 9223372036854775807) :
    Calls Try.prog 40 #[BK f A n c r, .int .i64 p] w fun e w' => e = .returned (.int .i64 (cpC r f l p)) ∧ Below w.heap.size w w' := by
  have hR0 := h.alloc hB (.cells (BC f A n c r) 26)
  by_cases ho : okP f l
  · have HO := Lib.hid (okB_yes ho)
    have HR : Hid (pcR r f l = stop r (f + 1) l - 1) := if_pos HO.out
    have HC : Hid (bkC f l = 0) := if_pos HO.out
    obtain ⟨s, hs⟩ : ∃ s, stop r (f + 1) l - 1 = s := ⟨_, rfl⟩
    rw [hs] at HR
    have HP : Hid (cpC r f l p = if 1 ≤ p ∧ p ≤ s then 0 else 2) := by rw [← hs]; exact if_pos HO.out
    clear hs ho
    have hcase : (1 ≤ p ∧ p ≤ s) ∨ p < 1 ∨ (1 ≤ p ∧ s < p) := by omega
    rcases hcase with ⟨h1, h2⟩ | h1 | ⟨h1, h2⟩
    · have HQ : Hid (cpC r f l p = 0) := HP.out.trans (if_pos ⟨h1, h2⟩)
      go_enter Try.func40, Try.ntmps40
      go_wp2_with fail
      refine (implCount_any _ _ _ _ _ _ _ _ hR0 (by simp; omega) hn hf).mono ?_
      rintro e w1 ⟨rfl, hb1⟩
      rw [HR.out, HC.out]
      go_wp2_with fail
      go_ret
      exact ⟨ret_i HQ.out.symm, ((Below.refl w.heap.size w).alloc (Nat.le_refl _) _).trans (hb1.mono (by simp))⟩
    all_goals
      have HQ : Hid (cpC r f l p = 2) := HP.out.trans (if_neg (by omega))
      go_enter Try.func40, Try.ntmps40
      go_wp2_with fail
      refine (implCount_any _ _ _ _ _ _ _ _ hR0 (by simp; omega) hn hf).mono ?_
      rintro e w1 ⟨rfl, hb1⟩
      rw [HR.out, HC.out]
      go_wp2_with fail
      go_ret
      exact ⟨ret_i HQ.out.symm, ((Below.refl w.heap.size w).alloc (Nat.le_refl _) _).trans (hb1.mono (by simp))⟩
  · have HO := Lib.hid (okB_no ho)
    have HR : Hid (pcR r f l = 0) := if_neg (by rw [HO.out]; simp)
    have HC : Hid (bkC f l = 1) := if_neg (by rw [HO.out]; simp)
    have HQ : Hid (cpC r f l p = 1) := if_neg (by rw [HO.out]; simp)
    clear ho
    go_enter Try.func40, Try.ntmps40
    go_wp2_with fail
    refine (implCount_any _ _ _ _ _ _ _ _ hR0 (by simp; omega) hn hf).mono ?_
    rintro e w1 ⟨rfl, hb1⟩
    rw [HR.out, HC.out]
    go_wp2_with fail
    go_ret
    exact ⟨ret_i HQ.out.symm, ((Below.refl w.heap.size w).alloc (Nat.le_refl _) _).trans (hb1.mono (by simp))⟩

set_option maxHeartbeats 2000000 in
theorem l02Code_any (f : Int) (A : Option Addr) (n c B : Nat) (r : Bool) (l : List Int) (p : Int) (w : World) (h : Rd I w B A n l) (hB : B ≤ w.heap.size) (hn : n ≤ 1048576) :
    Calls Try.prog 42 #[BK f A n c r, .int .i64 p] w fun e w' => e = .returned (.int .i64 (cpC r f l p)) ∧ Below w.heap.size w w' := by
  have hR0 := h.alloc hB (.cells (BC f A n c r) 26)
  by_cases ho : okP f l
  · have HO := Lib.hid (okB_yes ho)
    have HM : Hid (mild f l) := mild_ok ho
    have hbd := mild_take HM.out r l.length
    rw [List.take_length] at hbd
    obtain ⟨m0, m1⟩ := hbd
    have HP : Hid (cpC r f l p = if 1 ≤ p ∧ p ≤ stop r (f + 1) l - 1 then 0 else 2) := if_pos HO.out
    clear ho
    by_cases hp : 1 ≤ p ∧ p ≤ stop r (f + 1) l - 1
    · have HQ : Hid (cpC r f l p = 0) := HP.out.trans (if_pos hp)
      obtain ⟨h1, h2⟩ := hp
      go_enter Try.func42, Try.ntmps42
      go_wp2_with fail
      refine (specIsBook_is _ _ _ _ _ _ _ _ _ hR0 (by simp; omega) hn HO.out).mono ?_
      rintro e w1 ⟨rfl, hb1⟩
      have a1 := (Blk.new (w := w) (g := w.heap.size) (BC f A n c r) 26 rfl).below hb1 (by simp)
      have a10 := a1.cell 0 (v := .int .i64 f) rfl
      have a11 := a1.cell 1 (v := .slice A n c) rfl
      have a12 := a1.cell 2 (v := .bool r) rfl
      have hB1 : Below w.heap.size w w1 := ((Below.refl w.heap.size w).alloc (Nat.le_refl _) _).trans (hb1.mono (by simp))
      have hz1 := hB1.size
      go_wp2_with fail
      refine (l02Starts_any _ _ _ _ _ _ _ _ (h.below hB1 hB) (by omega) HM.out).mono ?_
      rintro e w2 ⟨A2, n2, c2, rfl, rfl, ho2, hb2⟩
      go_wp2_with fail
      refine (l01In_yes _ _ _ _ h1 h2).mono ?_
      rintro e _ ⟨rfl, rfl⟩
      go_wp2_with fail
      go_ret
      exact ⟨ret_i HQ.out.symm, hB1.trans (hb2.mono hz1)⟩
    · have HQ : Hid (cpC r f l p = 2) := HP.out.trans (if_neg hp)
      have hp' : Hid (p < 1 ∨ stop r (f + 1) l - 1 < p) := show p < 1 ∨ stop r (f + 1) l - 1 < p by omega
      clear hp
      go_enter Try.func42, Try.ntmps42
      go_wp2_with fail
      refine (specIsBook_is _ _ _ _ _ _ _ _ _ hR0 (by simp; omega) hn HO.out).mono ?_
      rintro e w1 ⟨rfl, hb1⟩
      have a1 := (Blk.new (w := w) (g := w.heap.size) (BC f A n c r) 26 rfl).below hb1 (by simp)
      have a10 := a1.cell 0 (v := .int .i64 f) rfl
      have a11 := a1.cell 1 (v := .slice A n c) rfl
      have a12 := a1.cell 2 (v := .bool r) rfl
      have hB1 : Below w.heap.size w w1 := ((Below.refl w.heap.size w).alloc (Nat.le_refl _) _).trans (hb1.mono (by simp))
      have hz1 := hB1.size
      go_wp2_with fail
      refine (l02Starts_any _ _ _ _ _ _ _ _ (h.below hB1 hB) (by omega) HM.out).mono ?_
      rintro e w2 ⟨A2, n2, c2, rfl, rfl, ho2, hb2⟩
      go_wp2_with fail
      refine (l01In_no _ _ _ _ hp'.out).mono ?_
      rintro e _ ⟨rfl, rfl⟩
      go_wp2_with fail
      go_ret
      exact ⟨ret_i HQ.out.symm, hB1.trans (hb2.mono hz1)⟩
  · have HO := Lib.hid (okB_no ho)
    have HQ : Hid (cpC r f l p = 1) := if_neg (by rw [HO.out]; simp)
    clear ho
    go_enter Try.func42, Try.ntmps42
    go_wp2_with fail
    refine (specIsBook_is _ _ _ _ _ _ _ _ _ hR0 (by simp; omega) hn HO.out).mono ?_
    rintro e w1 ⟨rfl, hb1⟩
    go_wp2_with fail
    go_ret
    exact ⟨ret_i HQ.out.symm, ((Below.refl w.heap.size w).alloc (Nat.le_refl _) _).trans (hb1.mono (by simp))⟩

theorem has_any (a b p : Int) (w : World) (q : Bool) (hq : decide (a ≤ p ∧ p ≤ b) = q) :
    Calls Try.prog 41 #[.agg #[.int .i64 a, .int .i64 b], .int .i64 p] w fun e w' => e = .returned (.bool q) ∧ Below w.heap.size w w' := by
  have HQ := Lib.hid hq
  clear hq
  by_cases h1 : a ≤ p
  · have HE : Hid (decide (p ≤ b) = q) := by rw [← HQ.out]; exact (by simp [h1] : decide (p ≤ b) = decide (a ≤ p ∧ p ≤ b))
    go_enter Try.func41, Try.ntmps41
    go_wp2_with fail
    go_ret
    exact ⟨ret_b (by rw [← HE.out]), (Below.refl _ _).alloc (Nat.le_refl _) _⟩
  · have HE : Hid (false = q) := by rw [← HQ.out]; exact (by simp [h1] : false = decide (a ≤ p ∧ p ≤ b))
    have h1' : p < a := by omega
    go_enter Try.func41, Try.ntmps41
    go_wp2_with fail
    go_ret
    exact ⟨ret_b HE.out, (Below.refl _ _).alloc (Nat.le_refl _) _⟩
theorem has_yes (a b p : Int) (w : World) (h : a ≤ p ∧ p ≤ b) :
    Calls Try.prog 41 #[.agg #[.int .i64 a, .int .i64 b], .int .i64 p] w fun e w' => e = .returned (.bool true) ∧ Below w.heap.size w w' := has_any a b p w true (decide_eq_true h)
theorem has_no (a b p : Int) (w : World) (h : ¬ (a ≤ p ∧ p ≤ b)) :
    Calls Try.prog 41 #[.agg #[.int .i64 a, .int .i64 b], .int .i64 p] w fun e w' => e = .returned (.bool false) ∧ Below w.heap.size w w' := has_any a b p w false (decide_eq_false h)

theorem l01In_is (x lo hi : Int) (w : World) (b : Bool) (h : decide (lo ≤ x ∧ x ≤ hi) = b) :
    Calls Try.prog 43 #[.int .i64 x, .int .i64 lo, .int .i64 hi] w fun e w' => e = .returned (.bool b) ∧ w = w' := by
  by_cases hx : lo ≤ x ∧ x ≤ hi
  · rw [decide_eq_true hx] at h
    subst h
    exact l01In_yes x lo hi w hx.1 hx.2
  · rw [decide_eq_false hx] at h
    subst h
    exact l01In_no x lo hi w (by omega)

set_option maxHeartbeats 2000000 in
theorem l02Chapter_any (f : Int) (A : Option Addr) (n c B : Nat) (r : Bool) (l : List Int) (p : Int) (w : World) (h : Rd I w B A n l) (hB : B ≤ w.heap.size) (hmi : mild f l) :
    Calls Try.prog 38 #[BK f A n c r, .int .i64 p] w fun e w' => e = .returned (.int .i64 (chap r (f + 1) l p 0)) ∧ Below w.heap.size w w' := by
  have HL : Hid (l.length = n) := h.1
  have HM := Lib.hid hmi
  have hn : n ≤ 1000 := by have h1 := HL.out; have := hmi.2.2.1; omega
  have bA := Blk.new (w := w) (g := w.heap.size) (BC f A n c r) 26 rfl
  clear hmi
  go_enter Try.func38, Try.ntmps38
  go_wp2_with fail
  refine (l02Starts_any _ _ _ _ _ _ _ _ (h.alloc hB _) (by simp; omega) HM.out).mono ?_
  rintro e w1 ⟨A1, n1, c1, rfl, hn1, ho1, hb1⟩
  obtain rfl : n1 = n := hn1.trans HL.out
  have bA1 := bA.below hb1 (by simp)
  have hz1 := hb1.size
  simp only [World.size_alloc] at hz1
  have hB1 : Below w.heap.size w w1 := ((Below.refl w.heap.size w).alloc (Nat.le_refl _) _).trans (hb1.mono (by simp))
  have h1 := h.below hB1 hB
  clear bA hn1
  go_wp2_with fail
  go_loopw [7] (fun i wr => ∃ k : Nat, k ≤ n1 ∧ i = .int .i64 k ∧ Q w1 wr ∧ Hid (chap r (f + 1) l p 0 = chap r (stop r (f + 1) (l.take k)) (l.drop k) p (0 + k))) (fun i _ => n1 - (intOf i).toNat)
  case atStart => exact ⟨0, Nat.zero_le _, rfl, Q.refl _, show _ = _ by simp [stop]⟩
  case round =>
    obtain ⟨k, hk, rfl, hq, hch⟩ := hrel
    by_cases hlt : k < n1
    · obtain ⟨b, o, x, rfl, hbB, hx, hc⟩ := (h1.q hq).at_ hlt
      obtain ⟨g2, y, rfl, _, _, _, hy, hcy, _⟩ := (ho1.q hq).at_ hlt
      have bA2 := bA1.q hq
      have d1 := bA2.cell 1 (v := .slice (some ⟨b, o, none⟩) n1 c) rfl
      have hyv : up r (stop r (f + 1) (l.take k)) = y := by
        rw [starts_at r (f + 1) l k (by rw [HL.out]; exact hlt)] at hy
        injection hy
      have hxb := HM.out.2.2.2 x (List.mem_of_getElem? hx)
      have hmb := mild_take HM.out r k
      have hub := up_ge r (stop r (f + 1) (l.take k))
      have hyb : 0 ≤ y ∧ y ≤ 1002002 := by omega
      have HCH := Lib.hid (chap_at r (f + 1) l p 0 k x hx hch.out)
      rw [hyv] at HCH
      obtain ⟨x0, x1⟩ := hxb
      obtain ⟨y0, y1⟩ := hyb
      have e1 : IntKind.i64.wrap (y + x) = y + x := IntWalk.i64_in _ (by omega)
      have e2 : IntKind.i64.wrap (y + x - 1) = y + x - 1 := IntWalk.i64_in _ (by omega)
      have hk0 : (0 : Int) ≤ (k : Int) := by omega
      have hk1 : (k : Int) < (n1 : Int) := by omega
      clear hyv hx hy hmb hub
      by_cases hin : y ≤ p ∧ p ≤ y + x - 1
      · have HV : Hid (chap r (f + 1) l p 0 = 0 + (k : Int)) := HCH.out.trans (if_pos hin)
        have HD := Lib.hid (decide_eq_true hin)
        clear hin
        go_wp2_with fail
        go_quiet ((go_at_call 43; exact quiet_same (l01In_is _ _ _ _ _ HD.out)))
        go_wp2_with fail
        go_ret
        exact ⟨ret_i (by rw [HV.out]; omega), (hB1.trans (hq.below _)).trans (below_drewN' (Below.refl _ _) _)⟩
      · have HV : Hid (chap r (f + 1) l p 0 = chap r (stop r (f + 1) (l.take (k + 1))) (l.drop (k + 1)) p (0 + (k + 1 : Nat))) := HCH.out.trans (if_neg hin)
        have HD := Lib.hid (decide_eq_false hin)
        clear hin
        go_wp2_with fail
        go_quiet ((go_at_call 43; exact quiet_same (l01In_is _ _ _ _ _ HD.out)))
        go_wp2_with fail
        go_roundw
        case rel => exact ⟨k + 1, by omega, by go_num, hq.more _, HV⟩
        case measure => simp [intOf]; omega
    · obtain rfl : k = n1 := by omega
      have HV : Hid (chap r (f + 1) l p 0 = -1) := by
        show _ = _
        rw [hch.out, List.drop_of_length_le (Nat.le_of_eq HL.out)]
        rfl
      go_wp2_with fail
      go_ret
      exact ⟨ret_i HV.out.symm, hB1.trans (hq.below _)⟩
end Go.Proofs.Ytoanopgafihjiaa
