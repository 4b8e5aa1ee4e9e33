/- Contracts of the tests of chapter 9: a piece, a list of pieces, a possible cut; the program's and the model's. -/
import Derived.Test.YtbhofhobnbhhhaaGreatDoorGuMath
import Derived.Deep.RegionHeld3
import Derived.OwnWalk
namespace Go.Proofs.YtbhofhobnbhhhaaGreatDoor
open Go.RowKit
set_option linter.unusedVariables false

theorem below_new9 (w : World) (o : Obj) : Below w.heap.size w (w.alloc o) := (Below.refl _ _).alloc (Nat.le_refl _) _
def Gu.sd (x : Int) : Bool := decide (1 ≤ x ∧ x ≤ 20000)
theorem Gu.sdT {x : Int} (h1 : 1 ≤ x) (h2 : x ≤ 20000) : Gu.sd x = true := decide_eq_true ⟨h1, h2⟩
theorem Gu.sdF {x : Int} (h : x < 1 ∨ 20000 < x) : Gu.sd x = false := decide_eq_false (by omega)
theorem Gu.ok_cases (x : Pc) : (Gu.okP x = false ∧ Gu.sd x.w = false) ∨ (Gu.okP x = false ∧ Gu.sd x.w = true ∧ Gu.sd x.h = false) ∨ (Gu.okP x = true ∧ Gu.sd x.w = true ∧ Gu.sd x.h = true) := by
  unfold Gu.okP Gu.sd
  by_cases h1 : 1 ≤ x.w ∧ x.w ≤ 20000
  · by_cases h2 : 1 ≤ x.h ∧ x.h ≤ 20000
    · right; right
      simp [h1, h2]
    · right; left
      refine ⟨decide_eq_false (by omega), decide_eq_true h1, decide_eq_false h2⟩
  · left
    exact ⟨decide_eq_false (by omega), decide_eq_false h1⟩

theorem implSd_any (x : Int) (B : Bool) (w : World) (h : Gu.sd x = B) :
    Calls Tryz.prog 36 #[.int .i64 x] w fun e w' => e = .returned (.bool B) ∧ w = w' := by
  have H := Lib.hid h
  clear h
  by_cases h1 : 1 ≤ x
  · go_enter Tryz.func36, Tryz.ntmps36
    go_wp2
    go_ret
    exact ⟨ret_b (by rw [← H.out]; simp [Gu.sd, h1]), rfl⟩
  · have h1' : x < 1 := by omega
    go_enter Tryz.func36, Tryz.ntmps36
    go_wp2
    go_ret
    exact ⟨ret_b (by rw [← H.out]; exact (decide_eq_false (by omega)).symm), rfl⟩
theorem specSd_any (x : Int) (B : Bool) (w : World) (h : Gu.sd x = B) :
    Calls Tryz.prog 24 #[.int .i64 x, .int .i64 1, .int .i64 20000] w fun e w' => e = .returned (.bool B) ∧ w = w' := by
  cases B
  · exact l01In_no x 1 20000 w (by have := of_decide_eq_false h; omega)
  · exact l01In_yes x 1 20000 w (of_decide_eq_true h).1 (of_decide_eq_true h).2

set_option maxHeartbeats 1000000 in
theorem implPc_any (x : Pc) (B : Bool) (w : World) (h : Gu.okP x = B) :
    Calls Tryz.prog 20 #[x.agg] w fun e w' => e = .returned (.bool B) ∧ Below w.heap.size w w' := by
  have HB := Lib.hid (below_new9 w (.cells #[.int .i64 x.w, .int .i64 x.h] 25))
  subst h
  rcases Gu.ok_cases x with ⟨h0, h1⟩ | ⟨h0, h1, h2⟩ | ⟨h0, h1, h2⟩
  · have H1 := Lib.hid h1
    rw [h0]
    clear h0 h1
    go_enter Tryz.func20, Tryz.ntmps20
    go_wp2_with fail
    refine (implSd_any x.w false _ H1.out).mono ?_
    rintro e _ ⟨rfl, rfl⟩
    go_wp2_with fail
    go_ret
    exact ⟨rfl, HB.out⟩
  · have H1 := Lib.hid h1
    have H2 := Lib.hid h2
    rw [h0]
    clear h0 h1 h2
    go_enter Tryz.func20, Tryz.ntmps20
    go_wp2_with fail
    refine (implSd_any x.w true _ H1.out).mono ?_
    rintro e _ ⟨rfl, rfl⟩
    go_wp2_with fail
    refine (implSd_any x.h false _ H2.out).mono ?_
    rintro e _ ⟨rfl, rfl⟩
    go_wp2_with fail
    go_ret
    exact ⟨rfl, HB.out⟩
  · have H1 := Lib.hid h1
    have H2 := Lib.hid h2
    rw [h0]
    clear h0 h1 h2
    go_enter Tryz.func20, Tryz.ntmps20
    go_wp2_with fail
    refine (implSd_any x.w true _ H1.out).mono ?_
    rintro e _ ⟨rfl, rfl⟩
    go_wp2_with fail
    refine (implSd_any x.h true _ H2.out).mono ?_
    rintro e _ ⟨rfl, rfl⟩
    go_wp2_with fail
    go_ret
    exact ⟨rfl, HB.out⟩
set_option maxHeartbeats 1000000 in
theorem specPc_any (x : Pc) (B : Bool) (w : World) (h : Gu.okP x = B) :
    Calls Tryz.prog 23 #[x.agg] w fun e w' => e = .returned (.bool B) ∧ Below w.heap.size w w' := by
  have HB := Lib.hid (below_new9 w (.cells #[.int .i64 x.w, .int .i64 x.h] 25))
  subst h
  rcases Gu.ok_cases x with ⟨h0, h1⟩ | ⟨h0, h1, h2⟩ | ⟨h0, h1, h2⟩
  · have H1 := Lib.hid h1
    rw [h0]
    clear h0 h1
    go_enter Tryz.func23, Tryz.ntmps23
    go_wp2_with fail
    refine (specSd_any x.w false _ H1.out).mono ?_
    rintro e _ ⟨rfl, rfl⟩
    go_wp2_with fail
    go_ret
    exact ⟨rfl, HB.out⟩
  · have H1 := Lib.hid h1
    have H2 := Lib.hid h2
    rw [h0]
    clear h0 h1 h2
    go_enter Tryz.func23, Tryz.ntmps23
    go_wp2_with fail
    refine (specSd_any x.w true _ H1.out).mono ?_
    rintro e _ ⟨rfl, rfl⟩
    go_wp2_with fail
    refine (specSd_any x.h false _ H2.out).mono ?_
    rintro e _ ⟨rfl, rfl⟩
    go_wp2_with fail
    go_ret
    exact ⟨rfl, HB.out⟩
  · have H1 := Lib.hid h1
    have H2 := Lib.hid h2
    rw [h0]
    clear h0 h1 h2
    go_enter Tryz.func23, Tryz.ntmps23
    go_wp2_with fail
    refine (specSd_any x.w true _ H1.out).mono ?_
    rintro e _ ⟨rfl, rfl⟩
    go_wp2_with fail
    refine (specSd_any x.h true _ H2.out).mono ?_
    rintro e _ ⟨rfl, rfl⟩
    go_wp2_with fail
    go_ret
    exact ⟨rfl, HB.out⟩

/-- How far a list is right. -/
theorem Gu.okL_at {l : List Pc} {k : Nat} {x : Pc} (hx : l[k]? = some x) (h : Gu.okP x = false) : Gu.okL l = false := by
  unfold Gu.okL
  rw [Bool.and_eq_false_iff]
  right
  rw [List.all_eq_false]
  exact ⟨x, List.mem_of_getElem? hx, by simp [h]⟩
theorem Gu.okL_end {l : List Pc} {n : Nat} (hl : l.length = n) (h : ∀ j y, j < n → l[j]? = some y → Gu.okP y = true) : Gu.okL l = decide (n ≤ 80) := by
  unfold Gu.okL
  rw [hl]
  have : l.all Gu.okP = true := by
    rw [List.all_eq_true]
    intro x hx
    obtain ⟨j, hj⟩ := List.getElem?_of_mem hx
    exact h j x (by have := (List.getElem?_eq_some_iff.1 hj).1; omega) hj
  rw [this, Bool.and_true]

set_option maxRecDepth 100000 in
set_option maxHeartbeats 1000000 in
theorem specL9_any (A : Option Addr) (n c B : Nat) (l : List Pc) (b : Bool) (w : World) (h : RdS Pc.S w B A n l) (hB : B ≤ w.heap.size) (hn : n ≤ 1048577) (hb : Gu.okL l = b) :
    Calls Tryz.prog 50 #[.slice A n c] w fun e w' => e = .returned (.bool b) ∧ Below w.heap.size w w' := by
  have HL := Lib.hid h.1
  have HO := Lib.hid hb
  clear hb
  go_enter Tryz.func50, Tryz.ntmps50
  go_wp2
  go_loopw [3] (fun i wr => ∃ k : Nat, k ≤ n ∧ i = .int .i64 k ∧ Hid (∀ j y, j < k → l[j]? = some y → Gu.okP y = true) ∧ Below w.heap.size w wr) (fun i _ => n - (intOf i).toNat)
  case atStart => exact ⟨0, Nat.zero_le _, rfl, Lib.hid (by intro j y h; omega), Below.refl _ _⟩
  case round =>
    obtain ⟨k, hk, rfl, HK, hb⟩ := hrel
    have hz := hb.size
    by_cases hlt : k < n
    · obtain ⟨b1, o, x, rfl, hbB, hx, c0, c1⟩ := (h.below hb hB).at_Pc hlt
      have HX := Lib.hid hx
      clear hx
      obtain ⟨d, hd⟩ : ∃ d, Gu.okP x = d := ⟨_, rfl⟩
      have HD := Lib.hid hd
      clear hd
      go_wp2_with fail
      refine (specPc_any x d _ HD.out).mono ?_
      rintro e w5 ⟨rfl, hb5⟩
      have HB5 := Lib.hid (hb.trans (hb5.mono hz))
      clear hb5
      cases d
      · go_wp2_with fail
        go_ret
        exact ⟨ret_b (by rw [← HO.out]; exact (Gu.okL_at HX.out HD.out).symm), HB5.out⟩
      · go_wp2_with fail
        go_roundw
        case rel =>
          refine ⟨k + 1, by omega, by go_num, Lib.hid fun j y hj hy => ?_, HB5.out⟩
          by_cases he : j = k
          · subst he
            have := HX.out.symm.trans hy
            injection this with this
            rw [← this]
            exact HD.out
          · exact HK.out j y (by omega) hy
        case measure => simp [intOf]; omega
    · obtain rfl : k = n := by omega
      have HE := Lib.hid (Gu.okL_end HL.out HK.out)
      go_wp2_with fail
      go_ret
      exact ⟨ret_b (by rw [← HO.out, HE.out]; simp; omega), hb⟩

set_option maxRecDepth 100000 in
set_option maxHeartbeats 1000000 in
theorem implL9_any (A : Option Addr) (n c B : Nat) (l : List Pc) (b : Bool) (w : World) (h : RdS Pc.S w B A n l) (hB : B ≤ w.heap.size) (hn : n ≤ 1048577) (hb : Gu.okL l = b) :
    Calls Tryz.prog 35 #[.slice A n c] w fun e w' => e = .returned (.bool b) ∧ Below w.heap.size w w' := by
  have HL := Lib.hid h.1
  have HO := Lib.hid hb
  clear hb
  by_cases h80 : 80 < n
  · go_enter Tryz.func35, Tryz.ntmps35
    go_wp2
    go_ret
    exact ⟨ret_b (by rw [← HO.out]; unfold Gu.okL; rw [HL.out, decide_eq_false (by omega)]; rfl), Below.refl _ _⟩
  · have h80' : n ≤ 80 := by omega
    go_enter Tryz.func35, Tryz.ntmps35
    go_wp2
    go_loopw [10] (fun i wr => ∃ k : Nat, k ≤ n ∧ i = .int .i64 k ∧ Hid (∀ j y, j < k → l[j]? = some y → Gu.okP y = true) ∧ Below w.heap.size w wr) (fun i _ => n - (intOf i).toNat)
    case atStart => exact ⟨0, Nat.zero_le _, rfl, Lib.hid (by intro j y h; omega), Below.refl _ _⟩
    case round =>
      obtain ⟨k, hk, rfl, HK, hb⟩ := hrel
      have hz := hb.size
      by_cases hlt : k < n
      · obtain ⟨b1, o, x, rfl, hbB, hx, c0, c1⟩ := (h.below hb hB).at_Pc hlt
        have HX := Lib.hid hx
        clear hx
        obtain ⟨d, hd⟩ : ∃ d, Gu.okP x = d := ⟨_, rfl⟩
        have HD := Lib.hid hd
        clear hd
        go_wp2_with fail
        refine (implPc_any x d _ HD.out).mono ?_
        rintro e w5 ⟨rfl, hb5⟩
        have HB5 := Lib.hid (hb.trans (((Below.refl w.heap.size wr).alloc hz _).trans (hb5.mono (by simp; omega))))
        clear hb5
        cases d
        · go_wp2_with fail
          go_ret
          exact ⟨ret_b (by rw [← HO.out]; exact (Gu.okL_at HX.out HD.out).symm), HB5.out⟩
        · go_wp2_with fail
          go_roundw
          case rel =>
            refine ⟨k + 1, by omega, by go_num, Lib.hid fun j y hj hy => ?_, HB5.out⟩
            by_cases he : j = k
            · subst he
              have := HX.out.symm.trans hy
              injection this with this
              rw [← this]
              exact HD.out
            · exact HK.out j y (by omega) hy
          case measure => simp [intOf]; omega
      · obtain rfl : k = n := by omega
        have HE := Lib.hid (Gu.okL_end HL.out HK.out)
        go_wp2_with fail
        go_ret
        exact ⟨ret_b (by rw [← HO.out, HE.out]; simp [h80']), hb⟩

end Go.Proofs.YtbhofhobnbhhhaaGreatDoor
