/- The walk of the law of labels: the draws, the answers, the ways back. -/
import Derived.Test.YtoanopgafihjiaaDoorPol2
import Derived.Test.YtoanopgafihjiaaDoorBkPol
import Derived.Test.YtoanopgafihjiaaDoorRoLaid
namespace Go.Proofs.YtoanopgafihjiaaDoor
open Go.RowKit Pg Ro

theorem tame_i64 {f : Int} {l : List Int} (h : tame f l) : -9223372036854775808 ≤ f ∧ f ≤ 9223372036854775807 := by have := h.1; have := h.2.1; omega
theorem big_any (A : Option Addr) (N C : Nat) (w : World) :
    Calls Tryd.prog 9 #[.slice A N C] w fun e w' => e = .returned (.bool (decide (4096 < N))) ∧ w = w' := by
  go_enter Tryd.func9, Tryd.ntmps9
  go_wp2
  go_ret
  exact ⟨ret_b (by simp; omega), rfl⟩

set_option maxRecDepth 100000 in
set_option maxHeartbeats 8000000 in
theorem w_FnLabels (A : Option Addr) (N C : Nat) (lc : List Int) (w : World) (h : Rd U w w.heap.size A N lc) (hl : inByte lc) (hsg : Sg w) (htab : Lib.TabIs Tryd.prog w "internal/strconv.uint64pow10" .u64 Lib.pow10Tab) :
    Calls Tryd.prog 3 #[.slice A N C] w fun e w' => e = .returned (.bool true) ∧ Below w.heap.size w w' := by
  have HENV : Hid (Env w) := (show Env w from ⟨hsg, htab⟩)
  clear hsg htab
  by_cases hN : N ≤ 4096
  · have HF : Hid (decide (4096 < N) = false) := decide_eq_false (by omega)
    go_enter Tryd.func3, Tryd.ntmps3
    go_wp2_with fail
    refine (big_any A N C _).mono ?_
    rintro e _ ⟨rfl, rfl⟩
    rw [HF.out]
    go_wp2_with fail
    refine (DrawLbl_any N C _ A lc _ h hl (Nat.le_refl _) (by omega)).mono ?_
    rintro e w1 ⟨f, A1, n1, c1, r, l, p, rfl, ho1, htm, hp, hb1⟩
    have hz1 := hb1.size
    have HE1 := Lib.hid (HENV.out.below hb1)
    have hn1 : n1 ≤ 1048576 := by have h1 : l.length = n1 := ho1.rd.1; have := htm.2.2.1; omega
    have hf := Lib.hid (tame_i64 htm)
    obtain ⟨t, ht⟩ : ∃ t, loR r f l p = t := ⟨_, rfl⟩
    obtain ⟨q, hq⟩ : ∃ q, cpC r f l p = q := ⟨_, rfl⟩
    have hpw := po_way r f l p
    rw [hq, ht] at hpw
    have HPW := Lib.hid hpw
    have HT := Lib.hid ht
    have HQ := Lib.hid hq
    obtain ⟨p0, p1⟩ := hp
    clear ht hq hpw htm
    have bX := Blk.new (w := w1) (g := w1.heap.size) (BC f A1 n1 c1 r) 26 rfl
    have oX := ho1.alloc (.cells (BC f A1 n1 c1 r) 26)
    have hB1 := hb1.alloc hz1 (.cells (BC f A1 n1 c1 r) 26)
    clear ho1
    go_wp2_with fail
    refine (implLbl_any f A1 n1 c1 _ r l p _ oX.rd (by simp) hn1 hf.out (HE1.out.alloc _)).mono ?_
    rintro e w2 ⟨rfl, hb2⟩
    rw [HT.out, HQ.out]
    have hz2 := hb2.size
    simp only [World.size_alloc] at hz2
    have hB2 := hB1.trans (hb2.mono (by simp; omega))
    have bX_2 := bX.below hb2 bX.lt
    have oX_2 := oX.below hb2 (by simp)
    clear bX oX hb1 hB1 HE1
    have cbX0_2 := bX_2.cell 0 (v := .int .i64 f) rfl
    have cbX1_2 := bX_2.cell 1 (v := .slice A1 n1 c1) rfl
    have cbX2_2 := bX_2.cell 2 (v := .bool r) rfl
    go_wp2_with fail
    refine (specLbl_any f A1 n1 c1 _ r l p _ oX_2.rd (by omega) hn1).mono ?_
    rintro e w3 ⟨rfl, hb3⟩
    rw [HT.out, HQ.out]
    have hz3 := hb3.size
    have hB3 := hB2.trans (hb3.mono (by omega))
    have bX_3 := bX_2.below hb3 (by omega)
    have oX_3 := oX_2.below hb3 (by omega)
    have cbX0_3 := bX_3.cell 0 (v := .int .i64 f) rfl
    have cbX1_3 := bX_3.cell 1 (v := .slice A1 n1 c1) rfl
    have cbX2_3 := bX_3.cell 2 (v := .bool r) rfl
    clear cbX0_2 cbX1_2 cbX2_2
    go_wp2_with fail
    refine (DrawPol_any N C _ A lc _ (h.below hB3 (Nat.le_refl _)) hl (by omega) (by omega)).mono ?_
    rintro e w4 ⟨f2, A2, n2, c2, r2, l2, u, rfl, oY_4, htm2, hu, hb4⟩
    have hz4 := hb4.size
    have hB4 := hB3.trans (hb4.mono (by omega))
    have bX_4 := bX_3.below hb4 (by omega)
    have oX_4 := oX_3.below hb4 (by omega)
    have cbX0_4 := bX_4.cell 0 (v := .int .i64 f) rfl
    have cbX1_4 := bX_4.cell 1 (v := .slice A1 n1 c1) rfl
    have cbX2_4 := bX_4.cell 2 (v := .bool r) rfl
    clear cbX0_3 cbX1_3 cbX2_3
    have hn2 : n2 ≤ 1048576 := by have h1 : l2.length = n2 := oY_4.rd.1; have := htm2.2.2.1; omega
    have hf2 := Lib.hid (tame_i64 htm2)
    have HE4 := Lib.hid (HENV.out.below hB4)
    obtain ⟨x, hx⟩ : ∃ x, poR r2 f2 l2 u = x := ⟨_, rfl⟩
    obtain ⟨m, hm⟩ : ∃ m, poC r2 f2 l2 u = m := ⟨_, rfl⟩
    have hpb := po_back r2 f2 l2 u
    rw [hx, hm] at hpb
    have HPB := Lib.hid hpb
    have HX := Lib.hid hx
    have HM := Lib.hid hm
    clear hx hm hpb htm2
    go_wp2_with fail
    refine (implPol_any f2 A2 n2 c2 _ r2 l2 u _ (oY_4.rd.alloc (Nat.le_refl _) _) (by simp) hn2 hf2.out (HE4.out.alloc _)).mono ?_
    rintro e w5 ⟨rfl, hb5⟩
    rw [HX.out, HM.out]
    have hz5 := hb5.size
    simp only [World.size_alloc] at hz5
    have hB5 : Below w.heap.size w w5 := (hB4.alloc (by omega) _).trans (hb5.mono (by simp; omega))
    have bX_5 := (bX_4.alloc (.cells (BC f2 A2 n2 c2 r2) 26)).below hb5 (by simp; try omega)
    have oX_5 := (oX_4.alloc (.cells (BC f2 A2 n2 c2 r2) 26)).below hb5 (by simp; try omega)
    have oY_5 := (oY_4.alloc (.cells (BC f2 A2 n2 c2 r2) 26)).below hb5 (by simp; try omega)
    have bY_5 := (Blk.new (w := w4) (g := w4.heap.size) (BC f2 A2 n2 c2 r2) 26 rfl).below hb5 (by simp)
    have cbX0_5 := bX_5.cell 0 (v := .int .i64 f) rfl
    have cbX1_5 := bX_5.cell 1 (v := .slice A1 n1 c1) rfl
    have cbX2_5 := bX_5.cell 2 (v := .bool r) rfl
    have cbY0_5 := bY_5.cell 0 (v := .int .i64 f2) rfl
    have cbY1_5 := bY_5.cell 1 (v := .slice A2 n2 c2) rfl
    have cbY2_5 := bY_5.cell 2 (v := .bool r2) rfl
    clear cbX0_4 cbX1_4 cbX2_4
    go_wp2_with fail
    refine (specPol_any f2 A2 n2 c2 _ r2 l2 u _ oY_5.rd (by omega) hn2).mono ?_
    rintro e w6 ⟨rfl, hb6⟩
    rw [HX.out, HM.out]
    have hz6 := hb6.size
    have hB6 := hB5.trans (hb6.mono (by omega))
    have bX_6 := bX_5.below hb6 (by omega)
    have oX_6 := oX_5.below hb6 (by omega)
    have oY_6 := oY_5.below hb6 (by omega)
    have bY_6 := bY_5.below hb6 (by omega)
    have cbX0_6 := bX_6.cell 0 (v := .int .i64 f) rfl
    have cbX1_6 := bX_6.cell 1 (v := .slice A1 n1 c1) rfl
    have cbX2_6 := bX_6.cell 2 (v := .bool r) rfl
    have cbY0_6 := bY_6.cell 0 (v := .int .i64 f2) rfl
    have cbY1_6 := bY_6.cell 1 (v := .slice A2 n2 c2) rfl
    have cbY2_6 := bY_6.cell 2 (v := .bool r2) rfl
    clear cbX0_5 cbX1_5 cbX2_5 cbY0_5 cbY1_5 cbY2_5
    have HE6 := Lib.hid (HENV.out.below hB6)
    by_cases hm0 : m = 0
    · subst hm0
      obtain ⟨k1, k2⟩ := HPB.out rfl
      have HK1 := Lib.hid k1
      have HK2 := Lib.hid k2
      clear k1 k2
      go_wp2_with fail
      refine (implLbl_any f2 A2 n2 c2 _ r2 l2 x _ oY_6.rd (by omega) hn2 hf2.out HE6.out).mono ?_
      rintro e w7 ⟨rfl, hb7⟩
      rw [HK1.out, HK2.out]
      have hz7 := hb7.size
      have hB7 := hB6.trans (hb7.mono (by omega))
      have bX_7 := bX_6.below hb7 (by omega)
      have oX_7 := oX_6.below hb7 (by omega)
      have cX0 := bX_7.cell 0 (v := .int .i64 f) rfl
      have cX1 := bX_7.cell 1 (v := .slice A1 n1 c1) rfl
      have cX2 := bX_7.cell 2 (v := .bool r) rfl
      have HE7 := Lib.hid (HENV.out.below hB7)
      clear cbX0_6 cbX1_6 cbX2_6 cbY0_6 cbY1_6 cbY2_6
      by_cases hq0 : q = 0
      · subst hq0
        obtain ⟨g1, g2⟩ := HPW.out rfl
        have HG1 := Lib.hid g1
        have HG2 := Lib.hid g2
        clear g1 g2
        go_wp2_with fail
        refine (implPol_any f A1 n1 c1 _ r l t _ oX_7.rd (by omega) hn1 hf.out HE7.out).mono ?_
        rintro e w9 ⟨rfl, hb9⟩
        rw [HG1.out, HG2.out]
        go_wp2_with fail
        go_ret
        exact ⟨rfl, hB7.trans (hb9.mono (by omega))⟩
      · have hqb : (q == 0) = false := by simpa using hq0
        go_wp2_with fail
        go_ret
        exact ⟨rfl, hB7⟩
    · have hmb : (m == 0) = false := by simpa using hm0
      by_cases hq0 : q = 0
      · subst hq0
        obtain ⟨g1, g2⟩ := HPW.out rfl
        have HG1 := Lib.hid g1
        have HG2 := Lib.hid g2
        clear g1 g2
        go_wp2_with fail
        refine (implPol_any f A1 n1 c1 _ r l t _ oX_6.rd (by omega) hn1 hf.out HE6.out).mono ?_
        rintro e w9 ⟨rfl, hb9⟩
        rw [HG1.out, HG2.out]
        go_wp2_with fail
        go_ret
        exact ⟨rfl, hB6.trans (hb9.mono (by omega))⟩
      · have hqb : (q == 0) = false := by simpa using hq0
        go_wp2_with fail
        go_ret
        exact ⟨rfl, hB6⟩
  · have HF : Hid (decide (4096 < N) = true) := decide_eq_true (by omega)
    go_enter Tryd.func3, Tryd.ntmps3
    go_wp2_with fail
    refine (big_any A N C _).mono ?_
    rintro e _ ⟨rfl, rfl⟩
    rw [HF.out]
    go_wp2_with fail
    go_ret
    exact ⟨rfl, Below.refl _ _⟩
end Go.Proofs.YtoanopgafihjiaaDoor
