/- The walk of the law of chapters: the draws, the answers, a chapter's pages, the odd pages, the count. -/
import Derived.Test.YtoanopgafihjiaaBkChap
import Derived.Test.YtoanopgafihjiaaSum
import Derived.Test.YtoanopgafihjiaaBlank
import Derived.Deep.RegionHeld3
namespace Go.Proofs.Ytoanopgafihjiaa
open Go.RowKit Pg

theorem tame_i64 {f : Int} {l : List Int} (h : tame f l) : -9223372036854775808 ≤ f ∧ f ≤ 9223372036854775807 := by have := h.1; have := h.2.1; omega
theorem co_facts (r : Bool) (f : Int) (l : List Int) (p : Int) : (coC r f l p ≠ 0) ∨ (coC r f l p = 0 ∧ okP f l ∧ ∃ k : Nat, ∃ c, coR r f l p = k ∧ l[k]? = some c ∧ up r (stop r (f + 1) (l.take k)) ≤ p ∧ p ≤ up r (stop r (f + 1) (l.take k)) + c - 1) := by
  rcases cp_cases r f l p with ⟨hq, ho, hp1, hp2⟩ | ⟨hq, _⟩ | ⟨hq, _⟩
  · rcases chap_ge r (f + 1) l p 0 with h | h
    · left
      rw [(co_not hq h).2]
      decide
    · right
      obtain ⟨k, hk⟩ := Int.eq_ofNat_of_zero_le h
      obtain ⟨s1, s2⟩ := co_at hq hk (by omega)
      obtain ⟨c, hc, h1, h2⟩ := chap_spot r (f + 1) l p 0 k (by simpa using hk) (Nat.zero_le _)
      exact ⟨s2, ho, k, c, s1, by simpa using hc, by simpa using h1, by simpa using h2⟩
  · left
    rw [(co_none hq (by decide)).2]
    decide
  · left
    rw [(co_none hq (by decide)).2]
    decide

set_option maxRecDepth 100000 in
set_option maxHeartbeats 8000000 in
theorem w_FnChapters (A : Option Addr) (N C : Nat) (lc : List Int) (w : World) (h : Rd U w w.heap.size A N lc) (hl : inByte lc) :
    Calls Try.prog 3 #[.slice A N C] w fun e w' => e = .returned (.bool true) ∧ Below w.heap.size w w' := by
  by_cases hN : N ≤ 4096
  · have HF : Hid (decide (4096 < N) = false) := decide_eq_false (by omega)
    go_enter Try.func3, Try.ntmps3
    go_wp2_with fail
    refine (big_any A N C _).mono ?_
    rintro e _ ⟨rfl, rfl⟩
    rw [HF.out]
    go_wp2_with fail
    refine (DrawStarts_any N C _ A lc _ h hl (Nat.le_refl _) (by omega)).mono ?_
    rintro e w1 ⟨f, A1, n1, c1, r, l, rfl, ho1, htm, hb1⟩
    have hz1 := hb1.size
    have HTM := Lib.hid htm
    have hln := Lib.hid (show l.length = n1 from ho1.rd.1)
    have hn1 : n1 ≤ 1048576 := by have h1 := hln.out; have := htm.2.2.1; omega
    have hf := Lib.hid (tame_i64 htm)
    have hf0 := htm.1
    have hf1 := htm.2.1
    have bX := Blk.new (w := w1) (g := w1.heap.size) (BC f A1 n1 c1 r) 26 rfl
    have oX := ho1.alloc (.cells (BC f A1 n1 c1 r) 26)
    have hB1 := hb1.alloc hz1 (.cells (BC f A1 n1 c1 r) 26)
    clear htm ho1
    go_wp2_with fail
    refine (implStarts_any f A1 n1 c1 _ r l _ oX.rd (by simp) hn1 hf.out).mono ?_
    rintro e w2 ⟨AG, nG, cG, rfl, oG_2, hnG, hb2⟩
    have hz2 := hb2.size
    simp only [World.size_alloc] at hz2
    have hB2 := hB1.trans (hb2.mono (by simp; omega))
    have bX_2 := bX.below hb2 bX.lt
    have oX_2 := oX.below hb2 (by simp)
    clear bX oX hb1 hB1
    have cbX0_2 := bX_2.cell 0 (v := .int .i64 f) rfl
    have cbX1_2 := bX_2.cell 1 (v := .slice A1 n1 c1) rfl
    have cbX2_2 := bX_2.cell 2 (v := .bool r) rfl
    go_wp2_with fail
    refine (specStarts_any f A1 n1 c1 _ r l _ oX_2.rd (by omega) hn1).mono ?_
    rintro e w3 ⟨AW, nW, cW, rfl, oW_3, hnW, hb3⟩
    have hz3 := hb3.size
    have hB3 := hB2.trans (hb3.mono (by omega))
    have bX_3 := bX_2.below hb3 (by omega)
    have oX_3 := oX_2.below hb3 (by omega)
    have oG_3 := oG_2.below hb3 (by omega)
    have cbX0_3 := bX_3.cell 0 (v := .int .i64 f) rfl
    have cbX1_3 := bX_3.cell 1 (v := .slice A1 n1 c1) rfl
    have cbX2_3 := bX_3.cell 2 (v := .bool r) rfl
    clear cbX0_2 cbX1_2 cbX2_2
    obtain rfl : nG = nW := oG_3.rd.1.symm.trans oW_3.rd.1
    go_wp2_with fail
    refine (implBlank_any f A1 n1 c1 _ r l _ oX_3.rd (by omega) hn1 hf.out).mono ?_
    rintro e w4 ⟨AI, nI, cI, rfl, oI_4, hnI, hb4⟩
    have hz4 := hb4.size
    have hB4 := hB3.trans (hb4.mono (by omega))
    have bX_4 := bX_3.below hb4 (by omega)
    have oX_4 := oX_3.below hb4 (by omega)
    have oG_4 := oG_3.below hb4 (by omega)
    have oW_4 := oW_3.below hb4 (by omega)
    have cbX0_4 := bX_4.cell 0 (v := .int .i64 f) rfl
    have cbX1_4 := bX_4.cell 1 (v := .slice A1 n1 c1) rfl
    have cbX2_4 := bX_4.cell 2 (v := .bool r) rfl
    clear cbX0_3 cbX1_3 cbX2_3
    go_wp2_with fail
    refine (specBlank_any f A1 n1 c1 _ r l _ oX_4.rd (by omega) hn1).mono ?_
    rintro e w5 ⟨AJ, nJ, cJ, rfl, oJ_5, hnJ, hb5⟩
    have hz5 := hb5.size
    have hB5 := hB4.trans (hb5.mono (by omega))
    have bX_5 := bX_4.below hb5 (by omega)
    have oX_5 := oX_4.below hb5 (by omega)
    have oG_5 := oG_4.below hb5 (by omega)
    have oW_5 := oW_4.below hb5 (by omega)
    have oI_5 := oI_4.below hb5 (by omega)
    have cbX0_5 := bX_5.cell 0 (v := .int .i64 f) rfl
    have cbX1_5 := bX_5.cell 1 (v := .slice A1 n1 c1) rfl
    have cbX2_5 := bX_5.cell 2 (v := .bool r) rfl
    clear cbX0_4 cbX1_4 cbX2_4
    obtain rfl : nI = nJ := oI_5.rd.1.symm.trans oJ_5.rd.1
    obtain ⟨pv, hpv⟩ : ∃ pv, pcR r f l = pv := ⟨_, rfl⟩
    have HPV := Lib.hid hpv
    obtain ⟨bv, hbv⟩ : ∃ bv, bkC f l = bv := ⟨_, rfl⟩
    have HBV := Lib.hid hbv
    clear hpv hbv
    go_wp2_with fail
    refine (implCount_any f A1 n1 c1 _ r l _ oX_5.rd (by omega) hn1 hf.out).mono ?_
    rintro e w6 ⟨rfl, hb6⟩
    rw [HPV.out, HBV.out]
    have hz6 := hb6.size
    have hB6 := hB5.trans (hb6.mono (by omega))
    have bX_6 := bX_5.below hb6 (by omega)
    have oX_6 := oX_5.below hb6 (by omega)
    have oG_6 := oG_5.below hb6 (by omega)
    have oW_6 := oW_5.below hb6 (by omega)
    have oI_6 := oI_5.below hb6 (by omega)
    have oJ_6 := oJ_5.below hb6 (by omega)
    have cbX0_6 := bX_6.cell 0 (v := .int .i64 f) rfl
    have cbX1_6 := bX_6.cell 1 (v := .slice A1 n1 c1) rfl
    have cbX2_6 := bX_6.cell 2 (v := .bool r) rfl
    clear cbX0_5 cbX1_5 cbX2_5
    go_wp2_with fail
    refine (specCount_any f A1 n1 c1 _ r l _ oX_6.rd (by omega) hn1).mono ?_
    rintro e w7 ⟨rfl, hb7⟩
    rw [HPV.out, HBV.out]
    have hz7 := hb7.size
    have hB7 := hB6.trans (hb7.mono (by omega))
    have bX_7 := bX_6.below hb7 (by omega)
    have oX_7 := oX_6.below hb7 (by omega)
    have oG_7 := oG_6.below hb7 (by omega)
    have oW_7 := oW_6.below hb7 (by omega)
    have oI_7 := oI_6.below hb7 (by omega)
    have oJ_7 := oJ_6.below hb7 (by omega)
    have cbX0_7 := bX_7.cell 0 (v := .int .i64 f) rfl
    have cbX1_7 := bX_7.cell 1 (v := .slice A1 n1 c1) rfl
    have cbX2_7 := bX_7.cell 2 (v := .bool r) rfl
    clear cbX0_6 cbX1_6 cbX2_6
    go_wp2_with fail
    refine (DrawChOf_any N C _ A lc _ (h.below hB7 (Nat.le_refl _)) hl (by omega) (by omega)).mono ?_
    rintro e w8 ⟨f2, A2, n2, c2, r2, l2, p, rfl, oY_8, htm2, hp, hb8⟩
    have hz8 := hb8.size
    have hB8 := hB7.trans (hb8.mono (by omega))
    have bX_8 := bX_7.below hb8 (by omega)
    have oX_8 := oX_7.below hb8 (by omega)
    have oG_8 := oG_7.below hb8 (by omega)
    have oW_8 := oW_7.below hb8 (by omega)
    have oI_8 := oI_7.below hb8 (by omega)
    have oJ_8 := oJ_7.below hb8 (by omega)
    have cbX0_8 := bX_8.cell 0 (v := .int .i64 f) rfl
    have cbX1_8 := bX_8.cell 1 (v := .slice A1 n1 c1) rfl
    have cbX2_8 := bX_8.cell 2 (v := .bool r) rfl
    clear cbX0_7 cbX1_7 cbX2_7
    have hln2 := Lib.hid (show l2.length = n2 from oY_8.rd.1)
    have hn2 : n2 ≤ 1048576 := by have h1 := hln2.out; have := htm2.2.2.1; omega
    have hf2 := Lib.hid (tame_i64 htm2)
    have HTM2 := Lib.hid htm2
    obtain ⟨p0, p1⟩ := hp
    obtain ⟨q5, hq5⟩ : ∃ q, coC r2 f2 l2 p = q := ⟨_, rfl⟩
    obtain ⟨p5, hp5⟩ : ∃ q, coR r2 f2 l2 p = q := ⟨_, rfl⟩
    have hco := co_facts r2 f2 l2 p
    rw [hq5, hp5] at hco
    have HQ5 := Lib.hid hq5
    have HP5 := Lib.hid hp5
    have HCO := Lib.hid hco
    clear hq5 hp5 hco htm2
    go_wp2_with fail
    refine (implChOf_any f2 A2 n2 c2 _ r2 l2 p _ (oY_8.rd.alloc (Nat.le_refl _) _) (by simp) hn2 hf2.out).mono ?_
    rintro e w9 ⟨rfl, hb9⟩
    rw [HQ5.out, HP5.out]
    have hz9 := hb9.size
    simp only [World.size_alloc] at hz9
    have hB9 : Below w.heap.size w w9 := (hB8.alloc (by omega) _).trans (hb9.mono (by simp; omega))
    have bX_9 := (bX_8.alloc (.cells (BC f2 A2 n2 c2 r2) 26)).below hb9 (by simp; try omega)
    have oX_9 := (oX_8.alloc (.cells (BC f2 A2 n2 c2 r2) 26)).below hb9 (by simp; try omega)
    have oG_9 := (oG_8.alloc (.cells (BC f2 A2 n2 c2 r2) 26)).below hb9 (by simp; try omega)
    have oW_9 := (oW_8.alloc (.cells (BC f2 A2 n2 c2 r2) 26)).below hb9 (by simp; try omega)
    have oI_9 := (oI_8.alloc (.cells (BC f2 A2 n2 c2 r2) 26)).below hb9 (by simp; try omega)
    have oJ_9 := (oJ_8.alloc (.cells (BC f2 A2 n2 c2 r2) 26)).below hb9 (by simp; try omega)
    have oY_9 := (oY_8.alloc (.cells (BC f2 A2 n2 c2 r2) 26)).below hb9 (by simp; try omega)
    have bY_9 := (Blk.new (w := w8) (g := w8.heap.size) (BC f2 A2 n2 c2 r2) 26 rfl).below hb9 (by simp)
    have cbX0_9 := bX_9.cell 0 (v := .int .i64 f) rfl
    have cbX1_9 := bX_9.cell 1 (v := .slice A1 n1 c1) rfl
    have cbX2_9 := bX_9.cell 2 (v := .bool r) rfl
    have cbY0_9 := bY_9.cell 0 (v := .int .i64 f2) rfl
    have cbY1_9 := bY_9.cell 1 (v := .slice A2 n2 c2) rfl
    have cbY2_9 := bY_9.cell 2 (v := .bool r2) rfl
    clear cbX0_8 cbX1_8 cbX2_8
    go_wp2_with fail
    refine (specChOf_any f2 A2 n2 c2 _ r2 l2 p _ oY_9.rd (by omega) hn2).mono ?_
    rintro e w10 ⟨rfl, hb10⟩
    rw [HQ5.out, HP5.out]
    have hz10 := hb10.size
    have hB10 := hB9.trans (hb10.mono (by omega))
    have bX_10 := bX_9.below hb10 (by omega)
    have oX_10 := oX_9.below hb10 (by omega)
    have oG_10 := oG_9.below hb10 (by omega)
    have oW_10 := oW_9.below hb10 (by omega)
    have oI_10 := oI_9.below hb10 (by omega)
    have oJ_10 := oJ_9.below hb10 (by omega)
    have oY_10 := oY_9.below hb10 (by omega)
    have bY_10 := bY_9.below hb10 (by omega)
    have cbX0_10 := bX_10.cell 0 (v := .int .i64 f) rfl
    have cbX1_10 := bX_10.cell 1 (v := .slice A1 n1 c1) rfl
    have cbX2_10 := bX_10.cell 2 (v := .bool r) rfl
    have cbY0_10 := bY_10.cell 0 (v := .int .i64 f2) rfl
    have cbY1_10 := bY_10.cell 1 (v := .slice A2 n2 c2) rfl
    have cbY2_10 := bY_10.cell 2 (v := .bool r2) rfl
    clear cbX0_9 cbX1_9 cbX2_9 cbY0_9 cbY1_9 cbY2_9
    go_wp2_with fail
    have hqd : Q w10 w10.drew := ⟨1, rfl⟩
    go_region_held3 (fun W => W.cell? ⟨w1.heap.size, 0, none⟩ = some (.int .i64 f) ∧ W.cell? ⟨w1.heap.size, 1, none⟩ = some (.slice A1 n1 c1) ∧ W.cell? ⟨w1.heap.size, 2, none⟩ = some (.bool r))
      (first | go_keep | (refine ⟨?_, ?_, ?_⟩ <;> (first | go_keep | (rw [hbk.cell (by first | omega | (simp; omega))]; first | assumption | go_keep))))
      (first
        | (go_at_call 21; refine (likeInts_true AI AJ nI cI cJ _ _ _ wa ((oI_10.rd.q hqd).q hqa) ((oJ_10.rd.q hqd).q hqa) hnI).mono ?_; rintro e wb ⟨rfl, hqb⟩; have hbk : Below wa.heap.size wa wb := hqb.below _; have hk2 := hbk; have hzb : wa.heap.size ≤ wb.heap.size := hqb.le)
        | (go_at_call 21; refine (likeInts_true AG AW nG cG cW _ _ _ w10.drew (oG_10.rd.q hqd) (oW_10.rd.q hqd) hnG).mono ?_; rintro e wa ⟨rfl, hqa⟩; have hbk : Below w10.heap.size w10.drew wa := hqa.below _; have hk1 := hbk; have hza : w10.heap.size ≤ wa.heap.size := hqa.le)
        | (go_at_call 22; refine (implIsBook_any f A1 n1 c1 _ r l wb (((oX_10.rd.q hqd).q hqa).q hqb) (by omega) hn1 hf.out).mono ?_; rintro e wc ⟨rfl, hbk⟩; have hk3 := hbk; have hzc := hbk.size)
        | (go_at_call 23; refine (specIsBook_any f A1 n1 c1 _ r l wc ((((oX_10.rd.q hqd).q hqa).q hqb).below hk3 (by omega)) (by omega) hn1).mono ?_; rintro e wd ⟨rfl, hbk⟩; have hk4 := hbk; have hzd := hbk.size))
    have hb11 : Below w10.heap.size w10 wd := (below_drewN' (Below.refl _ _) 1).trans (hk1.trans ((hk2.mono (by omega)).trans ((hk3.mono (by omega)).trans (hk4.mono (by omega)))))
    obtain ⟨w11, hw11⟩ : ∃ W, W = wd := ⟨_, rfl⟩
    subst hw11
    clear hk1 hk2 hk3 hk4 hbk
    have hz11 := hb11.size
    have hB11 := hB10.trans (hb11.mono (by omega))
    have bX_11 := bX_10.below hb11 (by omega)
    have oX_11 := oX_10.below hb11 (by omega)
    have oG_11 := oG_10.below hb11 (by omega)
    have oI_11 := oI_10.below hb11 (by omega)
    have oY_11 := oY_10.below hb11 (by omega)
    have bY_11 := bY_10.below hb11 (by omega)
    have cbX0_11 := bX_11.cell 0 (v := .int .i64 f) rfl
    have cbX1_11 := bX_11.cell 1 (v := .slice A1 n1 c1) rfl
    have cbX2_11 := bX_11.cell 2 (v := .bool r) rfl
    have cbY0_11 := bY_11.cell 0 (v := .int .i64 f2) rfl
    have cbY1_11 := bY_11.cell 1 (v := .slice A2 n2 c2) rfl
    have cbY2_11 := bY_11.cell 2 (v := .bool r2) rfl
    clear cbX0_10 cbX1_10 cbX2_10 cbY0_10 cbY1_10 cbY2_10
    rcases HCO.out with hne | ⟨rfl, hok2, k, cc, rfl, hcc, hlo, hhi⟩
    · have hne5 : ¬ q5 = 0 := hne
      obtain ⟨bZ, oGZ, oIZ, oXZ, hBZ⟩ : Blk w11 w1.heap.size (BC f A1 n1 c1 r) 26 ∧ Rd I w11 w11.heap.size AG nG (csR r f l) ∧ Rd I w11 w11.heap.size AI nI (blR r f l) ∧ Rd I w11 w11.heap.size A1 n1 l ∧ Below w.heap.size w w11 := ⟨bX_11, oG_11.rd.more (by omega), oI_11.rd.more (by omega), oX_11.rd.more (by omega), hB11⟩
      clear cbX0_11 cbX1_11 cbX2_11 cbY0_11 cbY1_11 cbY2_11
      by_cases hob : okP f l
      · have HO := Lib.hid (okB_yes hob)
        have hbv0 : bv = 0 := by rw [← HBV.out]; exact if_pos HO.out
        subst hbv0
        have hcs : csR r f l = starts r (f + 1) l := if_pos HO.out
        have hbl : blR r f l = blanks r (f + 1) l := if_pos HO.out
        rw [hcs] at oGZ
        rw [hbl] at oIZ
        have hss := stop_sum r (f + 1) l
        have hpv2 : pv = f + l.sum + (nI : Int) := by
          rw [← HPV.out, ← oIZ.1]
          show (if okB f l = true then stop r (f + 1) l - 1 else 0) = _
          rw [if_pos HO.out]
          omega
        have hGn : nG = n1 := by have := oGZ.1; rw [starts_len] at this; have := hln.out; omega
        have hbd := mild_take (mild_ok hob) r l.length
        rw [List.take_length] at hbd
        have hnI21 : nI ≤ 21 := by have h1 := oIZ.1; have h2 := blanks_len r (f + 1) l; have := HTM.out.2.2.1; omega
        have HSB : Hid (-2000000 ≤ l.sum ∧ l.sum ≤ 2000000) := (by have h1 := oIZ.1; omega : -2000000 ≤ l.sum ∧ l.sum ≤ 2000000)
        have HRB : Hid (r = false → nI = 0) := fun hr => by rw [← oIZ.1, hr, blanks_false]; rfl
        have HLB : Hid (∀ x ∈ l, -1099511627776 ≤ x ∧ x ≤ 1099511627776) := fun x hx => by have := HTM.out.2.2.2 x hx; omega
        have HODD : Hid (∀ (i : Nat) (x : Int), r = true → (starts r (f + 1) l)[i]? = some x → x % 2 = 1) := fun i x hr hx => by subst hr; exact starts_odd (f + 1) l i x hx
        have HSUM : Hid (sumOf l = l.sum) := sumOf_sum l
        have HGE : Hid (∀ (i : Nat) (x : Int), (starts r (f + 1) l)[i]? = some x → 0 ≤ x ∧ x ≤ 1002002) := fun i x hx => by
          have hi : i < l.length := by
            rcases Nat.lt_or_ge i l.length with h1 | h1
            · exact h1
            · rw [List.getElem?_eq_none (by rw [starts_len]; exact h1)] at hx; cases hx
          rw [starts_at r (f + 1) l i hi] at hx
          injection hx with hx
          have h1 := mild_take (mild_ok hob) r i
          have h2 := up_ge r (stop r (f + 1) (l.take i))
          omega
        subst hpv2 hGn
        obtain ⟨S, hS⟩ : ∃ S, l.sum = S := ⟨_, rfl⟩
        rw [hS] at HSB HSUM ⊢
        obtain ⟨S0, S1⟩ := HSB.out
        clear hob hcs hbl hss hbd hS HSB
        go_wp2_with fail
        go_loopw [24] (fun i wr => ∃ k : Nat, k ≤ nG ∧ i = .int .i64 k ∧ Q w11 wr) (fun i _ => nG - (intOf i).toNat)
        case atStart => exact ⟨0, Nat.zero_le _, rfl, Q.refl _⟩
        case round =>
          obtain ⟨k, hk, rfl, hq⟩ := hrel
          have bR := bZ.q hq
          have t0 := bR.cell 0 (v := .int .i64 f) rfl
          have t1 := bR.cell 1 (v := .slice A1 nG c1) rfl
          have t2 := bR.cell 2 (v := .bool r) rfl
          by_cases hlt : k < nG
          · obtain ⟨bq, oq, x, rfl, _, hx, hcx⟩ := (oGZ.q hq).at_ hlt
            obtain ⟨x0, x1⟩ := HGE.out k x hx
            cases r with
            | false =>
              clear hx
              go_wp2_with fail
              go_roundw
              case rel => exact ⟨k + 1, by omega, by go_num, hq⟩
              case measure => simp [intOf]; omega
            | true =>
              have hxo := HODD.out k x rfl hx
              have hxn : ¬ x % 2 = 0 := by omega
              clear hx hxo
              go_wp2_with fail
              go_roundw
              case rel => exact ⟨k + 1, by omega, by go_num, hq⟩
              case measure => simp [intOf]; omega
          · obtain rfl : k = nG := by omega
            have e1 : IntKind.i64.wrap (f + S) = f + S := IntWalk.i64_in _ (by omega)
            have e2 : IntKind.i64.wrap (f + S + (nI : Int)) = f + S + (nI : Int) := IntWalk.i64_in _ (by omega)
            have hsum := fun W (hW : Rd I W w11.heap.size A1 k l) => sum_is A1 k c1 w11.heap.size l W S hW hn1 HLB.out HSUM.out
            have HSM := Lib.hid hsum
            clear hsum
            cases r with
            | false =>
              have hnI0 := HRB.out rfl
              subst hnI0
              go_wp2_with fail
              go_quiet ((go_at_call 24; exact quiet_same (HSM.out _ (oXZ.q (hq.more _)))))
              go_wp2_with fail
              go_ret
              exact ⟨rfl, (hBZ.trans (hq.below _)).trans (below_drewN' (Below.refl _ _) _)⟩
            | true =>
              go_wp2_with fail
              go_quiet ((go_at_call 24; exact quiet_same (HSM.out _ (oXZ.q (hq.more _)))))
              go_wp2_with fail
              go_ret
              exact ⟨rfl, (hBZ.trans (hq.below _)).trans (below_drewN' (Below.refl _ _) _)⟩
      · have hbv1 : bv = 1 := by rw [← HBV.out]; exact if_neg (by rw [okB_no hob]; simp)
        subst hbv1
        clear hob
        go_wp2_with fail
        go_ret
        exact ⟨rfl, hBZ⟩
    · have HS2 : Hid (csR r2 f2 l2 = starts r2 (f2 + 1) l2) := if_pos (okB_yes hok2)
      have HC2 : Hid (bkC f2 l2 = 0) := if_pos (okB_yes hok2)
      have hmb := mild_take (tame_mild HTM2.out) r2 k
      obtain ⟨cc0, cc1⟩ := (tame_mild HTM2.out).2.2.2 cc (List.mem_of_getElem? hcc)
      have hub := up_ge r2 (stop r2 (f2 + 1) (l2.take k))
      obtain ⟨y, hy⟩ : ∃ y, up r2 (stop r2 (f2 + 1) (l2.take k)) = y := ⟨_, rfl⟩
      have hkl : k < l2.length := (List.getElem?_eq_some_iff.1 hcc).1
      have HST := Lib.hid (starts_at r2 (f2 + 1) l2 k hkl)
      rw [hy] at hub hlo hhi HST
      have hkn : k < n2 := by have := hln2.out; omega
      clear hy hok2
      go_wp2_with fail
      refine (implStarts_any f2 A2 n2 c2 _ r2 l2 _ oY_11.rd (by omega) hn2 hf2.out).mono ?_
      rintro e w12 ⟨AF, nF, cF, rfl, oF, hnF, hb12⟩
      rw [HS2.out] at oF
      rw [HC2.out]
      have hz12 := hb12.size
      have hFn : nF = n2 := by have := oF.rd.1; rw [starts_len] at this; have := hln2.out; omega
      subst hFn
      obtain ⟨gF, y', rfl, _, _, _, hy', hcy, _⟩ := oF.at_ (k := k) hkn
      obtain rfl : y' = y := by have h1 := HST.out; rw [hy'] at h1; injection h1
      have oY_12 := (oY_11.rd.more (show _ ≤ w11.heap.size by omega)).below hb12 (Nat.le_refl _)
      obtain ⟨bq, oq, x', rfl, _, hx', hcx⟩ := oY_12.at_ (k := k) hkn
      obtain rfl : x' = cc := by rw [hcc] at hx'; injection hx' with hx'; exact hx'.symm
      have bY_12 := bY_11.below hb12 bY_11.lt
      have m1 := bY_12.cell 1 (v := .slice (some ⟨bq, oq, none⟩) nF c2) rfl
      have e1 : IntKind.i64.wrap (y' + x') = y' + x' := IntWalk.i64_in _ (by omega)
      have e2 : decide (p < y') = false := decide_eq_false (by omega)
      have e3 : decide (y' + x' ≤ p) = false := decide_eq_false (by omega)
      have e4 : (0 : Int) ≤ (k : Int) := by omega
      have e5 : (k : Int) < (nF : Int) := by omega
      clear hy' hx' hcc HST
      go_wp2_with fail
      go_quiet (fail)
      obtain ⟨bZ, oGZ, oIZ, oXZ, hBZ⟩ : Blk w12 w1.heap.size (BC f A1 n1 c1 r) 26 ∧ Rd I w12 w11.heap.size AG nG (csR r f l) ∧ Rd I w12 w11.heap.size AI nI (blR r f l) ∧ Rd I w12 w11.heap.size A1 n1 l ∧ Below w.heap.size w w12 := ⟨bX_11.below hb12 bX_11.lt, (oG_11.rd.more (by omega)).below hb12 (Nat.le_refl _), (oI_11.rd.more (by omega)).below hb12 (Nat.le_refl _), (oX_11.rd.more (by omega)).below hb12 (Nat.le_refl _), hB11.trans (hb12.mono (by omega))⟩
      clear e1 e2 e3 e4 e5 m1 hcy hcx cbX0_11 cbX1_11 cbX2_11 cbY0_11 cbY1_11 cbY2_11
      by_cases hob : okP f l
      · have HO := Lib.hid (okB_yes hob)
        have hbv0 : bv = 0 := by rw [← HBV.out]; exact if_pos HO.out
        subst hbv0
        have hcs : csR r f l = starts r (f + 1) l := if_pos HO.out
        have hbl : blR r f l = blanks r (f + 1) l := if_pos HO.out
        rw [hcs] at oGZ
        rw [hbl] at oIZ
        have hss := stop_sum r (f + 1) l
        have hpv2 : pv = f + l.sum + (nI : Int) := by
          rw [← HPV.out, ← oIZ.1]
          show (if okB f l = true then stop r (f + 1) l - 1 else 0) = _
          rw [if_pos HO.out]
          omega
        have hGn : nG = n1 := by have := oGZ.1; rw [starts_len] at this; have := hln.out; omega
        have hbd := mild_take (mild_ok hob) r l.length
        rw [List.take_length] at hbd
        have hnI21 : nI ≤ 21 := by have h1 := oIZ.1; have h2 := blanks_len r (f + 1) l; have := HTM.out.2.2.1; omega
        have HSB : Hid (-2000000 ≤ l.sum ∧ l.sum ≤ 2000000) := (by have h1 := oIZ.1; omega : -2000000 ≤ l.sum ∧ l.sum ≤ 2000000)
        have HRB : Hid (r = false → nI = 0) := fun hr => by rw [← oIZ.1, hr, blanks_false]; rfl
        have HLB : Hid (∀ x ∈ l, -1099511627776 ≤ x ∧ x ≤ 1099511627776) := fun x hx => by have := HTM.out.2.2.2 x hx; omega
        have HODD : Hid (∀ (i : Nat) (x : Int), r = true → (starts r (f + 1) l)[i]? = some x → x % 2 = 1) := fun i x hr hx => by subst hr; exact starts_odd (f + 1) l i x hx
        have HSUM : Hid (sumOf l = l.sum) := sumOf_sum l
        have HGE : Hid (∀ (i : Nat) (x : Int), (starts r (f + 1) l)[i]? = some x → 0 ≤ x ∧ x ≤ 1002002) := fun i x hx => by
          have hi : i < l.length := by
            rcases Nat.lt_or_ge i l.length with h1 | h1
            · exact h1
            · rw [List.getElem?_eq_none (by rw [starts_len]; exact h1)] at hx; cases hx
          rw [starts_at r (f + 1) l i hi] at hx
          injection hx with hx
          have h1 := mild_take (mild_ok hob) r i
          have h2 := up_ge r (stop r (f + 1) (l.take i))
          omega
        subst hpv2 hGn
        obtain ⟨S, hS⟩ : ∃ S, l.sum = S := ⟨_, rfl⟩
        rw [hS] at HSB HSUM ⊢
        obtain ⟨S0, S1⟩ := HSB.out
        clear hob hcs hbl hss hbd hS HSB
        go_wp2_with fail
        go_loopw [24] (fun i wr => ∃ k : Nat, k ≤ nG ∧ i = .int .i64 k ∧ Q w12 wr) (fun i _ => nG - (intOf i).toNat)
        case atStart => exact ⟨0, Nat.zero_le _, rfl, (Q.refl _).more _⟩
        case round =>
          obtain ⟨k, hk, rfl, hq⟩ := hrel
          have bR := bZ.q hq
          have t0 := bR.cell 0 (v := .int .i64 f) rfl
          have t1 := bR.cell 1 (v := .slice A1 nG c1) rfl
          have t2 := bR.cell 2 (v := .bool r) rfl
          by_cases hlt : k < nG
          · obtain ⟨bq, oq, x, rfl, _, hx, hcx⟩ := (oGZ.q hq).at_ hlt
            obtain ⟨x0, x1⟩ := HGE.out k x hx
            cases r with
            | false =>
              clear hx
              go_wp2_with fail
              go_roundw
              case rel => exact ⟨k + 1, by omega, by go_num, hq⟩
              case measure => simp [intOf]; omega
            | true =>
              have hxo := HODD.out k x rfl hx
              have hxn : ¬ x % 2 = 0 := by omega
              clear hx hxo
              go_wp2_with fail
              go_roundw
              case rel => exact ⟨k + 1, by omega, by go_num, hq⟩
              case measure => simp [intOf]; omega
          · obtain rfl : k = nG := by omega
            have e1 : IntKind.i64.wrap (f + S) = f + S := IntWalk.i64_in _ (by omega)
            have e2 : IntKind.i64.wrap (f + S + (nI : Int)) = f + S + (nI : Int) := IntWalk.i64_in _ (by omega)
            have hsum := fun W (hW : Rd I W w11.heap.size A1 k l) => sum_is A1 k c1 w11.heap.size l W S hW hn1 HLB.out HSUM.out
            have HSM := Lib.hid hsum
            clear hsum
            cases r with
            | false =>
              have hnI0 := HRB.out rfl
              subst hnI0
              go_wp2_with fail
              go_quiet ((go_at_call 24; exact quiet_same (HSM.out _ (oXZ.q (hq.more _)))))
              go_wp2_with fail
              go_ret
              exact ⟨rfl, (hBZ.trans (hq.below _)).trans (below_drewN' (Below.refl _ _) _)⟩
            | true =>
              go_wp2_with fail
              go_quiet ((go_at_call 24; exact quiet_same (HSM.out _ (oXZ.q (hq.more _)))))
              go_wp2_with fail
              go_ret
              exact ⟨rfl, (hBZ.trans (hq.below _)).trans (below_drewN' (Below.refl _ _) _)⟩
      · have hbv1 : bv = 1 := by rw [← HBV.out]; exact if_neg (by rw [okB_no hob]; simp)
        subst hbv1
        clear hob
        go_wp2_with fail
        go_ret
        exact ⟨rfl, below_drewN' hBZ _⟩
  · have HF : Hid (decide (4096 < N) = true) := decide_eq_true (by omega)
    go_enter Try.func3, Try.ntmps3
    go_wp2_with fail
    refine (big_any A N C _).mono ?_
    rintro e _ ⟨rfl, rfl⟩
    rw [HF.out]
    go_wp2_with fail
    go_ret
    exact ⟨rfl, Below.refl _ _⟩
end Go.Proofs.Ytoanopgafihjiaa
