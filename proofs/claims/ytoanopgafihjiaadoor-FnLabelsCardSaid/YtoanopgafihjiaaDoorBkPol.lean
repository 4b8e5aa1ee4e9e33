/- Contract of the draw of a book and a label. -/
import Derived.Test.YtoanopgafihjiaaDoorBkLbl
import Derived.Test.YtoanopgafihjiaaDoorDmg
import Derived.Test.YtoanopgafihjiaaDoorLabMath
namespace Go.Proofs.YtoanopgafihjiaaDoor
open Go.RowKit Pg

/-- A book and a text are drawn. -/
def BkSW (w : World) (e : Ending) (w' : World) : Prop := ∃ f A' n' c' r l' u, e = .returned (.tuple #[BK f A' n' c' r, .string u]) ∧ Own I w' w.heap.size w'.heap.size 2 (.slice A' n' c') l' ∧ tame f l' ∧ u.size ≤ 100 ∧ Below w.heap.size w w'
theorem BkSW.mk_ {w w' : World} {n' c' : Nat} {A' : Option Addr} {f : Int} {u : ByteArray} {r : Bool} {l' : List Int} (h1 : Own I w' w.heap.size w'.heap.size 2 (.slice A' n' c') l') (h3 : tame f l') (hu : u.size ≤ 100) (h5 : Below w.heap.size w w') : BkSW w (.returned (.tuple #[BK f A' n' c' r, .string u])) w' := ⟨_, _, _, _, _, _, _, rfl, h1, h3, hu, h5⟩

set_option maxRecDepth 100000 in
set_option maxHeartbeats 8000000 in
theorem DrawPol_any (N C B : Nat) (A : Option Addr) (lc : List Int) (w : World) (hc : Rd U w B A N lc) (hl : inByte lc) (hB : B ≤ w.heap.size) (hN : N ≤ 1048576) :
    Calls Tryd.prog 13 #[.slice A N C] w fun e w' => BkSW w e w' := by
  have hrA : Blk (w.alloc (.cells #[.int .i64 0, .slice none 0 0, .bool false] 26)) w.heap.size #[.int .i64 0, .slice none 0 0, .bool false] 26 := Blk.new _ _ rfl
  have hb0 : Below w.heap.size w (w.alloc (.cells #[.int .i64 0, .slice none 0 0, .bool false] 26)) := (Below.refl w.heap.size w).alloc (Nat.le_refl _) _
  go_enter Tryd.func13, Tryd.ntmps13
  go_wp2_with fail
  refine (l01From_ex N C B A lc _ (hc.below hb0 hB) hl (by simp; omega)).mono ?_
  rintro e w1 ⟨g, rfl, hg, hs1, hb1⟩
  have hr1 := hrA.below hb1 hrA.lt
  have hB1 := hb0.trans (hb1.mono (by simp))
  have hz1 := hb1.size
  simp only [World.size_alloc] at hg hz1
  have hg1 := hs1.lt
  go_wp2_with fail
  refine (l02DrawPage_any g N C B A lc _ hs1 (hc.below hB1 hB) hl (by omega) hN).mono ?_
  rintro e w2 ⟨f, A3, n3, c3, r, l, p, rfl, how2, htm, hp, hs2, ho2⟩
  have hr2 := hr1.only ho2 (.inl (by omega))
  have hB2 := hB1.trans (ho2.below (B := w.heap.size) (by omega) (by omega))
  have hz2 := ho2.size
  have HTM := Lib.hid htm
  have hn3 : n3 ≤ 1048576 := by have h1 : l.length = n3 := how2.rd.1; have := htm.2.2.1; omega
  have hbx := (Below.refl w2.heap.size w2).alloc (Nat.le_refl _) (.cells (BC f A3 n3 c3 r) 26)
  have hBC := hB2.trans (hbx.mono (by omega))
  have hsC := hs2.below hbx hs2.lt
  have hrC := hr2.alloc (.cells (BC f A3 n3 c3 r) 26)
  have hbC : Blk (w2.alloc (.cells (BC f A3 n3 c3 r) 26)) w2.heap.size (BC f A3 n3 c3 r) 26 := Blk.new _ _ rfl
  have howC := how2.alloc (.cells (BC f A3 n3 c3 r) 26)
  obtain ⟨t, ht⟩ : ∃ t, loR r f l p = t := ⟨_, rfl⟩
  have htz : t.size ≤ 40 := by rw [← ht]; exact lo_size r f l p hp.2
  have HT := Lib.hid ht
  clear ht htm hs2 hr1 hrA hr2 how2 hbx
  go_wp2_with fail
  refine (specLbl_any f A3 n3 c3 _ r l p _ howC.rd (by simp) hn3).mono ?_
  rintro e w3 ⟨rfl, hb3⟩
  rw [HT.out]
  obtain ⟨q5, hq5⟩ : ∃ q, cpC r f l p = q := ⟨_, rfl⟩
  rw [hq5]
  clear hq5 hp
  have hz3 := hb3.size
  simp only [World.size_alloc] at hz3
  have hB3 := hBC.trans (hb3.mono (by simp; omega))
  have hs3 := hsC.below hb3 hsC.lt
  have hr3 := hrC.below hb3 hrC.lt
  have hbb3 := hbC.below hb3 hbC.lt
  have how3 := howC.below hb3 (by simp)
  clear hsC hrC hbC howC hBC
  go_wp2_with fail
  refine (l01Next_any g N C B A lc _ _ hs3 (hc.below hB3 hB) hl (by omega) hN (by omega)).mono ?_
  rintro e w4 ⟨v, rfl, hv0, hv1, _, hs4, ho4⟩
  have hz4 := ho4.size
  have hB4 := hB3.trans (ho4.below (B := w.heap.size) (by omega) (by omega))
  have hbr4 := hr3.only ho4 (.inl (by omega))
  have hbb4 := hbb3.only ho4 (.inr (by omega))
  have how4 := how3.only ho4 (.inr (by omega))
  have HC4 := Lib.hid (hc.below hB4 hB)
  clear hs3 hr3 hbb3 how3 hv1
  have t0 := hbb4.cell 0 (v := .int .i64 f) rfl
  have t1 := hbb4.cell 1 (v := .slice A3 n3 c3) rfl
  have t2 := hbb4.cell 2 (v := .bool r) rfl
  have hl4 := hbb4.lt
  have hl4r := hbr4.lt
  by_cases h0 : v = 0
  · subst h0
    go_wp2_with fail
    go_region_law ((go_simp; go_at_call 37; refine (l01Damage_any g N C B A lc t w4.drew hs4 HC4.out hl (by omega) hN (by omega)).mono ?_; rintro e w5 ⟨u, rfl, hu, hs5, ho5⟩; have hbb5 := (show Blk w4.drew w2.heap.size (BC f A3 n3 c3 r) 26 from hbb4).only ho5 (.inr (by omega)); have hbr5 := (show Blk w4.drew w.heap.size #[.int .i64 0, .slice none 0 0, .bool false] 26 from hbr4).only ho5 (.inl (by omega)); have t50 := hbb5.cell 0 (v := .int .i64 f) rfl; have t51 := hbb5.cell 1 (v := .slice A3 n3 c3) rfl; have t52 := hbb5.cell 2 (v := .bool r) rfl; have u0 := hbr5.cell 0 (v := .int .i64 0) rfl; have u1 := hbr5.cell 1 (v := .slice none 0 0) rfl; have u2 := hbr5.cell 2 (v := .bool false) rfl; have y0 := hbr5.free 0; have y1 := hbr5.free 1; have y2 := hbr5.free 2; have hz5 : w4.heap.size ≤ w5.heap.size := ho5.size; have hl5 := hbb5.lt))
    all_goals
      have how5 := (show Own I w4.drew w1.heap.size w2.heap.size 2 (.slice A3 n3 c3) l from how4).only ho5 (.inr (by omega))
      have hB5 : Below w.heap.size w w5 := hB4.drew.trans (ho5.below (B := w.heap.size) (by omega) (show w.heap.size ≤ w4.heap.size by omega))
      have hfr := how5.far hbr5 neBI
      have s0 := hbr5.set 0 (.int .i64 f)
      have s1 := s0.set 1 (.slice A3 n3 c3)
      have d0 := s0.cell 0 (v := .int .i64 f) rfl
      have d1 := s1.cell 1 (v := .slice A3 n3 c3) rfl
      have d2 := (s1.set 2 (.bool r)).cell 2 (v := .bool r) rfl
      have HEND : Hid (BkSW w (.returned (.tuple #[BK f A3 n3 c3 r, .string u])) (((w5.setCell ⟨w.heap.size, 0, none⟩ (.int .i64 f)).setCell ⟨w.heap.size, 1, none⟩ (.slice A3 n3 c3)).setCell ⟨w.heap.size, 2, none⟩ (.bool r))) := by
        have z1 := how5.other ⟨w.heap.size, 0, none⟩ (.int .i64 f) hfr
        have z2 := z1.other ⟨w.heap.size, 1, none⟩ (.slice A3 n3 c3) hfr
        have z3 := z2.other ⟨w.heap.size, 2, none⟩ (.bool r) hfr
        exact BkSW.mk_ (z3.mono (show w.heap.size ≤ w1.heap.size by omega) (by simp; omega)) HTM.out (show ByteArray.size u ≤ 100 by omega) (((hB5.setCell (by simp) _).setCell (by simp) _).setCell (by simp) _)
      clear hbb5 hbr5 how5 hB5 hfr s0 s1 ho5 hs5
      go_wp2_with fail
      exact bodyPost_ret (v := .tuple #[BK f A3 n3 c3 r, .string u]) (by simp [results, Tryd.results13, go_sem, d0, d1, d2]) rfl HEND.out
  · have n0 : (v == 0) = false := by simpa using h0
    have u0 := hbr4.cell 0 (v := .int .i64 0) rfl
    have u1 := hbr4.cell 1 (v := .slice none 0 0) rfl
    have u2 := hbr4.cell 2 (v := .bool false) rfl
    have y0 := hbr4.free 0
    have y1 := hbr4.free 1
    have y2 := hbr4.free 2
    have hB4' := hB4
    have how4' := how4
    have hfr := how4.far hbr4 neBI
    have s0 := hbr4.set 0 (.int .i64 f)
    have s1 := s0.set 1 (.slice A3 n3 c3)
    have d0 := s0.cell 0 (v := .int .i64 f) rfl
    have d1 := s1.cell 1 (v := .slice A3 n3 c3) rfl
    have d2 := (s1.set 2 (.bool r)).cell 2 (v := .bool r) rfl
    have HEND : Hid (BkSW w (.returned (.tuple #[BK f A3 n3 c3 r, .string t])) (((w4.setCell ⟨w.heap.size, 0, none⟩ (.int .i64 f)).setCell ⟨w.heap.size, 1, none⟩ (.slice A3 n3 c3)).setCell ⟨w.heap.size, 2, none⟩ (.bool r))) := by
      have z1 := how4.other ⟨w.heap.size, 0, none⟩ (.int .i64 f) hfr
      have z2 := z1.other ⟨w.heap.size, 1, none⟩ (.slice A3 n3 c3) hfr
      have z3 := z2.other ⟨w.heap.size, 2, none⟩ (.bool r) hfr
      exact BkSW.mk_ (z3.mono (show w.heap.size ≤ w1.heap.size by omega) (by simp; omega)) HTM.out (show ByteArray.size t ≤ 100 by omega) (((hB4.setCell (by simp) _).setCell (by simp) _).setCell (by simp) _)
    clear hfr s0 s1
    go_wp2_with fail
    exact bodyPost_ret (v := .tuple #[BK f A3 n3 c3 r, .string t]) (by simp [results, Tryd.results13, go_sem, d0, d1, d2]) rfl HEND.out
end Go.Proofs.YtoanopgafihjiaaDoor
