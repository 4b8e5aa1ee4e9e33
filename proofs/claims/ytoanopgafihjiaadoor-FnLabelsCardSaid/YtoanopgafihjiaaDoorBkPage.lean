/- Contracts of the draws of a book and a page. -/
import Derived.Test.YtoanopgafihjiaaDoorBkDraw
namespace Go.Proofs.YtoanopgafihjiaaDoor
open Go.RowKit Pg

/-- A book and a number are drawn. -/
def DrBP (w : World) (g : Nat) (A : Option Addr) (N C : Nat) (e : Ending) (w' : World) : Prop :=
  ∃ f A' n' c' r l' p, e = .returned (.tuple #[BK f A' n' c' r, .int .i64 p]) ∧ Own I w' w.heap.size w'.heap.size 2 (.slice A' n' c') l' ∧ tame f l' ∧ (-1 ≤ p ∧ p ≤ 1002002) ∧ Src w' g A N C ∧ Only g (g + 1) w w'
theorem DrBP.mk_ {w w' : World} {g N C n' c' lo : Nat} {A A' : Option Addr} {f p : Int} {r : Bool} {l' : List Int} (h1 : Own I w' lo w'.heap.size 2 (.slice A' n' c') l') (h2 : w.heap.size ≤ lo) (h3 : tame f l') (hp : -1 ≤ p ∧ p ≤ 1002002) (h4 : Src w' g A N C) (h5 : Only g (g + 1) w w') :
    DrBP w g A N C (.returned (.tuple #[BK f A' n' c' r, .int .i64 p])) w' := ⟨_, _, _, _, _, _, _, rfl, h1.mono h2 (Nat.le_refl _), h3, hp, h4, h5⟩

set_option maxRecDepth 100000 in
set_option maxHeartbeats 8000000 in
theorem l02DrawPage_any (g N C B : Nat) (A : Option Addr) (lc : List Int) (w : World) (hs : Src w g A N C) (hc : Rd U w B A N lc) (hl : inByte lc) (hB : B ≤ g) (hN : N ≤ 1048576) :
    Calls Tryd.prog 28 #[.pointer (some ⟨g, 0, none⟩)] w fun e w' => DrBP w g A N C e w' := by
  have hlt := hs.lt
  have hsA := hs.below ((Below.refl w.heap.size w).alloc (Nat.le_refl _) (.cells #[.int .i64 0, .slice none 0 0, .bool false] 26)) hlt
  have hOA : Only g (g + 1) w (w.alloc (.cells #[.int .i64 0, .slice none 0 0, .bool false] 26)) := (Only.refl _ _ _).plus ((Below.refl w.heap.size w).alloc (Nat.le_refl _) _) (Nat.le_refl _)
  have hrA : Blk (w.alloc (.cells #[.int .i64 0, .slice none 0 0, .bool false] 26)) w.heap.size #[.int .i64 0, .slice none 0 0, .bool false] 26 := Blk.new _ _ rfl
  have HCA := Lib.hid (show ∀ W, Only g (g + 1) w W → Rd U W B A N lc from fun W hO => hc.only hO hB (by omega))
  go_enter Tryd.func28, Tryd.ntmps28
  go_wp2_with fail
  refine (l02Draw_any g N C B A lc _ hsA (HCA.out _ hOA) hl hB hN).mono ?_
  rintro e w2 ⟨f, A3, n3, c3, r, l, rfl, how2, htm, hs2, ho2⟩
  have hO2 := hOA.trans ho2
  have hr2 := hrA.only ho2 (.inr (by omega))
  have hz2 := ho2.size
  simp only [World.size_alloc] at hz2 how2
  have hOC := hO2.plus ((Below.refl w2.heap.size w2).alloc (Nat.le_refl _) (.cells (BC f A3 n3 c3 r) 26)) (by omega)
  have hsC := hs2.below ((Below.refl w2.heap.size w2).alloc (Nat.le_refl _) (.cells (BC f A3 n3 c3 r) 26)) hs2.lt
  have hrC := hr2.alloc (.cells (BC f A3 n3 c3 r) 26)
  have hbC : Blk (w2.alloc (.cells (BC f A3 n3 c3 r) 26)) w2.heap.size (BC f A3 n3 c3 r) 26 := Blk.new _ _ rfl
  have howC := how2.alloc (.cells (BC f A3 n3 c3 r) 26)
  have HTM := Lib.hid htm
  have hbd := mild_take (tame_mild htm) r l.length
  rw [List.take_length] at hbd
  clear hsA hOA hrA htm
  go_wp2_with fail
  refine (l02Starts_any _ _ _ _ _ _ _ _ howC.rd (by simp) (tame_mild HTM.out)).mono ?_
  rintro e w3 ⟨A5, n5, c5, rfl, _, _, hb3⟩
  obtain ⟨ep, hep⟩ : ∃ s, stop r (f + 1) l = s := ⟨_, rfl⟩
  rw [hep] at hbd ⊢
  obtain ⟨m0, m1⟩ := hbd
  have hz3 := hb3.size
  simp only [World.size_alloc] at hz3
  have hO3 := hOC.plus hb3 (by simp; omega)
  have hs3 := hsC.below hb3 hsC.lt
  have hr3 := hrC.below hb3 hrC.lt
  have hbb3 := hbC.below hb3 hbC.lt
  have how3 := howC.below hb3 (by simp)
  clear hep hOC hsC hrC hbC howC how2 hs2 hO2 hr2
  go_wp2_with fail
  refine (l01Next_any g N C B A lc _ _ hs3 (HCA.out _ hO3) hl hB hN (by omega)).mono ?_
  rintro e w4 ⟨v, rfl, hv0, hv1, _, hs4, ho4⟩
  have hO4 := hO3.trans ho4
  have hbr4 := hr3.only ho4 (.inr (by omega))
  have hbb4 := hbb3.only ho4 (.inr (by omega))
  have hz4 := ho4.size
  have how4 := (how3.only ho4 (.inr (by omega))).mono (show w.heap.size ≤ _ by omega) (show _ ≤ w4.heap.size by omega)
  have e1 : IntKind.i64.wrap (ep - 1) = ep - 1 := IntWalk.i64_in _ (by omega)
  clear hO3 hr3 hbb3 how3 hs3 hv1
  by_cases h0 : v = 0
  · subst h0
    have t0 := hbb4.cell 0 (v := .int .i64 f) rfl
    have t1 := hbb4.cell 1 (v := .slice A3 n3 c3) rfl
    have t2 := hbb4.cell 2 (v := .bool r) rfl
    have hl4 := hbb4.lt
    have hl4r := hbr4.lt
    have HN := Lib.hid hbb4
    go_wp2_with fail
    go_region_law ((go_simp; go_at_call 41; refine (pick_lit g N C B A lc [0, -1, ep - 1, ep] _ _ w4.drew rfl rfl hs4 (HCA.out w4 hO4) hl hB hN (by simp) (by simp)).mono ?_; rintro e w5 ⟨x, rfl, hx, hs5, ho5⟩; have hxb : -1 ≤ x ∧ x ≤ 1002002 := (by simp at hx; omega); clear hx; have hbb5 := (show Blk w4.drew w2.heap.size (BC f A3 n3 c3 r) 26 from hbb4).only ho5 (.inr (by omega)); have hbr5 := (show Blk w4.drew w.heap.size #[.int .i64 0, .slice none 0 0, .bool false] 26 from hbr4).only ho5 (.inr (by omega)); have t50 := hbb5.cell 0 (v := .int .i64 f) rfl; have t51 := hbb5.cell 1 (v := .slice A3 n3 c3) rfl; have t52 := hbb5.cell 2 (v := .bool r) rfl; have u0 := hbr5.cell 0 (v := .int .i64 0) rfl; have u1 := hbr5.cell 1 (v := .slice none 0 0) rfl; have u2 := hbr5.cell 2 (v := .bool false) rfl; have y0 := hbr5.free 0; have y1 := hbr5.free 1; have y2 := hbr5.free 2; have hz5 : w4.heap.size ≤ w5.heap.size := ho5.size; have hl5 := hbb5.lt))
    all_goals
      have how5 := ((show Own I w4.drew w.heap.size w4.heap.size 2 (.slice A3 n3 c3) l from how4).only ho5 (.inr (by omega))).mono (Nat.le_refl _) hz5
      have hO5 : Only g (g + 1) w w5 := hO4.drew.trans ho5
      have hfr := how5.far hbr5 neBI
      have s0 := hbr5.set 0 (.int .i64 f)
      have s1 := s0.set 1 (.slice A3 n3 c3)
      have d0 := s0.cell 0 (v := .int .i64 f) rfl
      have d1 := s1.cell 1 (v := .slice A3 n3 c3) rfl
      have d2 := (s1.set 2 (.bool r)).cell 2 (v := .bool r) rfl
      have HEND : Hid (DrBP w g A N C (.returned (.tuple #[BK f A3 n3 c3 r, .int .i64 (x)])) (((w5.setCell ⟨w.heap.size, 0, none⟩ (.int .i64 f)).setCell ⟨w.heap.size, 1, none⟩ (.slice A3 n3 c3)).setCell ⟨w.heap.size, 2, none⟩ (.bool r))) := by
        have z1 := how5.other ⟨w.heap.size, 0, none⟩ (.int .i64 f) hfr
        have z2 := z1.other ⟨w.heap.size, 1, none⟩ (.slice A3 n3 c3) hfr
        have z3 := z2.other ⟨w.heap.size, 2, none⟩ (.bool r) hfr
        exact DrBP.mk_ (z3.mono (Nat.le_refl _) (by simp)) (Nat.le_refl _) HTM.out hxb (((hs5.other ⟨w.heap.size, 0, none⟩ _ (by simp; omega)).other ⟨w.heap.size, 1, none⟩ _ (by simp; omega)).other ⟨w.heap.size, 2, none⟩ _ (by simp; omega)) (((hO5.new ⟨w.heap.size, 0, none⟩ _ (by simp)).new ⟨w.heap.size, 1, none⟩ _ (by simp)).new ⟨w.heap.size, 2, none⟩ _ (by simp))
      clear hbb5 hbr5 how5 hO5 hfr s0 s1 ho5 hs5
      go_wp2_with fail
      exact bodyPost_ret (v := .tuple #[BK f A3 n3 c3 r, .int .i64 (x)]) (by simp [results, Tryd.results28, go_sem, d0, d1, d2]) rfl HEND.out
  · have n0 : (v == 0) = false := by simpa using h0
    have t0 := hbb4.cell 0 (v := .int .i64 f) rfl
    have t1 := hbb4.cell 1 (v := .slice A3 n3 c3) rfl
    have t2 := hbb4.cell 2 (v := .bool r) rfl
    have hl4 := hbb4.lt
    have hl4r := hbr4.lt
    have HN := Lib.hid hbb4
    go_wp2_with fail
    go_region_law ((go_simp; go_at_call 36; refine (l01Next_any g N C B A lc _ w4.drew hs4 (HCA.out w4 hO4) hl hB hN (by omega)).mono ?_; rintro e w5 ⟨x, rfl, hx0, hx1, hx2, hs5, ho5⟩; have hxb : x ≤ 1002001 := (by rcases Int.lt_or_le 1 (ep - 1) with hh | hh; (· have := hx1 (by omega); omega); (· have := hx2 hh; omega)); have hsum : IntKind.i64.wrap (1 + x) = 1 + x := IntWalk.i64_in _ (by omega); clear hx1 hx2; have hbb5 := (show Blk w4.drew w2.heap.size (BC f A3 n3 c3 r) 26 from hbb4).only ho5 (.inr (by omega)); have hbr5 := (show Blk w4.drew w.heap.size #[.int .i64 0, .slice none 0 0, .bool false] 26 from hbr4).only ho5 (.inr (by omega)); have t50 := hbb5.cell 0 (v := .int .i64 f) rfl; have t51 := hbb5.cell 1 (v := .slice A3 n3 c3) rfl; have t52 := hbb5.cell 2 (v := .bool r) rfl; have u0 := hbr5.cell 0 (v := .int .i64 0) rfl; have u1 := hbr5.cell 1 (v := .slice none 0 0) rfl; have u2 := hbr5.cell 2 (v := .bool false) rfl; have y0 := hbr5.free 0; have y1 := hbr5.free 1; have y2 := hbr5.free 2; have hz5 : w4.heap.size ≤ w5.heap.size := ho5.size; have hl5 := hbb5.lt))
    all_goals
      have how5 := ((show Own I w4.drew w.heap.size w4.heap.size 2 (.slice A3 n3 c3) l from how4).only ho5 (.inr (by omega))).mono (Nat.le_refl _) hz5
      have hO5 : Only g (g + 1) w w5 := hO4.drew.trans ho5
      have hfr := how5.far hbr5 neBI
      have s0 := hbr5.set 0 (.int .i64 f)
      have s1 := s0.set 1 (.slice A3 n3 c3)
      have d0 := s0.cell 0 (v := .int .i64 f) rfl
      have d1 := s1.cell 1 (v := .slice A3 n3 c3) rfl
      have d2 := (s1.set 2 (.bool r)).cell 2 (v := .bool r) rfl
      have HEND : Hid (DrBP w g A N C (.returned (.tuple #[BK f A3 n3 c3 r, .int .i64 (1 + x)])) (((w5.setCell ⟨w.heap.size, 0, none⟩ (.int .i64 f)).setCell ⟨w.heap.size, 1, none⟩ (.slice A3 n3 c3)).setCell ⟨w.heap.size, 2, none⟩ (.bool r))) := by
        have z1 := how5.other ⟨w.heap.size, 0, none⟩ (.int .i64 f) hfr
        have z2 := z1.other ⟨w.heap.size, 1, none⟩ (.slice A3 n3 c3) hfr
        have z3 := z2.other ⟨w.heap.size, 2, none⟩ (.bool r) hfr
        exact DrBP.mk_ (z3.mono (Nat.le_refl _) (by simp)) (Nat.le_refl _) HTM.out (by omega) (((hs5.other ⟨w.heap.size, 0, none⟩ _ (by simp; omega)).other ⟨w.heap.size, 1, none⟩ _ (by simp; omega)).other ⟨w.heap.size, 2, none⟩ _ (by simp; omega)) (((hO5.new ⟨w.heap.size, 0, none⟩ _ (by simp)).new ⟨w.heap.size, 1, none⟩ _ (by simp)).new ⟨w.heap.size, 2, none⟩ _ (by simp))
      clear hbb5 hbr5 how5 hO5 hfr s0 s1 ho5 hs5
      go_wp2_with fail
      exact bodyPost_ret (v := .tuple #[BK f A3 n3 c3 r, .int .i64 (1 + x)]) (by simp [results, Tryd.results28, go_sem, d0, d1, d2]) rfl HEND.out
end Go.Proofs.YtoanopgafihjiaaDoor
