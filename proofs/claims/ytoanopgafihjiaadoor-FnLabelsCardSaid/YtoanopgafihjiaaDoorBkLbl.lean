/- Contracts of the draws of the law of labels. -/
import Derived.Test.YtoanopgafihjiaaDoorBkPage
namespace Go.Proofs.YtoanopgafihjiaaDoor
open Go.RowKit Pg

/-- A book is drawn anew; a book and a number are. -/
def BkW (w : World) (e : Ending) (w' : World) : Prop := ∃ f A' n' c' r l', e = .returned (BK f A' n' c' r) ∧ Own I w' w.heap.size w'.heap.size 2 (.slice A' n' c') l' ∧ tame f l' ∧ Below w.heap.size w w'
theorem BkW.mk_ {w w' : World} {n' c' : Nat} {A' : Option Addr} {f : Int} {r : Bool} {l' : List Int} (h1 : Own I w' w.heap.size w'.heap.size 2 (.slice A' n' c') l') (h3 : tame f l') (h5 : Below w.heap.size w w') : BkW w (.returned (BK f A' n' c' r)) w' := ⟨_, _, _, _, _, _, rfl, h1, h3, h5⟩
def BkPW (w : World) (e : Ending) (w' : World) : Prop := ∃ f A' n' c' r l' p, e = .returned (.tuple #[BK f A' n' c' r, .int .i64 p]) ∧ Own I w' w.heap.size w'.heap.size 2 (.slice A' n' c') l' ∧ tame f l' ∧ (-1 ≤ p ∧ p ≤ 1002002) ∧ Below w.heap.size w w'
theorem BkPW.mk_ {w w' : World} {n' c' : Nat} {A' : Option Addr} {f p : Int} {r : Bool} {l' : List Int} (h1 : Own I w' w.heap.size w'.heap.size 2 (.slice A' n' c') l') (h3 : tame f l') (hp : -1 ≤ p ∧ p ≤ 1002002) (h5 : Below w.heap.size w w') : BkPW w (.returned (.tuple #[BK f A' n' c' r, .int .i64 p])) w' := ⟨_, _, _, _, _, _, _, rfl, h1, h3, hp, h5⟩

set_option maxRecDepth 100000 in
set_option maxHeartbeats 4000000 in
theorem DrawLbl_any (N C B : Nat) (A : Option Addr) (lc : List Int) (w : World) (hc : Rd U w B A N lc) (hl : inByte lc) (hB : B ≤ w.heap.size) (hN : N ≤ 1048576) :
    Calls Tryd.prog 10 #[.slice A N C] w fun e w' => BkPW w e w' := by
  have hrA : Blk (w.alloc (.cells #[.int .i64 0, .slice none 0 0, .bool false] 26)) w.heap.size #[.int .i64 0, .slice none 0 0, .bool false] 26 := Blk.new _ _ rfl
  have hb0 : Below w.heap.size w (w.alloc (.cells #[.int .i64 0, .slice none 0 0, .bool false] 26)) := (Below.refl w.heap.size w).alloc (Nat.le_refl _) _
  go_enter Tryd.func10, Tryd.ntmps10
  go_wp2_with fail
  refine (l01From_ex N C B A lc _ (hc.below hb0 hB) hl (by simp; omega)).mono ?_
  rintro e w1 ⟨g, rfl, hg, hs1, hb1⟩
  have hr1 := hrA.below hb1 hrA.lt
  have hB1 := hb0.trans (hb1.mono (by simp))
  have hz1 := hb1.size
  simp only [World.size_alloc] at hg hz1
  go_wp2_with fail
  refine (l02DrawPage_any g N C B A lc _ hs1 (hc.below hB1 hB) hl (by omega) hN).mono ?_
  rintro e w2 ⟨f, A3, n3, c3, r, l, p, rfl, how2, htm, hp, hs2, ho2⟩
  have hbr := hr1.only ho2 (.inl (by omega))
  have hB2 := hB1.trans (ho2.below (B := w.heap.size) (by omega) (by omega))
  have u0 := hbr.cell 0 (v := .int .i64 0) rfl
  have u1 := hbr.cell 1 (v := .slice none 0 0) rfl
  have u2 := hbr.cell 2 (v := .bool false) rfl
  have y0 := hbr.free 0
  have y1 := hbr.free 1
  have y2 := hbr.free 2
  have s0 := hbr.set 0 (.int .i64 f)
  have s1 := s0.set 1 (.slice A3 n3 c3)
  have d0 := s0.cell 0 (v := .int .i64 f) rfl
  have d1 := s1.cell 1 (v := .slice A3 n3 c3) rfl
  have d2 := (s1.set 2 (.bool r)).cell 2 (v := .bool r) rfl
  have hfr := how2.far hbr neBI
  have HEND : Hid (BkPW w (.returned (.tuple #[BK f A3 n3 c3 r, .int .i64 p])) (((w2.setCell ⟨w.heap.size, 0, none⟩ (.int .i64 f)).setCell ⟨w.heap.size, 1, none⟩ (.slice A3 n3 c3)).setCell ⟨w.heap.size, 2, none⟩ (.bool r))) := by
    have z1 := how2.other ⟨w.heap.size, 0, none⟩ (.int .i64 f) hfr
    have z2 := z1.other ⟨w.heap.size, 1, none⟩ (.slice A3 n3 c3) hfr
    have z3 := z2.other ⟨w.heap.size, 2, none⟩ (.bool r) hfr
    exact BkPW.mk_ (z3.mono (show w.heap.size ≤ _ by omega) (by simp)) htm hp (((hB2.setCell (by simp) _).setCell (by simp) _).setCell (by simp) _)
  clear hbr s0 s1 hfr how2
  go_wp2_with fail
  exact bodyPost_ret (v := .tuple #[BK f A3 n3 c3 r, .int .i64 p]) (by simp [results, Tryd.results10, go_sem, d0, d1, d2]) rfl HEND.out
end Go.Proofs.YtoanopgafihjiaaDoor
