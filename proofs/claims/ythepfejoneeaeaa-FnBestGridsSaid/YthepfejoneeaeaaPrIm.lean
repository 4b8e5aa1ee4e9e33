/- Contracts of the tests and of the lengths of rows of chapter 8, the program's and the model's. -/
import Derived.Test.YthepfejoneeaeaaPrArg
import Derived.Test.YthepfejoneeaeaaIn
import Derived.Deep.RegionHeld3
namespace Go.Proofs.Ythepfejoneeaeaa
open Go.RowKit

/-- The boxes of a press sheet and of a trim: four cells. -/
abbrev PBx (w : World) (k : Nat) (a b g : Int) (r : Bool) : Prop := Blk w k #[.int .i64 a, .int .i64 b, .int .i64 g, .bool r] 25
abbrev TBx (w : World) (k : Nat) (c d e f : Int) : Prop := Blk w k #[.int .i64 c, .int .i64 d, .int .i64 e, .int .i64 f] 27
theorem below_new (w : World) (o : Obj) : Below w.heap.size w (w.alloc o) := (Below.refl _ _).alloc (Nat.le_refl _) _

theorem below_of_new {w V : World} {o : Obj} (h : Below (w.alloc o).drew.heap.size (w.alloc o).drew V) : Below w.heap.size w V :=
  (below_drewN' (below_new w o) 1).trans (h.mono (show w.heap.size ≤ (w.alloc o).heap.size by simp))

theorem side_any (x : Int) (B : Bool) (w : World) (h : decide (Pr.sideP x) = B) :
    Calls Try.prog 46 #[.int .i64 x] w fun e w' => e = .returned (.bool B) ∧ w = w' := by
  have H := Lib.hid h
  clear h
  by_cases h1 : 1 ≤ x
  · go_enter Try.func46, Try.ntmps46
    go_wp2
    go_ret
    exact ⟨ret_b (by rw [← H.out]; simp [Pr.sideP, h1]), rfl⟩
  · have h1' : x < 1 := by omega
    go_enter Try.func46, Try.ntmps46
    go_wp2
    go_ret
    exact ⟨ret_b (by rw [← H.out]; exact (decide_eq_false (by unfold Pr.sideP; omega)).symm), rfl⟩
theorem marg_any (x : Int) (B : Bool) (w : World) (h : decide (Pr.margP x) = B) :
    Calls Try.prog 47 #[.int .i64 x] w fun e w' => e = .returned (.bool B) ∧ w = w' := by
  have H := Lib.hid h
  clear h
  by_cases h1 : 0 ≤ x
  · go_enter Try.func47, Try.ntmps47
    go_wp2
    go_ret
    exact ⟨ret_b (by rw [← H.out]; simp [Pr.margP, h1]), rfl⟩
  · have h1' : x < 0 := by omega
    go_enter Try.func47, Try.ntmps47
    go_wp2
    go_ret
    exact ⟨ret_b (by rw [← H.out]; exact (decide_eq_false (by unfold Pr.margP; omega)).symm), rfl⟩

theorem sideT {x : Int} (h1 : 1 ≤ x) (h2 : x ≤ 20000) : decide (Pr.sideP x) = true := decide_eq_true ⟨h1, h2⟩
theorem sideF {x : Int} (h : x < 1 ∨ 20000 < x) : decide (Pr.sideP x) = false := decide_eq_false (by unfold Pr.sideP; omega)
theorem margT {x : Int} (h1 : 0 ≤ x) (h2 : x ≤ 20000) : decide (Pr.margP x) = true := decide_eq_true ⟨h1, h2⟩
theorem margF {x : Int} (h : x < 0 ∨ 20000 < x) : decide (Pr.margP x) = false := decide_eq_false (by unfold Pr.margP; omega)

set_option maxHeartbeats 1000000 in
theorem implPr_any (a b g : Int) (r : Bool) (B : Bool) (w : World) (h : Pr.shB a b g = B) :
    Calls Try.prog 22 #[PV a b g r] w fun e w' => e = .returned (.bool B) ∧ Below w.heap.size w w' := by
  have HB := Lib.hid (below_new w (.cells #[.int .i64 a, .int .i64 b, .int .i64 g, .bool r] 25))
  cases B
  · rcases Pr.sh_cases h with h1 | ⟨⟨h1, h2⟩, h3⟩ | ⟨⟨h1, h2⟩, ⟨h3, h4⟩, h5⟩
    · have H1 := Lib.hid (sideF h1)
      clear h h1
      go_enter Try.func22, Try.ntmps22
      go_wp2_with fail
      refine (side_any a false _ H1.out).mono ?_
      rintro e _ ⟨rfl, rfl⟩
      go_wp2_with fail
      go_ret
      exact ⟨rfl, HB.out⟩
    · have H1 := Lib.hid (sideT h1 h2)
      have H2 := Lib.hid (sideF h3)
      clear h h1 h2 h3
      go_enter Try.func22, Try.ntmps22
      go_wp2_with fail
      refine (side_any a true _ H1.out).mono ?_
      rintro e _ ⟨rfl, rfl⟩
      go_wp2_with fail
      refine (side_any b false _ H2.out).mono ?_
      rintro e _ ⟨rfl, rfl⟩
      go_wp2_with fail
      go_ret
      exact ⟨rfl, HB.out⟩
    · have H1 := Lib.hid (sideT h1 h2)
      have H2 := Lib.hid (sideT h3 h4)
      by_cases g0 : g < 0
      · clear h h1 h2 h3 h4 h5
        go_enter Try.func22, Try.ntmps22
        go_wp2_with fail
        refine (side_any a true _ H1.out).mono ?_
        rintro e _ ⟨rfl, rfl⟩
        go_wp2_with fail
        refine (side_any b true _ H2.out).mono ?_
        rintro e _ ⟨rfl, rfl⟩
        go_wp2_with fail
        go_ret
        exact ⟨rfl, HB.out⟩
      · have g1 : 0 ≤ g := by omega
        have g2 : b ≤ g := by omega
        clear h h1 h2 h3 h4 h5 g0
        go_enter Try.func22, Try.ntmps22
        go_wp2_with fail
        refine (side_any a true _ H1.out).mono ?_
        rintro e _ ⟨rfl, rfl⟩
        go_wp2_with fail
        refine (side_any b true _ H2.out).mono ?_
        rintro e _ ⟨rfl, rfl⟩
        go_wp2_with fail
        go_ret
        exact ⟨ret_b (decide_eq_false (by omega)), HB.out⟩
  · obtain ⟨⟨h1, h2⟩, ⟨h3, h4⟩, g1, g2⟩ := Pr.sh_out h
    have H1 := Lib.hid (sideT h1 h2)
    have H2 := Lib.hid (sideT h3 h4)
    clear h h1 h2 h3 h4
    go_enter Try.func22, Try.ntmps22
    go_wp2_with fail
    refine (side_any a true _ H1.out).mono ?_
    rintro e _ ⟨rfl, rfl⟩
    go_wp2_with fail
    refine (side_any b true _ H2.out).mono ?_
    rintro e _ ⟨rfl, rfl⟩
    go_wp2_with fail
    go_ret
    exact ⟨rfl, HB.out⟩

set_option maxHeartbeats 1000000 in
theorem specPr_any (a b g : Int) (r : Bool) (B : Bool) (w : World) (h : Pr.shB a b g = B) :
    Calls Try.prog 23 #[PV a b g r] w fun e w' => e = .returned (.bool B) ∧ Below w.heap.size w w' := by
  have HB := Lib.hid (below_new w (.cells #[.int .i64 a, .int .i64 b, .int .i64 g, .bool r] 25))
  cases B
  · rcases Pr.sh_cases h with h1 | ⟨⟨h1, h2⟩, h3⟩ | ⟨⟨h1, h2⟩, ⟨h3, h4⟩, h5⟩
    · have H1 := Lib.hid h1
      clear h h1
      go_enter Try.func23, Try.ntmps23
      go_wp2_with fail
      refine (l01In_no _ _ _ _ H1.out).mono ?_
      rintro e _ ⟨rfl, rfl⟩
      go_wp2_with fail
      go_ret
      exact ⟨rfl, HB.out⟩
    · have H3 := Lib.hid h3
      clear h h3
      go_enter Try.func23, Try.ntmps23
      go_wp2_with fail
      refine (l01In_yes _ _ _ _ h1 h2).mono ?_
      rintro e _ ⟨rfl, rfl⟩
      go_wp2_with fail
      refine (l01In_no _ _ _ _ H3.out).mono ?_
      rintro e _ ⟨rfl, rfl⟩
      go_wp2_with fail
      go_ret
      exact ⟨rfl, HB.out⟩
    · have H5 := Lib.hid h5
      have e1 : IntKind.i64.wrap (b - 1) = b - 1 := IntWalk.i64_in _ (by omega)
      clear h h5
      go_enter Try.func23, Try.ntmps23
      go_wp2_with fail
      refine (l01In_yes _ _ _ _ h1 h2).mono ?_
      rintro e _ ⟨rfl, rfl⟩
      go_wp2_with fail
      refine (l01In_yes _ _ _ _ h3 h4).mono ?_
      rintro e _ ⟨rfl, rfl⟩
      go_wp2_with fail
      refine (l01In_no _ _ _ _ H5.out).mono ?_
      rintro e _ ⟨rfl, rfl⟩
      go_wp2_with fail
      go_ret
      exact ⟨rfl, HB.out⟩
  · obtain ⟨⟨h1, h2⟩, ⟨h3, h4⟩, g1, g2⟩ := Pr.sh_out h
    have e1 : IntKind.i64.wrap (b - 1) = b - 1 := IntWalk.i64_in _ (by omega)
    have g3 : g ≤ b - 1 := by omega
    clear h
    go_enter Try.func23, Try.ntmps23
    go_wp2_with fail
    refine (l01In_yes _ _ _ _ h1 h2).mono ?_
    rintro e _ ⟨rfl, rfl⟩
    go_wp2_with fail
    refine (l01In_yes _ _ _ _ h3 h4).mono ?_
    rintro e _ ⟨rfl, rfl⟩
    go_wp2_with fail
    refine (l01In_yes _ _ _ _ g1 g3).mono ?_
    rintro e _ ⟨rfl, rfl⟩
    go_wp2_with fail
    go_ret
    exact ⟨rfl, HB.out⟩
-- MORE

set_option maxHeartbeats 1000000 in
theorem implTm_any (c d e f : Int) (B : Bool) (w : World) (h : Pr.tmB c d e f = B) :
    Calls Try.prog 24 #[TV c d e f] w fun e' w' => e' = .returned (.bool B) ∧ Below w.heap.size w w' := by
  have HB := Lib.hid (below_new w (.cells #[.int .i64 c, .int .i64 d, .int .i64 e, .int .i64 f] 27))
  cases B
  · rcases Pr.tm_cases h with h0 | ⟨⟨a1, a2⟩, h0⟩ | ⟨⟨a1, a2⟩, ⟨b1, b2⟩, h0⟩ | ⟨⟨a1, a2⟩, ⟨b1, b2⟩, ⟨c1, c2⟩, h0⟩
    · have H0 := Lib.hid (sideF h0)
      clear h h0
      go_enter Try.func24, Try.ntmps24
      go_wp2_with fail
      refine (side_any c false _ H0.out).mono ?_
      rintro e' _ ⟨rfl, rfl⟩
      go_wp2_with fail
      go_ret
      exact ⟨rfl, HB.out⟩
    · have H0 := Lib.hid (sideT a1 a2)
      have H1 := Lib.hid (sideF h0)
      clear h h0 a1 a2
      go_enter Try.func24, Try.ntmps24
      go_wp2_with fail
      refine (side_any c true _ H0.out).mono ?_
      rintro e' _ ⟨rfl, rfl⟩
      go_wp2_with fail
      refine (side_any d false _ H1.out).mono ?_
      rintro e' _ ⟨rfl, rfl⟩
      go_wp2_with fail
      go_ret
      exact ⟨rfl, HB.out⟩
    · have H0 := Lib.hid (sideT a1 a2)
      have H1 := Lib.hid (sideT b1 b2)
      have H2 := Lib.hid (margF h0)
      clear h h0 a1 a2 b1 b2
      go_enter Try.func24, Try.ntmps24
      go_wp2_with fail
      refine (side_any c true _ H0.out).mono ?_
      rintro e' _ ⟨rfl, rfl⟩
      go_wp2_with fail
      refine (side_any d true _ H1.out).mono ?_
      rintro e' _ ⟨rfl, rfl⟩
      go_wp2_with fail
      refine (marg_any e false _ H2.out).mono ?_
      rintro e' _ ⟨rfl, rfl⟩
      go_wp2_with fail
      go_ret
      exact ⟨rfl, HB.out⟩
    · have H0 := Lib.hid (sideT a1 a2)
      have H1 := Lib.hid (sideT b1 b2)
      have H2 := Lib.hid (margT c1 c2)
      have H3 := Lib.hid (margF h0)
      clear h h0 a1 a2 b1 b2 c1 c2
      go_enter Try.func24, Try.ntmps24
      go_wp2_with fail
      refine (side_any c true _ H0.out).mono ?_
      rintro e' _ ⟨rfl, rfl⟩
      go_wp2_with fail
      refine (side_any d true _ H1.out).mono ?_
      rintro e' _ ⟨rfl, rfl⟩
      go_wp2_with fail
      refine (marg_any e true _ H2.out).mono ?_
      rintro e' _ ⟨rfl, rfl⟩
      go_wp2_with fail
      refine (marg_any f false _ H3.out).mono ?_
      rintro e' _ ⟨rfl, rfl⟩
      go_wp2_with fail
      go_ret
      exact ⟨rfl, HB.out⟩
  · obtain ⟨⟨a1, a2⟩, ⟨b1, b2⟩, ⟨c1, c2⟩, d1, d2⟩ := Pr.tm_out h
    have H0 := Lib.hid (sideT a1 a2)
    have H1 := Lib.hid (sideT b1 b2)
    have H2 := Lib.hid (margT c1 c2)
    have H3 := Lib.hid (margT d1 d2)
    clear h a1 a2 b1 b2 c1 c2 d1 d2
    go_enter Try.func24, Try.ntmps24
    go_wp2_with fail
    refine (side_any c true _ H0.out).mono ?_
    rintro e' _ ⟨rfl, rfl⟩
    go_wp2_with fail
    refine (side_any d true _ H1.out).mono ?_
    rintro e' _ ⟨rfl, rfl⟩
    go_wp2_with fail
    refine (marg_any e true _ H2.out).mono ?_
    rintro e' _ ⟨rfl, rfl⟩
    go_wp2_with fail
    refine (marg_any f true _ H3.out).mono ?_
    rintro e' _ ⟨rfl, rfl⟩
    go_wp2_with fail
    go_ret
    exact ⟨rfl, HB.out⟩

set_option maxHeartbeats 1000000 in
theorem specTm_any (c d e f : Int) (B : Bool) (w : World) (h : Pr.tmB c d e f = B) :
    Calls Try.prog 25 #[TV c d e f] w fun e' w' => e' = .returned (.bool B) ∧ Below w.heap.size w w' := by
  have HB := Lib.hid (below_new w (.cells #[.int .i64 c, .int .i64 d, .int .i64 e, .int .i64 f] 27))
  cases B
  · rcases Pr.tm_cases h with h0 | ⟨⟨a1, a2⟩, h0⟩ | ⟨⟨a1, a2⟩, ⟨b1, b2⟩, h0⟩ | ⟨⟨a1, a2⟩, ⟨b1, b2⟩, ⟨c1, c2⟩, h0⟩
    · have H0 := Lib.hid h0
      clear h h0
      go_enter Try.func25, Try.ntmps25
      go_wp2_with fail
      refine (l01In_no _ _ _ _ H0.out).mono ?_
      rintro e' _ ⟨rfl, rfl⟩
      go_wp2_with fail
      go_ret
      exact ⟨rfl, HB.out⟩
    · have H1 := Lib.hid h0
      clear h h0
      go_enter Try.func25, Try.ntmps25
      go_wp2_with fail
      refine (l01In_yes _ _ _ _ a1 a2).mono ?_
      rintro e' _ ⟨rfl, rfl⟩
      go_wp2_with fail
      refine (l01In_no _ _ _ _ H1.out).mono ?_
      rintro e' _ ⟨rfl, rfl⟩
      go_wp2_with fail
      go_ret
      exact ⟨rfl, HB.out⟩
    · have H2 := Lib.hid h0
      clear h h0
      go_enter Try.func25, Try.ntmps25
      go_wp2_with fail
      refine (l01In_yes _ _ _ _ a1 a2).mono ?_
      rintro e' _ ⟨rfl, rfl⟩
      go_wp2_with fail
      refine (l01In_yes _ _ _ _ b1 b2).mono ?_
      rintro e' _ ⟨rfl, rfl⟩
      go_wp2_with fail
      refine (l01In_no _ _ _ _ H2.out).mono ?_
      rintro e' _ ⟨rfl, rfl⟩
      go_wp2_with fail
      go_ret
      exact ⟨rfl, HB.out⟩
    · have H3 := Lib.hid h0
      clear h h0
      go_enter Try.func25, Try.ntmps25
      go_wp2_with fail
      refine (l01In_yes _ _ _ _ a1 a2).mono ?_
      rintro e' _ ⟨rfl, rfl⟩
      go_wp2_with fail
      refine (l01In_yes _ _ _ _ b1 b2).mono ?_
      rintro e' _ ⟨rfl, rfl⟩
      go_wp2_with fail
      refine (l01In_yes _ _ _ _ c1 c2).mono ?_
      rintro e' _ ⟨rfl, rfl⟩
      go_wp2_with fail
      refine (l01In_no _ _ _ _ H3.out).mono ?_
      rintro e' _ ⟨rfl, rfl⟩
      go_wp2_with fail
      go_ret
      exact ⟨rfl, HB.out⟩
  · obtain ⟨⟨a1, a2⟩, ⟨b1, b2⟩, ⟨c1, c2⟩, d1, d2⟩ := Pr.tm_out h
    clear h
    go_enter Try.func25, Try.ntmps25
    go_wp2_with fail
    refine (l01In_yes _ _ _ _ a1 a2).mono ?_
    rintro e' _ ⟨rfl, rfl⟩
    go_wp2_with fail
    refine (l01In_yes _ _ _ _ b1 b2).mono ?_
    rintro e' _ ⟨rfl, rfl⟩
    go_wp2_with fail
    refine (l01In_yes _ _ _ _ c1 c2).mono ?_
    rintro e' _ ⟨rfl, rfl⟩
    go_wp2_with fail
    refine (l01In_yes _ _ _ _ d1 d2).mono ?_
    rintro e' _ ⟨rfl, rfl⟩
    go_wp2_with fail
    go_ret
    exact ⟨rfl, HB.out⟩

theorem start_any (c d e f n s x : Int) (w : World) (he : 0 ≤ e ∧ e ≤ 20000) (hf : 0 ≤ f ∧ f ≤ 20000) (hs : 1 ≤ s ∧ s ≤ 20000) (hx : n * (s + f) = x) (hb : 0 ≤ x ∧ x ≤ 800000000) :
    Calls Try.prog 44 #[TV c d e f, .int .i64 n, .int .i64 s] w fun e' w' => e' = .returned (.int .i64 (e + x)) ∧ Below w.heap.size w w' := by
  have HB := Lib.hid (below_new w (.cells #[.int .i64 c, .int .i64 d, .int .i64 e, .int .i64 f] 27))
  have e1 : IntKind.i64.wrap (s + f) = s + f := IntWalk.i64_in _ (by omega)
  have e2 : IntKind.i64.wrap (n * (s + f)) = x := by rw [hx]; exact IntWalk.i64_in _ (by omega)
  have e3 : IntKind.i64.wrap (e + x) = e + x := IntWalk.i64_in _ (by omega)
  clear hx
  go_enter Try.func44, Try.ntmps44
  go_wp2
  go_ret
  exact ⟨rfl, HB.out⟩

set_option maxHeartbeats 1000000 in
theorem needed_any (c d e f n s x : Int) (w : World) (he : 0 ≤ e ∧ e ≤ 20000) (hf : 0 ≤ f ∧ f ≤ 20000) (hs : 1 ≤ s ∧ s ≤ 20000) (hx : n * (s + f) = x) (hb : 0 ≤ x ∧ x ≤ 800000000) :
    Calls Try.prog 54 #[TV c d e f, .int .i64 n, .int .i64 s] w fun e' w' => e' = .returned (.int .i64 (e + x - f + e)) ∧ Below w.heap.size w w' := by
  have HX := Lib.hid hx
  have e1 : IntKind.i64.wrap (e + x - f) = e + x - f := IntWalk.i64_in _ (by omega)
  have e2 : IntKind.i64.wrap (e + x - f + e) = e + x - f + e := IntWalk.i64_in _ (by omega)
  clear hx
  have HC := fun (V : World) => start_any c d e f n s x V he hf hs HX.out hb
  go_enter Try.func54, Try.ntmps54
  go_wp2_with fail
  go_region_held3 (fun V => V.cell? ⟨w.heap.size, 0, none⟩ = some (.int .i64 c) ∧ V.cell? ⟨w.heap.size, 1, none⟩ = some (.int .i64 d) ∧ V.cell? ⟨w.heap.size, 2, none⟩ = some (.int .i64 e) ∧ V.cell? ⟨w.heap.size, 3, none⟩ = some (.int .i64 f))
    (first | go_keep | (refine ⟨?_, ?_, ?_, ?_⟩ <;> (first | go_keep | (rw [hbk.cell (by first | omega | (simp; omega) | simp)]; first | assumption | go_keep))))
    (first
      | (go_at_call 44; with_reducible refine (HC _).mono ?_; rintro e' w1 ⟨rfl, hbk⟩))
  go_wp2_with fail
  go_ret
  exact ⟨rfl, below_of_new hbk⟩
end Go.Proofs.Ythepfejoneeaeaa
