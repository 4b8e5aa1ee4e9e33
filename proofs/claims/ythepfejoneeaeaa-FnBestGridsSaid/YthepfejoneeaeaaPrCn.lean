/- Contracts of chapter 8: a trim turned, the program's and the model's; the counts of the upright and of the turned grid. -/
import Derived.Test.YthepfejoneeaeaaPrCt
namespace Go.Proofs.Ythepfejoneeaeaa
open Go.RowKit

/-- A grid as a value: a press sheet and a trim. -/
abbrev GV (a b g : Int) (r : Bool) (c d e f : Int) : Value := .agg #[.int .i64 a, .int .i64 b, .int .i64 g, .bool r, .int .i64 c, .int .i64 d, .int .i64 e, .int .i64 f]

set_option maxHeartbeats 1000000 in
theorem turned_any (c d e f : Int) (w : World) :
    Calls Try.prog 51 #[TV c d e f] w fun e' w' => e' = .returned (TV d c e f) ∧ Below w.heap.size w w' := by
  go_enter Try.func51, Try.ntmps51
  go_wp2
  exact bodyPost_ret (v := TV d c e f) (by simp [results, Try.results51, go_sem]) rfl ⟨rfl, ((below_new w _).alloc (by simp) _)⟩
set_option maxHeartbeats 1000000 in
theorem specTurn_any (c d e f : Int) (w : World) :
    Calls Try.prog 50 #[TV c d e f] w fun e' w' => e' = .returned (TV d c e f) ∧ Below w.heap.size w w' := by
  go_enter Try.func50, Try.ntmps50
  go_wp2
  exact bodyPost_ret (v := TV d c e f) (by simp [results, Try.results50, go_sem]) rfl ⟨rfl, ((below_new w _).alloc (by simp) _)⟩

set_option maxHeartbeats 2000000 in
theorem counts_any (a b g c d e f x y : Int) (r : Bool) (w : World) (hp : Pr.shB a b g = true) (ht : Pr.tmB c d e f = true) (hx : Pr.cnR a b g c d e f = x) (hy : Pr.cnS a b g c d e f = y) :
    Calls Try.prog 40 #[GV a b g r c d e f] w fun e' w' => e' = .returned (.tuple #[.int .i64 x, .int .i64 y]) ∧ Below w.heap.size w w' := by
  obtain ⟨a1, b1, g1, g2⟩ := Pr.sh_out hp
  obtain ⟨c1, d1, e1, f1⟩ := Pr.tm_out ht
  obtain ⟨X, hX⟩ : ∃ X, Pr.ct a c e f = X := ⟨_, rfl⟩
  obtain ⟨Y, hY⟩ : ∃ Y, Pr.ct (b - g) d e f = Y := ⟨_, rfl⟩
  unfold Pr.cnR at hx
  unfold Pr.cnS at hy
  rw [hX, hY] at hx hy
  have k1 : IntKind.i64.wrap (b - g) = b - g := IntWalk.i64_in _ (by omega)
  have HC1 := fun (V : World) => fitting_any c d e f a c X V (by omega) e1 f1 c1 hX
  have HC2 := fun (V : World) => fitting_any c d e f (b - g) d Y V (by omega) e1 f1 d1 hY
  have hn := Blk.new (w := w) (g := w.heap.size) #[.int .i64 a, .int .i64 b, .int .i64 g, .bool r, .int .i64 c, .int .i64 d, .int .i64 e, .int .i64 f] 65 rfl
  have hbw := below_new w (.cells #[.int .i64 a, .int .i64 b, .int .i64 g, .bool r, .int .i64 c, .int .i64 d, .int .i64 e, .int .i64 f] 65)
  have HN := Lib.hid hn
  have HBW := Lib.hid hbw
  clear hX hY hp ht hn hbw
  by_cases h1 : X = 0
  · have HX : Hid (x = 0) := Lib.hid (by rw [← hx]; simp [h1])
    have HY : Hid (y = 0) := Lib.hid (by rw [← hy]; simp [h1])
    rw [HX.out, HY.out]
    clear hx hy
    subst h1
    go_enter Try.func40, Try.ntmps40
    go_wp2_with fail
    refine (HC1 _).mono ?_
    rintro e' w1 ⟨rfl, hb1⟩
    have B1 := HN.out.below hb1 (by simp)
    have hz1 : w.heap.size + 1 ≤ w1.heap.size := by have := hb1.size; simpa using this
    have k10 := B1.cell 0 rfl
    have k11 := B1.cell 1 rfl
    have k12 := B1.cell 2 rfl
    have k13 := B1.cell 3 rfl
    have k14 := B1.cell 4 rfl
    have k15 := B1.cell 5 rfl
    have k16 := B1.cell 6 rfl
    have k17 := B1.cell 7 rfl
    go_wp2_with fail
    refine (HC2 _).mono ?_
    rintro e' w2 ⟨rfl, hb2⟩
    clear k10 k11 k12 k13 k14 k15 k16 k17
    go_wp2_with fail
    go_ret2
    exact ⟨rfl, HBW.out.trans ((hb1.mono (by simp)).trans (hb2.mono (by omega)))⟩
  by_cases h2 : Y = 0
  · have HX : Hid (x = 0) := Lib.hid (by rw [← hx]; simp [h2])
    have HY : Hid (y = 0) := Lib.hid (by rw [← hy]; simp [h2])
    rw [HX.out, HY.out]
    clear hx hy
    have h1' : (X == 0) = false := by simpa using h1
    subst h2
    go_enter Try.func40, Try.ntmps40
    go_wp2_with fail
    refine (HC1 _).mono ?_
    rintro e' w1 ⟨rfl, hb1⟩
    have B1 := HN.out.below hb1 (by simp)
    have hz1 : w.heap.size + 1 ≤ w1.heap.size := by have := hb1.size; simpa using this
    have k10 := B1.cell 0 rfl
    have k11 := B1.cell 1 rfl
    have k12 := B1.cell 2 rfl
    have k13 := B1.cell 3 rfl
    have k14 := B1.cell 4 rfl
    have k15 := B1.cell 5 rfl
    have k16 := B1.cell 6 rfl
    have k17 := B1.cell 7 rfl
    go_wp2_with fail
    refine (HC2 _).mono ?_
    rintro e' w2 ⟨rfl, hb2⟩
    clear k10 k11 k12 k13 k14 k15 k16 k17
    go_wp2_with fail
    go_ret2
    exact ⟨rfl, HBW.out.trans ((hb1.mono (by simp)).trans (hb2.mono (by omega)))⟩
  · have HX : Hid (x = X) := Lib.hid (by rw [← hx]; simp [h1, h2])
    have HY : Hid (y = Y) := Lib.hid (by rw [← hy]; simp [h1, h2])
    rw [HX.out, HY.out]
    clear hx hy
    have h1' : (X == 0) = false := by simpa using h1
    have h2' : (Y == 0) = false := by simpa using h2
    go_enter Try.func40, Try.ntmps40
    go_wp2_with fail
    refine (HC1 _).mono ?_
    rintro e' w1 ⟨rfl, hb1⟩
    have B1 := HN.out.below hb1 (by simp)
    have hz1 : w.heap.size + 1 ≤ w1.heap.size := by have := hb1.size; simpa using this
    have k10 := B1.cell 0 rfl
    have k11 := B1.cell 1 rfl
    have k12 := B1.cell 2 rfl
    have k13 := B1.cell 3 rfl
    have k14 := B1.cell 4 rfl
    have k15 := B1.cell 5 rfl
    have k16 := B1.cell 6 rfl
    have k17 := B1.cell 7 rfl
    go_wp2_with fail
    refine (HC2 _).mono ?_
    rintro e' w2 ⟨rfl, hb2⟩
    clear k10 k11 k12 k13 k14 k15 k16 k17
    go_wp2_with fail
    go_ret2
    exact ⟨rfl, HBW.out.trans ((hb1.mono (by simp)).trans (hb2.mono (by omega)))⟩

set_option maxHeartbeats 2000000 in
theorem countsT_any (a b g c d e f x y : Int) (r : Bool) (w : World) (hp : Pr.shB a b g = true) (ht : Pr.tmB c d e f = true) (hx : Pr.cnR a b g d c e f = x) (hy : Pr.cnS a b g d c e f = y) :
    Calls Try.prog 72 #[GV a b g r c d e f] w fun e' w' => e' = .returned (.tuple #[.int .i64 x, .int .i64 y]) ∧ Below w.heap.size w w' := by
  have HC1 := fun (V : World) => turned_any c d e f V
  have HC2 := fun (V : World) => counts_any a b g d c e f x y r V hp (by rw [Pr.tm_turn]; exact ht) hx hy
  clear hx hy hp ht
  go_enter Try.func72, Try.ntmps72
  go_wp2_with fail
  go_region_held3 (fun V => V.cell? ⟨w.heap.size, 0, none⟩ = some (.int .i64 a) ∧ V.cell? ⟨w.heap.size, 1, none⟩ = some (.int .i64 b) ∧ V.cell? ⟨w.heap.size, 2, none⟩ = some (.int .i64 g) ∧ V.cell? ⟨w.heap.size, 3, none⟩ = some (.bool r) ∧ V.cell? ⟨w.heap.size, 4, none⟩ = some (.int .i64 c) ∧ V.cell? ⟨w.heap.size, 5, none⟩ = some (.int .i64 d) ∧ V.cell? ⟨w.heap.size, 6, none⟩ = some (.int .i64 e) ∧ V.cell? ⟨w.heap.size, 7, none⟩ = some (.int .i64 f))
    (first | go_keep | (refine ⟨?_, ?_, ?_, ?_, ?_, ?_, ?_, ?_⟩ <;> (first | go_keep | (rw [hbk.cell (by first | omega | (simp; omega) | simp)]; first | assumption | go_keep))))
    (first
      | (go_at_call 40; with_reducible refine (HC2 _).mono ?_; rintro e' w2 ⟨rfl, hbk⟩; have hbk2 := hbk)
      | (go_at_call 51; with_reducible refine (HC1 _).mono ?_; rintro e' w1 ⟨rfl, hbk⟩; have hbk1 := hbk; have zk := sz_new hbk))
  go_wp2_with fail
  go_ret2
  exact ⟨rfl, below_of_new (hbk1.trans (hbk2.mono hbk1.size))⟩
end Go.Proofs.Ythepfejoneeaeaa
