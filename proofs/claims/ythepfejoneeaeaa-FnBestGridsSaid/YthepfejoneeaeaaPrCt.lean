/- Contracts of chapter 8: how many pages a row has, the counts of the upright and of the turned grid, a trim turned; the program's and the model's. -/
import Derived.Test.YthepfejoneeaeaaPrIm
namespace Go.Proofs.Ythepfejoneeaeaa
open Go.RowKit

theorem below_of_new2 {w V : World} {o o' : Obj} (h : Below ((w.alloc o).alloc o').drew.heap.size ((w.alloc o).alloc o').drew V) : Below w.heap.size w V :=
  (below_drewN' ((below_new w o).alloc (by simp) o') 1).trans (h.mono (show w.heap.size ≤ ((w.alloc o).alloc o').heap.size by simp; omega))
theorem sz_new {w V : World} {o : Obj} (h : Below (w.alloc o).drew.heap.size (w.alloc o).drew V) : w.heap.size + 1 ≤ V.heap.size := by
  have h1 : (w.alloc o).heap.size ≤ V.heap.size := h.size
  simpa using h1
theorem sz_new2 {w V : World} {o o' : Obj} (h : Below ((w.alloc o).alloc o').drew.heap.size ((w.alloc o).alloc o').drew V) : w.heap.size + 2 ≤ V.heap.size := by
  have h1 : ((w.alloc o).alloc o').heap.size ≤ V.heap.size := h.size
  simp at h1
  omega

set_option maxHeartbeats 1000000 in
theorem specCt_row (c d e f m s x : Int) (w : World) (hm : 0 ≤ m ∧ m ≤ 20000) (he : 0 ≤ e ∧ e ≤ 20000) (hf : 0 ≤ f ∧ f ≤ 20000) (hs : 1 ≤ s ∧ s ≤ 20000) (hx : Pr.ct m s e f = x) :
    Calls Try.prog 56 #[.int .i64 m, .int .i64 s, TV c d e f] w fun e' w' => e' = .returned (.int .i64 x) ∧ Below w.heap.size w w' := by
  have HB := Lib.hid (below_new w (.cells #[.int .i64 c, .int .i64 d, .int .i64 e, .int .i64 f] 27))
  have e0 : IntKind.i64.wrap (2 * e) = 2 * e := IntWalk.i64_in _ (by omega)
  have e1 : IntKind.i64.wrap (m - 2 * e) = m - 2 * e := IntWalk.i64_in _ (by omega)
  have e2 : IntKind.i64.wrap (m - 2 * e - s) = m - 2 * e - s := IntWalk.i64_in _ (by omega)
  by_cases h0 : m - 2 * e - s < 0
  · have H0 : Hid (x = 0) := Lib.hid (by rw [← hx]; exact Pr.ct_no h0)
    rw [H0.out]
    clear hx
    go_enter Try.func56, Try.ntmps56
    go_wp2
    go_ret
    exact ⟨rfl, HB.out⟩
  · have h0' : 0 ≤ m - 2 * e - s := by omega
    have u0 : ¬ s + f = 0 := by omega
    have e3 : IntKind.i64.wrap (s + f) = s + f := IntWalk.i64_in _ (by omega)
    have q0 := Int.ediv_nonneg (a := m - 2 * e - s) (b := s + f) h0' (by omega)
    have q1 := Int.ediv_le_self (a := m - 2 * e - s) (s + f) h0'
    have e4 : (m - 2 * e - s).tdiv (s + f) = (m - 2 * e - s) / (s + f) := Int.tdiv_eq_ediv_of_nonneg h0'
    have e5 : IntKind.i64.wrap ((m - 2 * e - s) / (s + f)) = (m - 2 * e - s) / (s + f) := IntWalk.i64_in _ (by omega)
    have e6 : IntKind.i64.wrap (1 + (m - 2 * e - s) / (s + f)) = x := by rw [← hx, Pr.ct_yes h0]; exact IntWalk.i64_in _ (by omega)
    clear hx
    go_enter Try.func56, Try.ntmps56
    go_wp2
    go_ret
    exact ⟨rfl, HB.out⟩

set_option maxHeartbeats 2000000 in
theorem fitting_any (c d e f m s x : Int) (w : World) (hm : 0 ≤ m ∧ m ≤ 20000) (he : 0 ≤ e ∧ e ≤ 20000) (hf : 0 ≤ f ∧ f ≤ 20000) (hs : 1 ≤ s ∧ s ≤ 20000) (hx : Pr.ct m s e f = x) :
    Calls Try.prog 55 #[TV c d e f, .int .i64 m, .int .i64 s] w fun e' w' => e' = .returned (.int .i64 x) ∧ Below w.heap.size w w' := by
  obtain ⟨q, hq⟩ : ∃ q, (m - (2 * e - f)).tdiv (s + f) = q := ⟨_, rfl⟩
  have hqx : max 0 q = x := by rw [← hq, ← hx]; exact Pr.ct_quot hs.1 hf.1
  have hqb := Pr.quot_bd (x := m - (2 * e - f)) (q := s + f) (by omega) (by omega) (by omega)
  rw [hq] at hqb
  have u0 : ¬ s + f = 0 := by omega
  have e1 : IntKind.i64.wrap (s + f) = s + f := IntWalk.i64_in _ (by omega)
  have e2 : IntKind.i64.wrap (m - (2 * e - f)) = m - (2 * e - f) := IntWalk.i64_in _ (by omega)
  have e3 : IntKind.i64.wrap ((m - (2 * e - f)).tdiv (s + f)) = q := by rw [hq]; exact IntWalk.i64_in _ (by omega)
  have HC : ∀ V, Calls Try.prog 54 #[TV c d e f, .int .i64 0, .int .i64 s] V fun e' w' => e' = .returned (.int .i64 (2 * e - f)) ∧ Below V.heap.size V w' := fun V => by
    have := needed_any c d e f 0 s 0 V he hf hs (by simp) (by omega)
    rwa [show e + 0 - f + e = 2 * e - f by omega] at this
  clear hx hq
  by_cases q0 : 0 < q
  · obtain rfl : x = q := by omega
    have m1 : max 0 x = x := by omega
    have q1 : ¬ x ≤ 0 := by omega
    clear hqx
    go_enter Try.func55, Try.ntmps55
    go_wp2_with fail
    go_region_held3 (fun V => V.cell? ⟨w.heap.size, 0, none⟩ = some (.int .i64 c) ∧ V.cell? ⟨w.heap.size, 1, none⟩ = some (.int .i64 d) ∧ V.cell? ⟨w.heap.size, 2, none⟩ = some (.int .i64 e) ∧ V.cell? ⟨w.heap.size, 3, none⟩ = some (.int .i64 f))
      (first | go_keep | (refine ⟨?_, ?_, ?_, ?_⟩ <;> (first | go_keep | (rw [hbk.cell (by first | omega | (simp; omega) | simp)]; first | assumption | go_keep))))
      (first
        | (go_at_call 54; with_reducible refine (HC _).mono ?_; rintro e' w1 ⟨rfl, hbk⟩))
    go_wp2_with fail
    go_ret
    exact ⟨rfl, below_of_new hbk⟩
  · obtain rfl : x = 0 := by omega
    have m1 : max 0 q = 0 := by omega
    have q1 : q ≤ 0 := by omega
    clear hqx
    go_enter Try.func55, Try.ntmps55
    go_wp2_with fail
    go_region_held3 (fun V => V.cell? ⟨w.heap.size, 0, none⟩ = some (.int .i64 c) ∧ V.cell? ⟨w.heap.size, 1, none⟩ = some (.int .i64 d) ∧ V.cell? ⟨w.heap.size, 2, none⟩ = some (.int .i64 e) ∧ V.cell? ⟨w.heap.size, 3, none⟩ = some (.int .i64 f))
      (first | go_keep | (refine ⟨?_, ?_, ?_, ?_⟩ <;> (first | go_keep | (rw [hbk.cell (by first | omega | (simp; omega) | simp)]; first | assumption | go_keep))))
      (first
        | (go_at_call 54; with_reducible refine (HC _).mono ?_; rintro e' w1 ⟨rfl, hbk⟩))
    go_wp2_with fail
    go_ret
    exact ⟨rfl, below_of_new hbk⟩

set_option maxHeartbeats 2000000 in
theorem specGrid_any (a b g c d e f x y : Int) (r : Bool) (w : World) (hp : Pr.shB a b g = true) (ht : Pr.tmB c d e f = true) (hx : Pr.ct a c e f = x) (hy : Pr.ct (b - g) d e f = y) :
    Calls Try.prog 42 #[PV a b g r, TV c d e f] w fun e' w' => e' = .returned (.tuple #[.int .i64 x, .int .i64 y]) ∧ Below w.heap.size w w' := by
  obtain ⟨a1, b1, g1, g2⟩ := Pr.sh_out hp
  obtain ⟨c1, d1, e1, f1⟩ := Pr.tm_out ht
  have k1 : IntKind.i64.wrap (b - g) = b - g := IntWalk.i64_in _ (by omega)
  have HC1 := fun (V : World) => specCt_row c d e f a c x V (by omega) e1 f1 c1 hx
  have HC2 := fun (V : World) => specCt_row c d e f (b - g) d y V (by omega) e1 f1 d1 hy
  clear hx hy hp ht
  go_enter Try.func42, Try.ntmps42
  go_wp2_with fail
  go_region_held3 (fun V => V.cell? ⟨w.heap.size, 0, none⟩ = some (.int .i64 a) ∧ V.cell? ⟨w.heap.size, 1, none⟩ = some (.int .i64 b) ∧ V.cell? ⟨w.heap.size, 2, none⟩ = some (.int .i64 g) ∧ V.cell? ⟨w.heap.size, 3, none⟩ = some (.bool r) ∧ V.cell? ⟨w.heap.size + 1, 0, none⟩ = some (.int .i64 c) ∧ V.cell? ⟨w.heap.size + 1, 1, none⟩ = some (.int .i64 d) ∧ V.cell? ⟨w.heap.size + 1, 2, none⟩ = some (.int .i64 e) ∧ V.cell? ⟨w.heap.size + 1, 3, none⟩ = some (.int .i64 f))
    (first | go_keep | (refine ⟨?_, ?_, ?_, ?_, ?_, ?_, ?_, ?_⟩ <;> (first | go_keep | (rw [hbk.cell (by first | omega | (simp; omega) | simp)]; first | assumption | go_keep))))
    (first
      | (go_at_call 56; with_reducible refine (HC2 _).mono ?_; rintro e' w2 ⟨rfl, hbk⟩; have hbk2 := hbk)
      | (go_at_call 56; with_reducible refine (HC1 _).mono ?_; rintro e' w1 ⟨rfl, hbk⟩; have hbk1 := hbk; have zk := sz_new2 hbk))
  go_wp2_with fail
  go_ret2
  exact ⟨rfl, below_of_new2 (hbk1.trans (hbk2.mono hbk1.size))⟩
end Go.Proofs.Ythepfejoneeaeaa
