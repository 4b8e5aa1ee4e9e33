/- The program's units of the four letters, the size behind a unit, the size of the flat sheet. -/
import Derived.Test.YtnfnmdeiaihgnaaSuMath
import Derived.Test.YtnfnmdeiaihgnaaGuPa
import Derived.Test.YtnfnmdeiaihgnaaSrG
namespace Go.Proofs.Ytnfnmdeiaihgnaa
open Go.RowKit
set_option linter.unusedVariables false

theorem leftUnit_any (p : Pc) (w : World) (hp : Su.small p) :
    Calls Try.prog 90 #[p.agg] w fun e w' => e = .returned (Su.unit p 76).agg ∧ Below w.heap.size w w' := by
  have t1 : (p.w).tdiv 2 = p.w / 2 := Int.tdiv_eq_ediv_of_nonneg (by unfold Su.small at hp; omega)
  have t2 : IntKind.i64.wrap (p.w / 2) = p.w / 2 := IntWalk.i64_in _ (by unfold Su.small at hp; omega)
  clear hp
  have HE := Lib.hid (show Below w.heap.size w ((w.alloc (.cells #[.int .i64 p.w, .int .i64 p.h] 25)).alloc (.cells #[.bool true, .int .i64 (p.w / 2), .bool true] 83)) from (((Below.refl _ _).alloc (Nat.le_refl _) _).alloc (by simp) _))
  go_enter Try.func90, Try.ntmps90
  go_wp2_with fail
  try simp only [Exit.inBlock, Exit.then]
  exact bodyPost_ret (v := .agg #[.bool true, .int .i64 (p.w / 2), .bool true]) (by simp [results, Try.results90, go_sem]) rfl ⟨rfl, HE.out⟩
theorem rightUnit_any (p : Pc) (w : World) (hp : Su.small p) :
    Calls Try.prog 91 #[p.agg] w fun e w' => e = .returned (Su.unit p 82).agg ∧ Below w.heap.size w w' := by
  have t1 : (p.w).tdiv 2 = p.w / 2 := Int.tdiv_eq_ediv_of_nonneg (by unfold Su.small at hp; omega)
  have t2 : IntKind.i64.wrap (p.w / 2) = p.w / 2 := IntWalk.i64_in _ (by unfold Su.small at hp; omega)
  clear hp
  have HE := Lib.hid (show Below w.heap.size w ((w.alloc (.cells #[.int .i64 p.w, .int .i64 p.h] 25)).alloc (.cells #[.bool true, .int .i64 (p.w / 2), .bool false] 83)) from (((Below.refl _ _).alloc (Nat.le_refl _) _).alloc (by simp) _))
  go_enter Try.func91, Try.ntmps91
  go_wp2_with fail
  try simp only [Exit.inBlock, Exit.then]
  exact bodyPost_ret (v := .agg #[.bool true, .int .i64 (p.w / 2), .bool false]) (by simp [results, Try.results91, go_sem]) rfl ⟨rfl, HE.out⟩
theorem topUnit_any (p : Pc) (w : World) (hp : Su.small p) :
    Calls Try.prog 92 #[p.agg] w fun e w' => e = .returned (Su.unit p 84).agg ∧ Below w.heap.size w w' := by
  have t1 : (p.h).tdiv 2 = p.h / 2 := Int.tdiv_eq_ediv_of_nonneg (by unfold Su.small at hp; omega)
  have t2 : IntKind.i64.wrap (p.h / 2) = p.h / 2 := IntWalk.i64_in _ (by unfold Su.small at hp; omega)
  clear hp
  have HE := Lib.hid (show Below w.heap.size w ((w.alloc (.cells #[.int .i64 p.w, .int .i64 p.h] 25)).alloc (.cells #[.bool false, .int .i64 (p.h / 2), .bool true] 83)) from (((Below.refl _ _).alloc (Nat.le_refl _) _).alloc (by simp) _))
  go_enter Try.func92, Try.ntmps92
  go_wp2_with fail
  try simp only [Exit.inBlock, Exit.then]
  exact bodyPost_ret (v := .agg #[.bool false, .int .i64 (p.h / 2), .bool true]) (by simp [results, Try.results92, go_sem]) rfl ⟨rfl, HE.out⟩
theorem bottomUnit_any (p : Pc) (w : World) (hp : Su.small p) :
    Calls Try.prog 93 #[p.agg] w fun e w' => e = .returned (Su.unit p 66).agg ∧ Below w.heap.size w w' := by
  have t1 : (p.h).tdiv 2 = p.h / 2 := Int.tdiv_eq_ediv_of_nonneg (by unfold Su.small at hp; omega)
  have t2 : IntKind.i64.wrap (p.h / 2) = p.h / 2 := IntWalk.i64_in _ (by unfold Su.small at hp; omega)
  clear hp
  have HE := Lib.hid (show Below w.heap.size w ((w.alloc (.cells #[.int .i64 p.w, .int .i64 p.h] 25)).alloc (.cells #[.bool false, .int .i64 (p.h / 2), .bool false] 83)) from (((Below.refl _ _).alloc (Nat.le_refl _) _).alloc (by simp) _))
  go_enter Try.func93, Try.ntmps93
  go_wp2_with fail
  try simp only [Exit.inBlock, Exit.then]
  exact bodyPost_ret (v := .agg #[.bool false, .int .i64 (p.h / 2), .bool false]) (by simp [results, Try.results93, go_sem]) rfl ⟨rfl, HE.out⟩
/-- The size behind a unit. -/
def Su.fold (p : Pc) (u : Un) : Pc := if u.a then ⟨u.g, p.h⟩ else ⟨p.w, u.g⟩
theorem Su.fold_unit (p : Pc) (x : UInt8) : Su.fold p (Su.unit p x) = Su.stp p x := by
  unfold Su.fold Su.unit Su.stp
  cases Fo.isX x <;> rfl
theorem foldedBy_true (p : Pc) (u : Un) (w : World) (hu : u.a = true) :
    Calls Try.prog 56 #[p.agg, u.agg] w fun e w' => e = .returned (Su.fold p u).agg ∧ Below w.heap.size w w' := by
  have HR : Hid ((Ending.returned (.agg #[.int .i64 u.g, .int .i64 p.h])) = Ending.returned (Su.fold p u).agg) := Lib.hid (by unfold Su.fold; rw [hu]; rfl)
  obtain ⟨ua, ug, uo⟩ := u
  dsimp only at hu HR ⊢
  subst hu
  have HE := Lib.hid (show Below w.heap.size w (((w.alloc (.cells #[.int .i64 p.w, .int .i64 p.h] 25)).alloc (.cells #[.bool true, .int .i64 ug, .bool uo] 83)).alloc (.cells #[.int .i64 ug, .int .i64 p.h] 25)) from ((((Below.refl _ _).alloc (Nat.le_refl _) _).alloc (by simp) _).alloc (by simp; omega) _))
  go_enter Try.func56, Try.ntmps56
  go_wp2_with fail
  try simp only [Exit.inBlock, Exit.then]
  exact bodyPost_ret (v := .agg #[.int .i64 ug, .int .i64 p.h]) (by simp [results, Try.results56, go_sem]) rfl ⟨HR.out, HE.out⟩
theorem foldedBy_false (p : Pc) (u : Un) (w : World) (hu : u.a = false) :
    Calls Try.prog 56 #[p.agg, u.agg] w fun e w' => e = .returned (Su.fold p u).agg ∧ Below w.heap.size w w' := by
  have HR : Hid ((Ending.returned (.agg #[.int .i64 p.w, .int .i64 u.g])) = Ending.returned (Su.fold p u).agg) := Lib.hid (by unfold Su.fold; rw [hu]; rfl)
  obtain ⟨ua, ug, uo⟩ := u
  dsimp only at hu HR ⊢
  subst hu
  have HE := Lib.hid (show Below w.heap.size w (((w.alloc (.cells #[.int .i64 p.w, .int .i64 p.h] 25)).alloc (.cells #[.bool false, .int .i64 ug, .bool uo] 83)).alloc (.cells #[.int .i64 p.w, .int .i64 ug] 25)) from ((((Below.refl _ _).alloc (Nat.le_refl _) _).alloc (by simp) _).alloc (by simp; omega) _))
  go_enter Try.func56, Try.ntmps56
  go_wp2_with fail
  try simp only [Exit.inBlock, Exit.then]
  exact bodyPost_ret (v := .agg #[.int .i64 p.w, .int .i64 ug]) (by simp [results, Try.results56, go_sem]) rfl ⟨HR.out, HE.out⟩
theorem foldedBy_any (p : Pc) (u : Un) (q : Pc) (w : World) (hq : Su.fold p u = q) :
    Calls Try.prog 56 #[p.agg, u.agg] w fun e w' => e = .returned q.agg ∧ Below w.heap.size w w' := by
  subst hq
  cases h : u.a
  · exact foldedBy_false p u w h
  · exact foldedBy_true p u w h
theorem flatSheet_any (a b : Int) (c : Pc) (q : Pc) (w : World) (ha : 1 ≤ a ∧ a ≤ 8) (hb_ : 1 ≤ b ∧ b ≤ 8) (hc : Gu.okP c = true) (hq : (⟨a * c.w, b * c.h⟩ : Pc) = q) :
    Calls Try.prog 55 #[.int .i64 a, .int .i64 b, c.agg] w fun e w' => e = .returned q.agg ∧ Below w.heap.size w w' := by
  have hcc := of_decide_eq_true hc
  have m1 := Su.mul_bd ha ⟨hcc.1, hcc.2.1⟩
  have m2 := Su.mul_bd hb_ ⟨hcc.2.2.1, hcc.2.2.2⟩
  have q1 : q.w = a * c.w := by rw [← hq]
  have q2 : q.h = b * c.h := by rw [← hq]
  have e1 : IntKind.i64.wrap (a * c.w) = q.w := by rw [q1]; exact IntWalk.i64_in _ (by omega)
  have e2 : IntKind.i64.wrap (b * c.h) = q.h := by rw [q2]; exact IntWalk.i64_in _ (by omega)
  clear hcc m1 m2 q1 q2 hq
  have HE := Lib.hid (show Below w.heap.size w ((w.alloc (.cells #[.int .i64 c.w, .int .i64 c.h] 25)).alloc (.cells #[.int .i64 q.w, .int .i64 q.h] 25)) from (((Below.refl _ _).alloc (Nat.le_refl _) _).alloc (by simp) _))
  go_enter Try.func55, Try.ntmps55
  go_wp2_with fail
  try simp only [Exit.inBlock, Exit.then]
  exact bodyPost_ret (v := .agg #[.int .i64 q.w, .int .i64 q.h]) (by simp [results, Try.results55, go_sem]) rfl ⟨rfl, HE.out⟩
end Go.Proofs.Ytnfnmdeiaihgnaa
