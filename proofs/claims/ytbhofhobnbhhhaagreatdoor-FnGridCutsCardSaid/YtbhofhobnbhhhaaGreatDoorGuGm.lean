/- What GridCuts answers, in lists. -/
import Derived.Test.YtbhofhobnbhhhaaGreatDoorGuAc
import Derived.Test.YtbhofhobnbhhhaaGreatDoorGuIm
namespace Go.Proofs.YtbhofhobnbhhhaaGreatDoor
open Go.RowKit
set_option linter.unusedVariables false

/-- Cuts and a code are handed back; the cuts are the call's own. -/
def CtC (w : World) (R : List Ct) (C : Int) (e : Ending) (w' : World) : Prop :=
  ∃ A n c, e = .returned (.tuple #[.slice A n c, .int .i64 C]) ∧ OwnS Ct.S w' w.heap.size w'.heap.size (.slice A n c) R ∧ n ≤ 1048576 ∧ Below w.heap.size w w'
theorem CtC.nil_ {w w' : World} {R : List Ct} {C C' : Int} (hR : R = []) (hC : C = C') (hb : Below w.heap.size w w') : CtC w R C (.returned (.tuple #[.slice none 0 0, .int .i64 C'])) w' := by
  subst hR hC
  exact ⟨none, 0, 0, rfl, OwnS.nil_, by omega, hb⟩
theorem CtC.mk_ {w w' : World} {R R' : List Ct} {C C' : Int} {A : Option Addr} {n c lo hi : Nat} (hR : R = R') (hC : C = C') (ho : OwnS Ct.S w' lo hi (.slice A n c) R') (h1 : w.heap.size ≤ lo) (h2 : hi ≤ w'.heap.size) (hn : n ≤ 1048576) (hb : Below w.heap.size w w') :
    CtC w R C (.returned (.tuple #[.slice A n c, .int .i64 C'])) w' := by
  subst hR hC
  exact ⟨A, n, c, rfl, ho.mono h1 h2, hn, hb⟩
theorem appendCuts_N (A : Option Addr) (n c lo hi : Nat) (l : List Ct) (i : Int) (a : Bool) (t : Int) (m N : Nat) (L : List Ct) (w : World) (ho : OwnS Ct.S w lo hi (.slice A n c) l) (hlo : lo ≤ w.heap.size) (hn : n ≤ 1000) (hi' : 0 ≤ i ∧ i ≤ 1000000) (hm : m ≤ 1000) (hN : n + m = N) (hL : l ++ Gu.seq i a t m = L) :
    Calls Tryz.prog 22 #[.slice A n c, .agg #[.int .i64 i, .bool a, .int .i64 t], .int .i64 (m : Int)] w fun e w' => ∃ A' c', e = .returned (.slice A' N c') ∧ OwnS Ct.S w' lo w'.heap.size (.slice A' N c') L ∧ Below lo w w' := by
  subst hN hL
  have := appendCuts_any A n c lo hi l i a t (m : Int) w ho hlo hn hi' (by omega)
  simpa using this
theorem two_new9 (w : World) (o o2 : Obj) : Below w.heap.size w ((w.alloc o).alloc o2) := (below_new9 w o).alloc (by simp) _
namespace Gu
def gridK (tw th : Int) (n r k : Nat) : List Ct := seq 0 false tw n ++ (List.range k).flatMap fun j : Nat => seq ((j * (r + 1) : Nat) : Int) true th r
theorem gridK_zero (tw th : Int) (n r : Nat) : gridK tw th n r 0 = seq 0 false tw n := by simp [gridK]
theorem gridK_next (tw th : Int) (n r k : Nat) : gridK tw th n r (k + 1) = gridK tw th n r k ++ seq ((k * (r + 1) : Nat) : Int) true th r := by
  simp [gridK, List.range_succ]
theorem gridK_len (tw th : Int) (n r k : Nat) : (gridK tw th n r k).length = n + k * r := by
  induction k with
  | zero => simp [gridK, seq_len]
  | succ k ih => rw [gridK_next, List.length_append, ih, seq_len, Nat.succ_mul]; omega
theorem gridK_eq (tw th : Int) (n r a : Nat) : grid tw th n a r = gridK tw th n r a := by
  unfold grid gridK
  simp only [cols_seq, rows_seq]
theorem gc_inv {p q : Pc} {a c : Int} (h : (okP p && okP q) = false) : gcC p a c q = 1 ∧ gcR p a c q = [] := by
  have h1 : gcC p a c q = 1 := by unfold gcC; rw [if_neg (by rw [h]; simp)]
  exact ⟨h1, by unfold gcR; rw [h1]; rfl⟩
theorem gc_rng {p q : Pc} {a c : Int} (h : (okP p && okP q) = true) (hr : ¬ (1 ≤ a ∧ a ≤ 80 ∧ 1 ≤ c ∧ c ≤ 80)) : gcC p a c q = 2 ∧ gcR p a c q = [] := by
  have h1 : gcC p a c q = 2 := by unfold gcC; rw [if_pos h, if_neg hr]
  exact ⟨h1, by unfold gcR; rw [h1]; rfl⟩
theorem gc_lim {p q : Pc} {a c gw gh : Int} (h : (okP p && okP q) = true) (hr : 1 ≤ a ∧ a ≤ 80 ∧ 1 ≤ c ∧ c ≤ 80) (hw : gap p.w a q.w = gw) (hh : gap p.h c q.h = gh) (hl : ¬ (gw + a * gh ≤ 79)) : gcC p a c q = 3 ∧ gcR p a c q = [] := by
  have h1 : gcC p a c q = 3 := by unfold gcC; rw [if_pos h, if_pos hr, hw, hh, if_neg hl]
  exact ⟨h1, by unfold gcR; rw [h1]; rfl⟩
theorem gc_st {p q : Pc} {a c gw gh : Int} (h : (okP p && okP q) = true) (hr : 1 ≤ a ∧ a ≤ 80 ∧ 1 ≤ c ∧ c ≤ 80) (hw : gap p.w a q.w = gw) (hh : gap p.h c q.h = gh) (hl : gw + a * gh ≤ 79) (hs : ¬ (a * q.w ≤ p.w ∧ c * q.h ≤ p.h)) : gcC p a c q = 5 ∧ gcR p a c q = [] := by
  have h1 : gcC p a c q = 5 := by unfold gcC; rw [if_pos h, if_pos hr, hw, hh, if_pos hl, if_neg hs]
  exact ⟨h1, by unfold gcR; rw [h1]; rfl⟩
theorem gc_ok {p q : Pc} {a c : Int} {m r an : Nat} (h : (okP p && okP q) = true) (hr : 1 ≤ a ∧ a ≤ 80 ∧ 1 ≤ c ∧ c ≤ 80) (hw : gap p.w a q.w = (m : Int)) (hh : gap p.h c q.h = (r : Int)) (ha : a = (an : Int)) (hl : (m : Int) + a * (r : Int) ≤ 79) (hs : a * q.w ≤ p.w ∧ c * q.h ≤ p.h) : gcC p a c q = 0 ∧ gcR p a c q = gridK q.w q.h m r an := by
  have h1 : gcC p a c q = 0 := by unfold gcC; rw [if_pos h, if_pos hr, hw, hh, if_pos hl, if_pos hs]
  refine ⟨h1, ?_⟩
  unfold gcR
  rw [h1, if_pos rfl, gridK_eq, hw, hh, ha]
  simp
theorem mul80 {a b B : Int} (h1 : 0 ≤ a) (h2 : a ≤ 80) (h3 : 0 ≤ b) (h4 : b ≤ B) (hB : 0 ≤ B) : 0 ≤ a * b ∧ a * b ≤ 80 * B := ⟨Int.mul_nonneg h1 h3, Int.mul_le_mul h2 h4 h3 (by omega)⟩
end Gu
end Go.Proofs.YtbhofhobnbhhhaaGreatDoor
