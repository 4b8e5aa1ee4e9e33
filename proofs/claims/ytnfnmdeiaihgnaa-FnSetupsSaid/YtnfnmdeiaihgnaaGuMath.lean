/- Chapter 9 in integers and lists: pieces, cuts, what a cut leaves, areas, grids. -/
import Derived.Test.YtnfnmdeiaihgnaaPc
import Derived.Test.YtnfnmdeiaihgnaaCt
namespace Go.Proofs.Ytnfnmdeiaihgnaa
namespace Gu
def okP (p : Pc) : Bool := decide (1 ≤ p.w ∧ p.w ≤ 20000 ∧ 1 ≤ p.h ∧ p.h ≤ 20000)
def okL (l : List Pc) : Bool := decide (l.length ≤ 80) && l.all okP
def side (p : Pc) (c : Ct) : Int := if c.a then p.h else p.w
def atI (l : List Pc) (i : Int) : Pc := l.getD i.toNat Pc.zero
/-- A cut that is possible. -/
def canP (l : List Pc) (c : Ct) : Prop := l.length < 80 ∧ 0 ≤ c.i ∧ c.i < (l.length : Int) ∧ 1 ≤ c.t ∧ c.t < side (atI l c.i) c
instance (l : List Pc) (c : Ct) : Decidable (canP l c) := inferInstanceAs (Decidable (_ ∧ _))
def can (l : List Pc) (c : Ct) : Bool := decide (canP l c)
def fst (p : Pc) (c : Ct) : Pc := if c.a then ⟨p.w, c.t⟩ else ⟨c.t, p.h⟩
def snd (p : Pc) (c : Ct) : Pc := if c.a then ⟨p.w, p.h - c.t⟩ else ⟨p.w - c.t, p.h⟩
def cut (l : List Pc) (c : Ct) : List Pc := l.take c.i.toNat ++ [fst (atI l c.i) c, snd (atI l c.i) c] ++ l.drop (c.i.toNat + 1)
def ccB (l : List Pc) (c : Ct) : Bool := okL l && can l c
def mkC (l : List Pc) (c : Ct) : Int := if okL l then (if can l c then 0 else 5) else 1
def mkR (l : List Pc) (c : Ct) : List Pc := if mkC l c = 0 then cut l c else []
/-- The pieces after some cuts; none where one of them is not possible. -/
def run : List Pc → List Ct → Option (List Pc)
  | l, [] => some l
  | l, c :: cs => if can l c then run (cut l c) cs else none
def rcC (p : Pc) (g : List Ct) : Int := if okP p then (if g.length ≤ 79 then (if (run [p] g).isSome then 0 else 5) else 3) else 1
def rcR (p : Pc) (g : List Ct) : List Pc := if rcC p g = 0 then (run [p] g).getD [] else []
def area (p : Pc) : Int := p.w * p.h
def areas : List Pc → Int
  | [] => 0
  | p :: l => area p + areas l
def arC (l : List Pc) : Int := if okL l then 0 else 1
def arR (l : List Pc) : Int := if okL l then areas l else 0
def cpC (l : List Pc) (p : Pc) : Int := if okL l && okP p then 0 else 1
def cpR (l : List Pc) (p : Pc) : Int := if okL l && okP p then (l.countP (fun x => decide (x = p)) : Int) else 0
/-- How many cuts a side of s asks for, in n parts of q. -/
def gap (s n q : Int) : Int := if n * q < s then n else n - 1
def gcC (p : Pc) (a c : Int) (q : Pc) : Int :=
  if okP p && okP q then
    if 1 ≤ a ∧ a ≤ 80 ∧ 1 ≤ c ∧ c ≤ 80 then
      if gap p.w a q.w + a * gap p.h c q.h ≤ 79 then (if a * q.w ≤ p.w ∧ c * q.h ≤ p.h then 0 else 5) else 3
    else 2
  else 1
def cols (t : Int) (n : Nat) : List Ct := (List.range n).map fun k : Nat => ⟨(k : Int), false, t⟩
def rows (t : Int) (top n : Nat) : List Ct := (List.range n).map fun j : Nat => ⟨((top + j : Nat) : Int), true, t⟩
def grid (tw th : Int) (n a r : Nat) : List Ct := cols tw n ++ (List.range a).flatMap fun k => rows th (k * (r + 1)) r
def gcR (p : Pc) (a c : Int) (q : Pc) : List Ct := if gcC p a c q = 0 then grid q.w q.h (gap p.w a q.w).toNat a.toNat (gap p.h c q.h).toNat else []

theorem okP_iff {p : Pc} : okP p = true ↔ 1 ≤ p.w ∧ p.w ≤ 20000 ∧ 1 ≤ p.h ∧ p.h ≤ 20000 := by simp [okP]
theorem can_iff {l : List Pc} {c : Ct} : can l c = true ↔ canP l c := by simp [can]
theorem okL_all {l : List Pc} (h : okL l = true) : l.length ≤ 80 ∧ ∀ x ∈ l, okP x = true := by
  simpa [okL] using h
theorem okL_false {l : List Pc} (h : okL l = false) (hl : l.length ≤ 80) : ∃ (k : Nat) (x : Pc), l[k]? = some x ∧ okP x = false ∧ ∀ (j : Nat) (y : Pc), j < k → l[j]? = some y → okP y = true := by
  have h1 : l.all okP = false := by
    unfold okL at h
    rw [decide_eq_true hl, Bool.true_and] at h
    exact h
  clear h hl
  induction l with
  | nil => simp at h1
  | cons a l ih =>
    by_cases ha : okP a = true
    · have h2 : l.all okP = false := by simpa [ha] using h1
      obtain ⟨k, x, hk, hx, hj⟩ := ih h2
      refine ⟨k + 1, x, by simpa using hk, hx, fun j y hlt hy => ?_⟩
      match j, hy with
      | 0, hy =>
        simp at hy
        rw [← hy]
        exact ha
      | j + 1, hy => exact hj j y (by omega) (by simpa using hy)
    · exact ⟨0, a, rfl, by simpa using ha, fun j y h => by omega⟩
theorem atI_get {l : List Pc} {i : Int} {x : Pc} (h : l[i.toNat]? = some x) : atI l i = x := by
  unfold atI
  rw [List.getD_eq_getElem?_getD, h]
  rfl
theorem cut_len {l : List Pc} {c : Ct} (h : canP l c) : (cut l c).length = l.length + 1 := by
  obtain ⟨_, h1, h2, _⟩ := h
  unfold cut
  simp
  omega
theorem side_le {p : Pc} {c : Ct} (h : okP p = true) : side p c ≤ 20000 := by
  have := okP_iff.1 h
  unfold side
  split <;> omega
theorem okP_fst {p : Pc} {c : Ct} (h : okP p = true) (h1 : 1 ≤ c.t) (h2 : c.t < side p c) : okP (fst p c) = true ∧ okP (snd p c) = true := by
  have := okP_iff.1 h
  rw [okP_iff, okP_iff]
  unfold fst snd
  unfold side at h2
  split at h2 <;> simp_all <;> omega
theorem cut_ok {l : List Pc} {c : Ct} (h : canP l c) (hl : ∀ x ∈ l, okP x = true) : ∀ x ∈ cut l c, okP x = true := by
  obtain ⟨_, h1, h2, h3, h4⟩ := h
  have hg : l[c.i.toNat]? = some (l[c.i.toNat]'(by omega)) := List.getElem?_eq_getElem (by omega)
  have hm : atI l c.i ∈ l := by rw [atI_get hg]; exact List.getElem_mem _
  have hb := okP_fst (hl _ hm) h3 h4
  intro x hx
  unfold cut at hx
  simp only [List.mem_append, List.mem_cons, List.not_mem_nil, or_false] at hx
  rcases hx with (hx | rfl | rfl) | hx
  · exact hl x (List.mem_of_mem_take hx)
  · exact hb.1
  · exact hb.2
  · exact hl x (List.mem_of_mem_drop hx)
theorem cut_okL {l : List Pc} {c : Ct} (h : canP l c) (hl : okL l = true) : okL (cut l c) = true := by
  have h1 := okL_all hl
  have h2 := cut_len h
  have h3 := h.1
  have h4 := cut_ok h h1.2
  unfold okL
  simp only [Bool.and_eq_true, decide_eq_true_eq, List.all_eq_true]
  exact ⟨by omega, h4⟩
theorem run_next {l : List Pc} {g : List Ct} {k : Nat} {c : Ct} {m : List Pc} (hr : run l (g.take k) = some m) (hc : g[k]? = some c) (h : can m c = true) : run l (g.take (k + 1)) = some (cut m c) := by
  rw [takeS_next g k c hc]
  clear hc
  generalize g.take k = h0 at hr
  induction h0 generalizing l with
  | nil =>
    simp [run] at hr
    subst hr
    simp [run, h]
  | cons x xs ih =>
    simp only [run, List.cons_append] at hr ⊢
    split at hr
    · rename_i hx
      rw [if_pos hx]
      exact ih hr
    · cases hr
theorem run_stop {l : List Pc} {g : List Ct} {k : Nat} {c : Ct} {m : List Pc} (hr : run l (g.take k) = some m) (hc : g[k]? = some c) (h : can m c = false) : run l g = none := by
  have hg : g = g.take k ++ c :: g.drop (k + 1) := by
    have h1 := List.take_append_drop k g
    have hk : k < g.length := (List.getElem?_eq_some_iff.1 hc).1
    rw [List.drop_eq_getElem_cons hk] at h1
    rw [List.getElem?_eq_getElem hk] at hc
    injection hc with hc
    rw [hc] at h1
    exact h1.symm
  rw [hg]
  generalize g.drop (k + 1) = r
  generalize g.take k = h0 at hr
  clear hg hc
  induction h0 generalizing l with
  | nil =>
    simp [run] at hr
    subst hr
    simp [run, h]
  | cons x xs ih =>
    simp only [run, List.cons_append] at hr ⊢
    split at hr
    · rename_i hx
      rw [if_pos hx]
      exact ih hr
    · cases hr
theorem run_len {l m : List Pc} {g : List Ct} (h : run l g = some m) : m.length = l.length + g.length := by
  induction g generalizing l with
  | nil =>
    simp [run] at h
    subst h
    rfl
  | cons c g ih =>
    simp only [run] at h
    split at h
    · rename_i hc
      have := ih h
      rw [cut_len (can_iff.1 hc)] at this
      simp only [List.length_cons]
      omega
    · cases h
theorem run_ok {l m : List Pc} {g : List Ct} (h : run l g = some m) (hl : ∀ x ∈ l, okP x = true) : ∀ x ∈ m, okP x = true := by
  induction g generalizing l with
  | nil =>
    simp [run] at h
    subst h
    exact hl
  | cons c g ih =>
    simp only [run] at h
    split at h
    · rename_i hc
      exact ih h (cut_ok (can_iff.1 hc) hl)
    · cases h
theorem run_append {l m : List Pc} {g h : List Ct} (e : run l g = some m) : run l (g ++ h) = run m h := by
  induction g generalizing l with
  | nil =>
    simp [run] at e
    subst e
    rfl
  | cons c g ih =>
    simp only [run, List.cons_append] at e ⊢
    split at e
    · rename_i hc
      rw [if_pos hc]
      exact ih e
    · cases e
theorem areas_next (l : List Pc) (k : Nat) (x : Pc) (hx : l[k]? = some x) : areas (l.take (k + 1)) = areas (l.take k) + area x := by
  rw [takeS_next l k x hx]
  generalize l.take k = m
  induction m with
  | nil => simp [areas]
  | cons a m ih => simp only [areas, List.cons_append, ih]; omega
theorem area_le {p : Pc} (h : okP p = true) : 0 ≤ area p ∧ area p ≤ 400000000 := by
  have := okP_iff.1 h
  unfold area
  have h1 : p.w * p.h ≤ 20000 * 20000 := Int.mul_le_mul this.2.1 this.2.2.2 (by omega) (by omega)
  exact ⟨Int.mul_nonneg (by omega) (by omega), by omega⟩
theorem areas_le {l : List Pc} (h : ∀ x ∈ l, okP x = true) : 0 ≤ areas l ∧ areas l ≤ 400000000 * (l.length : Int) := by
  induction l with
  | nil => simp [areas]
  | cons a l ih =>
    have h1 := area_le (h a (by simp))
    have h2 := ih fun x hx => h x (by simp [hx])
    simp only [areas, List.length_cons]
    omega
theorem count_next (l : List Pc) (p : Pc) (k : Nat) (x : Pc) (hx : l[k]? = some x) : (l.take (k + 1)).countP (fun y => decide (y = p)) = (l.take k).countP (fun y => decide (y = p)) + (if x = p then 1 else 0) := by
  rw [takeS_next l k x hx, List.countP_append]
  simp [List.countP_cons]
end Gu
end Go.Proofs.Ytnfnmdeiaihgnaa
