/- The mathematics of folded sheets: the folds taken back one by one, the leaves of a scheme, the pile that grows fold by fold, and the list of all schemes. No program is named here. -/
import Derived.WalkKit
namespace Go.Proofs.Ytnfnmdeiaihgnaa
namespace Fo

/-- L or R. -/
def isX (c : UInt8) : Bool := c == 76 || c == 82
/-- T or B. -/
def isY (c : UInt8) : Bool := c == 84 || c == 66

/-- A leaf. -/
structure Lf where
  x : Nat
  y : Nat
  fx : Bool
  fy : Bool
def Lf.flX (l : Lf) : Lf := ⟨l.x, l.y, !l.fx, l.fy⟩
def Lf.flY (l : Lf) : Lf := ⟨l.x, l.y, l.fx, !l.fy⟩
def Lf.fl (al : Bool) (l : Lf) : Lf := if al then l.flX else l.flY
def Lf.down (l : Lf) : Bool := l.fx != l.fy

/-- The place in its own pile of what lies at place k of two piles of n. -/
def kb (k n : Nat) : Nat := if k < n then n - 1 - k else k - n
/-- Where a cell lay before a fold. -/
def ab (a s : Nat) (m f : Bool) : Nat := (if m then s - 1 - a else a) + (if m != f then s else 0)

/-- The state of the reckoning that takes folds back. -/
structure M where
  k : Nat
  n : Nat
  x : Nat
  w : Nat
  fx : Bool
  y : Nat
  h : Nat
  fy : Bool
def M.lf (m : M) : Lf := ⟨m.x, m.y, m.fx, m.fy⟩
def step (m : M) (c : UInt8) : M :=
  if isX c then ⟨kb m.k (m.n / 2), m.n / 2, ab m.x m.w (decide (m.k < m.n / 2)) (c == 76), 2 * m.w, m.fx != decide (m.k < m.n / 2), m.y, m.h, m.fy⟩
  else ⟨kb m.k (m.n / 2), m.n / 2, m.x, m.w, m.fx, ab m.y m.h (decide (m.k < m.n / 2)) (c == 84), 2 * m.h, m.fy != decide (m.k < m.n / 2)⟩
def go (r : List UInt8) (m : M) : M := r.foldl step m
def leaf (r : List UInt8) (w h x y k : Nat) : Lf := (go r ⟨k, 2 ^ r.length, x, w, false, y, h, false⟩).lf
/-- The pile at x, y when the sheet has w columns and h rows. -/
def stk (r : List UInt8) (w h x y : Nat) : List Lf := (List.range (2 ^ r.length)).map (leaf r w h x y)
/-- The leaves of a scheme. -/
def leaves (s : List UInt8) : List Lf := stk s.reverse 1 1 0 0

def M.nx (m : M) : M := ⟨m.k, m.n, m.x, m.w, !m.fx, m.y, m.h, m.fy⟩
def M.ny (m : M) : M := ⟨m.k, m.n, m.x, m.w, m.fx, m.y, m.h, !m.fy⟩
theorem step_nx (m : M) (c : UInt8) : step m.nx c = (step m c).nx := by
  unfold step M.nx
  cases isX c <;> simp
theorem step_ny (m : M) (c : UInt8) : step m.ny c = (step m c).ny := by
  unfold step M.ny
  cases isX c <;> simp
theorem go_nx (r : List UInt8) : ∀ m : M, go r m.nx = (go r m).nx := by
  induction r with
  | nil => intro m; rfl
  | cons c r ih => intro m; show go r (step m.nx c) = _; rw [step_nx, ih]; rfl
theorem go_ny (r : List UInt8) : ∀ m : M, go r m.ny = (go r m).ny := by
  induction r with
  | nil => intro m; rfl
  | cons c r ih => intro m; show go r (step m.ny c) = _; rw [step_ny, ih]; rfl
theorem lf_nx (m : M) : m.nx.lf = m.lf.flX := rfl
theorem lf_ny (m : M) : m.ny.lf = m.lf.flY := rfl

theorem stk_len (r : List UInt8) (w h x y : Nat) : (stk r w h x y).length = 2 ^ r.length := by simp [stk]
theorem stk_get (r : List UInt8) (w h x y k : Nat) (hk : k < 2 ^ r.length) : (stk r w h x y)[k]? = some (leaf r w h x y k) := by
  simp [stk, hk]
theorem half (n : Nat) : 2 ^ (n + 1) / 2 = 2 ^ n := by rw [Nat.pow_succ]; omega

theorem leaf_X1 (c : UInt8) (r : List UInt8) (w h x y k : Nat) (hc : isX c = true) (hk : k < 2 ^ r.length) :
    leaf (c :: r) w h x y k = (leaf r (2 * w) h (ab x w true (c == 76)) y (2 ^ r.length - 1 - k)).flX := by
  have h1 : (leaf r (2 * w) h (ab x w true (c == 76)) y (2 ^ r.length - 1 - k)).flX = (go r (M.nx ⟨2 ^ r.length - 1 - k, 2 ^ r.length, ab x w true (c == 76), 2 * w, false, y, h, false⟩)).lf := by rw [go_nx, lf_nx]; rfl
  rw [h1]
  show (go r (step ⟨k, 2 ^ (c :: r).length, x, w, false, y, h, false⟩ c)).lf = _
  congr 2
  simp [step, hc, half, hk, kb, M.nx]
theorem leaf_X2 (c : UInt8) (r : List UInt8) (w h x y k : Nat) (hc : isX c = true) (hk : ¬ k < 2 ^ r.length) :
    leaf (c :: r) w h x y k = leaf r (2 * w) h (ab x w false (c == 76)) y (k - 2 ^ r.length) := by
  unfold leaf
  show (go r (step _ c)).lf = _
  congr 2
  simp [step, hc, half, hk, kb]
theorem leaf_Y1 (c : UInt8) (r : List UInt8) (w h x y k : Nat) (hc : isX c = false) (hk : k < 2 ^ r.length) :
    leaf (c :: r) w h x y k = (leaf r w (2 * h) x (ab y h true (c == 84)) (2 ^ r.length - 1 - k)).flY := by
  have h1 : (leaf r w (2 * h) x (ab y h true (c == 84)) (2 ^ r.length - 1 - k)).flY = (go r (M.ny ⟨2 ^ r.length - 1 - k, 2 ^ r.length, x, w, false, ab y h true (c == 84), 2 * h, false⟩)).lf := by rw [go_ny, lf_ny]; rfl
  rw [h1]
  show (go r (step ⟨k, 2 ^ (c :: r).length, x, w, false, y, h, false⟩ c)).lf = _
  congr 2
  simp [step, hc, half, hk, kb, M.ny]
theorem leaf_Y2 (c : UInt8) (r : List UInt8) (w h x y k : Nat) (hc : isX c = false) (hk : ¬ k < 2 ^ r.length) :
    leaf (c :: r) w h x y k = leaf r w (2 * h) x (ab y h false (c == 84)) (k - 2 ^ r.length) := by
  unfold leaf
  show (go r (step _ c)).lf = _
  congr 2
  simp [step, hc, half, hk, kb]

/-- The pile turned over, and what it is laid upon. -/
def turn (al : Bool) (l : List Lf) : List Lf := (l.map (Lf.fl al)).reverse
theorem turn_len (al : Bool) (l : List Lf) : (turn al l).length = l.length := by simp [turn]

theorem stk_X (c : UInt8) (r : List UInt8) (w h x y : Nat) (hc : isX c = true) :
    stk (c :: r) w h x y = turn true (stk r (2 * w) h (ab x w true (c == 76)) y) ++ stk r (2 * w) h (ab x w false (c == 76)) y := by
  apply List.ext_getElem
  · simp [turn_len, stk_len, Nat.pow_succ]; omega
  · intro i h1 h2
    simp only [stk_len, List.length_cons] at h1
    have h3 : i < 2 ^ r.length + 2 ^ r.length := by rw [Nat.pow_succ] at h1; omega
    by_cases hk : i < 2 ^ r.length
    · rw [List.getElem_append_left (by rw [turn_len, stk_len]; exact hk)]
      simp [stk, turn, Lf.fl, leaf_X1 _ _ _ _ _ _ _ hc hk]
    · rw [List.getElem_append_right (by rw [turn_len, stk_len]; omega)]
      simp [stk, turn_len, leaf_X2 _ _ _ _ _ _ _ hc hk]
theorem stk_Y (c : UInt8) (r : List UInt8) (w h x y : Nat) (hc : isX c = false) :
    stk (c :: r) w h x y = turn false (stk r w (2 * h) x (ab y h true (c == 84))) ++ stk r w (2 * h) x (ab y h false (c == 84)) := by
  apply List.ext_getElem
  · simp [turn_len, stk_len, Nat.pow_succ]; omega
  · intro i h1 h2
    simp only [stk_len, List.length_cons] at h1
    have h3 : i < 2 ^ r.length + 2 ^ r.length := by rw [Nat.pow_succ] at h1; omega
    by_cases hk : i < 2 ^ r.length
    · rw [List.getElem_append_left (by rw [turn_len, stk_len]; exact hk)]
      simp [stk, turn, Lf.fl, leaf_Y1 _ _ _ _ _ _ _ hc hk]
    · rw [List.getElem_append_right (by rw [turn_len, stk_len]; omega)]
      simp [stk, turn_len, leaf_Y2 _ _ _ _ _ _ _ hc hk]

/-- How many letters L and R, and how many others. -/
def nX (s : List UInt8) : Nat := s.countP isX
def nY (s : List UInt8) : Nat := s.countP (fun c => !isX c)
theorem nX_cons (c : UInt8) (s : List UInt8) : nX (c :: s) = nX s + (if isX c = true then 1 else 0) := by unfold nX; rw [List.countP_cons]
theorem nY_cons (c : UInt8) (s : List UInt8) : nY (c :: s) = nY s + (if isX c = true then 0 else 1) := by unfold nY; rw [List.countP_cons]; cases isX c <;> simp
theorem nX_add_nY (s : List UInt8) : nX s + nY s = s.length := by
  induction s with
  | nil => rfl
  | cons c s ih => rw [nX_cons, nY_cons, List.length_cons]; split <;> omega
theorem nX_rev (s : List UInt8) : nX s.reverse = nX s := by unfold nX; rw [List.countP_reverse]
theorem nY_rev (s : List UInt8) : nY s.reverse = nY s := by unfold nY; rw [List.countP_reverse]

theorem ab_lt (a s : Nat) (m f : Bool) (h : a < s) : ab a s m f < 2 * s := by unfold ab; cases m <;> cases f <;> simp <;> omega
/-- Each cell of the sheet is met. -/
theorem leaf_onto (r : List UInt8) : ∀ (w h X Y : Nat), X < w * 2 ^ nX r → Y < h * 2 ^ nY r → ∃ x y k, x < w ∧ y < h ∧ k < 2 ^ r.length ∧ (leaf r w h x y k).x = X ∧ (leaf r w h x y k).y = Y := by
  induction r with
  | nil => intro w h X Y hX hY; exact ⟨X, Y, 0, by simpa [nX] using hX, by simpa [nY] using hY, by simp, rfl, rfl⟩
  | cons c r ih =>
    intro w h X Y hX hY
    by_cases hc : isX c = true
    · rw [nX_cons, if_pos hc, Nat.pow_succ] at hX
      rw [nY_cons, if_pos hc] at hY
      obtain ⟨x, y, k, h1, h2, h3, h4, h5⟩ := ih (2 * w) h X Y (by rw [Nat.mul_comm 2 w, Nat.mul_assoc, Nat.mul_comm 2 _]; exact hX) hY
      have hp : 2 ^ (c :: r).length = 2 ^ r.length + 2 ^ r.length := by rw [List.length_cons, Nat.pow_succ]; omega
      by_cases hL : (c == 76) = true
      · by_cases hx : x < w
        · refine ⟨w - 1 - x, y, 2 ^ r.length - 1 - k, by omega, h2, by omega, ?_⟩
          rw [leaf_X1 c r w h _ y _ hc (by omega), hL]
          have e1 : ab (w - 1 - x) w true true = x := by unfold ab; simp; omega
          rw [e1, show 2 ^ r.length - 1 - (2 ^ r.length - 1 - k) = k from by omega]
          exact ⟨h4, h5⟩
        · refine ⟨x - w, y, 2 ^ r.length + k, by omega, h2, by omega, ?_⟩
          rw [leaf_X2 c r w h _ y _ hc (by omega), hL]
          have e1 : ab (x - w) w false true = x := by unfold ab; simp; omega
          rw [e1, show 2 ^ r.length + k - 2 ^ r.length = k from by omega]
          exact ⟨h4, h5⟩
      · have hL : (c == 76) = false := by simpa using hL
        by_cases hx : x < w
        · refine ⟨x, y, 2 ^ r.length + k, by omega, h2, by omega, ?_⟩
          rw [leaf_X2 c r w h _ y _ hc (by omega), hL]
          have e1 : ab x w false false = x := by unfold ab; simp
          rw [e1, show 2 ^ r.length + k - 2 ^ r.length = k from by omega]
          exact ⟨h4, h5⟩
        · refine ⟨2 * w - 1 - x, y, 2 ^ r.length - 1 - k, by omega, h2, by omega, ?_⟩
          rw [leaf_X1 c r w h _ y _ hc (by omega), hL]
          have e1 : ab (2 * w - 1 - x) w true false = x := by unfold ab; simp; omega
          rw [e1, show 2 ^ r.length - 1 - (2 ^ r.length - 1 - k) = k from by omega]
          exact ⟨h4, h5⟩
    · have hc : isX c = false := by simpa using hc
      rw [nX_cons, if_neg (by simp [hc])] at hX
      rw [nY_cons, if_neg (by simp [hc]), Nat.pow_succ] at hY
      obtain ⟨x, y, k, h1, h2, h3, h4, h5⟩ := ih w (2 * h) X Y hX (by rw [Nat.mul_comm 2 h, Nat.mul_assoc, Nat.mul_comm 2 _]; exact hY)
      have hp : 2 ^ (c :: r).length = 2 ^ r.length + 2 ^ r.length := by rw [List.length_cons, Nat.pow_succ]; omega
      by_cases hL : (c == 84) = true
      · by_cases hx : y < h
        · refine ⟨x, h - 1 - y, 2 ^ r.length - 1 - k, h1, by omega, by omega, ?_⟩
          rw [leaf_Y1 c r w h x _ _ hc (by omega), hL]
          have e1 : ab (h - 1 - y) h true true = y := by unfold ab; simp; omega
          rw [e1, show 2 ^ r.length - 1 - (2 ^ r.length - 1 - k) = k from by omega]
          exact ⟨h4, h5⟩
        · refine ⟨x, y - h, 2 ^ r.length + k, h1, by omega, by omega, ?_⟩
          rw [leaf_Y2 c r w h x _ _ hc (by omega), hL]
          have e1 : ab (y - h) h false true = y := by unfold ab; simp; omega
          rw [e1, show 2 ^ r.length + k - 2 ^ r.length = k from by omega]
          exact ⟨h4, h5⟩
      · have hL : (c == 84) = false := by simpa using hL
        by_cases hx : y < h
        · refine ⟨x, y, 2 ^ r.length + k, h1, by omega, by omega, ?_⟩
          rw [leaf_Y2 c r w h x _ _ hc (by omega), hL]
          have e1 : ab y h false false = y := by unfold ab; simp
          rw [e1, show 2 ^ r.length + k - 2 ^ r.length = k from by omega]
          exact ⟨h4, h5⟩
        · refine ⟨x, 2 * h - 1 - y, 2 ^ r.length - 1 - k, h1, by omega, by omega, ?_⟩
          rw [leaf_Y1 c r w h x _ _ hc (by omega), hL]
          have e1 : ab (2 * h - 1 - y) h true false = y := by unfold ab; simp; omega
          rw [e1, show 2 ^ r.length - 1 - (2 ^ r.length - 1 - k) = k from by omega]
          exact ⟨h4, h5⟩
/-- No cell is met twice. -/
theorem leaf_inj (r : List UInt8) : ∀ (w h x y k x' y' k' : Nat), x < w → y < h → k < 2 ^ r.length → x' < w → y' < h → k' < 2 ^ r.length →
    (leaf r w h x y k).x = (leaf r w h x' y' k').x → (leaf r w h x y k).y = (leaf r w h x' y' k').y → x = x' ∧ y = y' ∧ k = k' := by
  induction r with
  | nil =>
    intro w h x y k x' y' k' _ _ hk _ _ hk' e1 e2
    simp at hk hk'
    exact ⟨e1, e2, by omega⟩
  | cons c r ih =>
    intro w h x y k x' y' k' hx hy hk hx' hy' hk' e1 e2
    have hp : 2 ^ (c :: r).length = 2 ^ r.length + 2 ^ r.length := by rw [List.length_cons, Nat.pow_succ]; omega
    by_cases hc : isX c = true
    · have key : ∀ x k, x < w → k < 2 ^ (c :: r).length → ∃ x1 k1, x1 < 2 * w ∧ k1 < 2 ^ r.length ∧ (leaf (c :: r) w h x y k).x = (leaf r (2 * w) h x1 y k1).x ∧ (leaf (c :: r) w h x y k).y = (leaf r (2 * w) h x1 y k1).y ∧ x1 = ab x w (decide (k < 2 ^ r.length)) (c == 76) ∧ k1 = kb k (2 ^ r.length) := by
        intro x k hx hk
        by_cases hlt : k < 2 ^ r.length
        · refine ⟨_, _, ab_lt x w true (c == 76) hx, (by omega : 2 ^ r.length - 1 - k < 2 ^ r.length), ?_, ?_, by simp [hlt], by simp [kb, hlt]⟩
          · rw [leaf_X1 _ _ _ _ _ _ _ hc hlt]; rfl
          · rw [leaf_X1 _ _ _ _ _ _ _ hc hlt]; rfl
        · refine ⟨_, _, ab_lt x w false (c == 76) hx, (by omega : k - 2 ^ r.length < 2 ^ r.length), ?_, ?_, by simp [hlt], by simp [kb, hlt]⟩
          · rw [leaf_X2 _ _ _ _ _ _ _ hc hlt]
          · rw [leaf_X2 _ _ _ _ _ _ _ hc hlt]
      have key' : ∀ x k, x < w → k < 2 ^ (c :: r).length → ∃ x1 k1, x1 < 2 * w ∧ k1 < 2 ^ r.length ∧ (leaf (c :: r) w h x y' k).x = (leaf r (2 * w) h x1 y' k1).x ∧ (leaf (c :: r) w h x y' k).y = (leaf r (2 * w) h x1 y' k1).y ∧ x1 = ab x w (decide (k < 2 ^ r.length)) (c == 76) ∧ k1 = kb k (2 ^ r.length) := by
        intro x k hx hk
        by_cases hlt : k < 2 ^ r.length
        · refine ⟨_, _, ab_lt x w true (c == 76) hx, (by omega : 2 ^ r.length - 1 - k < 2 ^ r.length), ?_, ?_, by simp [hlt], by simp [kb, hlt]⟩
          · rw [leaf_X1 _ _ _ _ _ _ _ hc hlt]; rfl
          · rw [leaf_X1 _ _ _ _ _ _ _ hc hlt]; rfl
        · refine ⟨_, _, ab_lt x w false (c == 76) hx, (by omega : k - 2 ^ r.length < 2 ^ r.length), ?_, ?_, by simp [hlt], by simp [kb, hlt]⟩
          · rw [leaf_X2 _ _ _ _ _ _ _ hc hlt]
          · rw [leaf_X2 _ _ _ _ _ _ _ hc hlt]
      obtain ⟨x1, k1, a1, a2, a3, a4, a5, a6⟩ := key x k hx hk
      obtain ⟨x2, k2, b1, b2, b3, b4, b5, b6⟩ := key' x' k' hx' hk'
      obtain ⟨d1, d2, d3⟩ := ih (2 * w) h x1 y k1 x2 y' k2 a1 hy a2 b1 hy' b2 (by rw [← a3, ← b3, e1]) (by rw [← a4, ← b4, e2])
      rw [a5, b5] at d1
      rw [a6, b6] at d3
      unfold ab at d1
      unfold kb at d3
      refine ⟨?_, d2, ?_⟩ <;>
      · generalize (c == 76) = q at d1
        by_cases p1 : k < 2 ^ r.length <;> by_cases p2 : k' < 2 ^ r.length <;> cases q <;> simp [p1, p2] at d1 d3 <;> omega
    · have hc : isX c = false := by simpa using hc
      have key : ∀ x y k, y < h → k < 2 ^ (c :: r).length → ∃ y1 k1, y1 < 2 * h ∧ k1 < 2 ^ r.length ∧ (leaf (c :: r) w h x y k).x = (leaf r w (2 * h) x y1 k1).x ∧ (leaf (c :: r) w h x y k).y = (leaf r w (2 * h) x y1 k1).y ∧ y1 = ab y h (decide (k < 2 ^ r.length)) (c == 84) ∧ k1 = kb k (2 ^ r.length) := by
        intro x y k hy hk
        by_cases hlt : k < 2 ^ r.length
        · refine ⟨_, _, ab_lt y h true (c == 84) hy, (by omega : 2 ^ r.length - 1 - k < 2 ^ r.length), ?_, ?_, by simp [hlt], by simp [kb, hlt]⟩
          · rw [leaf_Y1 _ _ _ _ _ _ _ hc hlt]; rfl
          · rw [leaf_Y1 _ _ _ _ _ _ _ hc hlt]; rfl
        · refine ⟨_, _, ab_lt y h false (c == 84) hy, (by omega : k - 2 ^ r.length < 2 ^ r.length), ?_, ?_, by simp [hlt], by simp [kb, hlt]⟩
          · rw [leaf_Y2 _ _ _ _ _ _ _ hc hlt]
          · rw [leaf_Y2 _ _ _ _ _ _ _ hc hlt]
      obtain ⟨y1, k1, a1, a2, a3, a4, a5, a6⟩ := key x y k hy hk
      obtain ⟨y2, k2, b1, b2, b3, b4, b5, b6⟩ := key x' y' k' hy' hk'
      obtain ⟨d1, d2, d3⟩ := ih w (2 * h) x y1 k1 x' y2 k2 hx a1 a2 hx' b1 b2 (by rw [← a3, ← b3, e1]) (by rw [← a4, ← b4, e2])
      rw [a5, b5] at d2
      rw [a6, b6] at d3
      unfold ab at d2
      unfold kb at d3
      refine ⟨d1, ?_, ?_⟩ <;>
      · generalize (c == 84) = q at d2
        by_cases p1 : k < 2 ^ r.length <;> by_cases p2 : k' < 2 ^ r.length <;> cases q <;> simp [p1, p2] at d2 d3 <;> omega

/-- The cells are those of the sheet. -/
theorem leaf_in (r : List UInt8) : ∀ (w h x y k : Nat), x < w → y < h → k < 2 ^ r.length → (leaf r w h x y k).x < w * 2 ^ nX r ∧ (leaf r w h x y k).y < h * 2 ^ nY r := by
  induction r with
  | nil => intro w h x y k hx hy hk; simpa [nX, nY, leaf, go, M.lf] using And.intro hx hy
  | cons c r ih =>
    intro w h x y k hx hy hk
    have hp : 2 ^ (c :: r).length = 2 ^ r.length + 2 ^ r.length := by rw [List.length_cons, Nat.pow_succ]; omega
    have e1 : 2 * w * 2 ^ nX r = w * 2 ^ (nX r + 1) := by rw [Nat.pow_succ, Nat.mul_comm 2 w, Nat.mul_assoc, Nat.mul_comm 2 _]
    have e2 : 2 * h * 2 ^ nY r = h * 2 ^ (nY r + 1) := by rw [Nat.pow_succ, Nat.mul_comm 2 h, Nat.mul_assoc, Nat.mul_comm 2 _]
    by_cases hc : isX c = true
    · rw [nX_cons, if_pos hc, nY_cons, if_pos hc, ← e1]
      by_cases hlt : k < 2 ^ r.length
      · rw [leaf_X1 _ _ _ _ _ _ _ hc hlt]
        exact ih _ _ _ _ _ (ab_lt _ _ _ _ hx) hy (by omega)
      · rw [leaf_X2 _ _ _ _ _ _ _ hc hlt]
        exact ih _ _ _ _ _ (ab_lt _ _ _ _ hx) hy (by omega)
    · have hn : ¬ isX c = true := hc
      have hc : isX c = false := by simpa using hc
      rw [nX_cons, if_neg hn, nY_cons, if_neg hn, ← e2]
      by_cases hlt : k < 2 ^ r.length
      · rw [leaf_Y1 _ _ _ _ _ _ _ hc hlt]
        exact ih _ _ _ _ _ hx (ab_lt _ _ _ _ hy) (by omega)
      · rw [leaf_Y2 _ _ _ _ _ _ _ hc hlt]
        exact ih _ _ _ _ _ hx (ab_lt _ _ _ _ hy) (by omega)

/-- Of a pile that has been folded half the leaves lie face down. -/
theorem down_fl (al : Bool) (l : Lf) : (l.fl al).down = !l.down := by
  unfold Lf.fl Lf.down Lf.flX Lf.flY
  cases al <;> cases l.fx <;> cases l.fy <;> rfl
theorem downs_turn (al : Bool) (l : List Lf) : (turn al l).countP Lf.down + l.countP Lf.down = l.length := by
  unfold turn
  rw [List.countP_reverse, List.countP_map]
  have : (Lf.down ∘ Lf.fl al) = fun x => !x.down := by funext x; exact down_fl al x
  rw [this]
  induction l with
  | nil => rfl
  | cons a l ih =>
    rw [List.countP_cons, List.countP_cons, List.length_cons]
    cases a.down <;> simp <;> omega
theorem downs_half (r : List UInt8) : ∀ (w h x y : Nat), r ≠ [] → 2 * (stk r w h x y).countP Lf.down = 2 ^ r.length := by
  induction r with
  | nil => intro w h x y hne; exact absurd rfl hne
  | cons c r ih =>
    intro w h x y _
    have hp : 2 ^ (c :: r).length = 2 ^ r.length + 2 ^ r.length := by rw [List.length_cons, Nat.pow_succ]; omega
    have base : ∀ (al : Bool) w h x y w' h' x' y', 2 * (turn al (stk r w h x y) ++ stk r w' h' x' y').countP Lf.down = 2 ^ (c :: r).length := by
      intro al w h x y w' h' x' y'
      have h1 := downs_turn al (stk r w h x y)
      rw [stk_len] at h1
      rw [List.countP_append, hp]
      by_cases hr : r = []
      · subst hr
        have e : ∀ w h x y, (stk [] w h x y).countP Lf.down = 0 := fun w h x y => rfl
        rw [e] at h1 ⊢
        simp at h1 ⊢
        omega
      · have h2 := ih w h x y hr
        have h3 := ih w' h' x' y' hr
        omega
    by_cases hc : isX c = true
    · rw [stk_X _ _ _ _ _ _ hc]
      exact base ..
    · rw [stk_Y _ _ _ _ _ _ (by simpa using hc)]
      exact base ..

/-- The mirrored letters. -/
def mir (c : UInt8) : UInt8 := if c == 76 then 82 else if c == 82 then 76 else c
theorem mir_isX (c : UInt8) : isX (mir c) = isX c := by
  unfold mir isX
  split
  · simp_all
  · split <;> simp_all
theorem mir_76 (c : UInt8) (hc : isX c = true) : (mir c == 76) = !(c == 76) := by
  unfold isX at hc
  unfold mir
  split
  · simp_all
  · split <;> simp_all
theorem mir_Y (c : UInt8) (hc : isX c = false) : mir c = c := by
  unfold isX at hc
  unfold mir
  simp at hc
  simp [hc]
def Lf.mir (W : Nat) (l : Lf) : Lf := ⟨W - 1 - l.x, l.y, l.fx, l.fy⟩
theorem leaf_mir (r : List UInt8) : ∀ (w h x y k : Nat), x < w → y < h → k < 2 ^ r.length → leaf (r.map mir) w h (w - 1 - x) y k = (leaf r w h x y k).mir (w * 2 ^ nX r) := by
  induction r with
  | nil => intro w h x y k hx _ _; simp [leaf, go, M.lf, Lf.mir, nX]
  | cons c r ih =>
    intro w h x y k hx hy hk
    have hp : 2 ^ (c :: r).length = 2 ^ r.length + 2 ^ r.length := by rw [List.length_cons, Nat.pow_succ]; omega
    have e1 : 2 * w * 2 ^ nX r = w * 2 ^ (nX r + 1) := by rw [Nat.pow_succ, Nat.mul_comm 2 w, Nat.mul_assoc, Nat.mul_comm 2 _]
    have hl : (r.map mir).length = r.length := by simp
    rw [List.map_cons]
    by_cases hc : isX c = true
    · have hc' : isX (mir c) = true := by rw [mir_isX, hc]
      rw [nX_cons, if_pos hc, ← e1]
      by_cases hlt : k < 2 ^ r.length
      · rw [leaf_X1 _ _ _ _ _ _ _ hc hlt, leaf_X1 _ _ _ _ _ _ _ hc' (by rw [hl]; exact hlt), hl, mir_76 c hc]
        have e2 : ab (w - 1 - x) w true (!(c == 76)) = 2 * w - 1 - ab x w true (c == 76) := by unfold ab; cases c == 76 <;> simp <;> omega
        rw [e2, ih _ _ _ _ _ (ab_lt _ _ _ _ hx) hy (by omega)]
        rfl
      · rw [leaf_X2 _ _ _ _ _ _ _ hc hlt, leaf_X2 _ _ _ _ _ _ _ hc' (by rw [hl]; exact hlt), hl, mir_76 c hc]
        have e2 : ab (w - 1 - x) w false (!(c == 76)) = 2 * w - 1 - ab x w false (c == 76) := by unfold ab; cases c == 76 <;> simp <;> omega
        rw [e2, ih _ _ _ _ _ (ab_lt _ _ _ _ hx) hy (by omega)]
    · have hn : ¬ isX c = true := hc
      have hc : isX c = false := by simpa using hc
      have hc' : isX (mir c) = false := by rw [mir_isX, hc]
      rw [nX_cons, if_neg hn, Nat.add_zero]
      by_cases hlt : k < 2 ^ r.length
      · rw [leaf_Y1 _ _ _ _ _ _ _ hc hlt, leaf_Y1 _ _ _ _ _ _ _ hc' (by rw [hl]; exact hlt), hl, mir_Y c hc, ih _ _ _ _ _ hx (ab_lt _ _ _ _ hy) (by omega)]
        rfl
      · rw [leaf_Y2 _ _ _ _ _ _ _ hc hlt, leaf_Y2 _ _ _ _ _ _ _ hc' (by rw [hl]; exact hlt), hl, mir_Y c hc, ih _ _ _ _ _ hx (ab_lt _ _ _ _ hy) (by omega)]

/-- All schemes with a letters L and R and b letters T and B that begin with s. -/
def sch (s : List UInt8) (a b : Nat) : List (List UInt8) :=
  if a = 0 ∧ b = 0 then [s]
  else
    (if _h : 0 < b then sch (s ++ [66]) a (b - 1) else []) ++ (if _h : 0 < a then sch (s ++ [76]) (a - 1) b ++ sch (s ++ [82]) (a - 1) b else []) ++ (if _h : 0 < b then sch (s ++ [84]) a (b - 1) else [])
termination_by a + b

/-- The power of a side, if it is one. -/
def pw (n : Int) : Nat := if n = 2 then 1 else if n = 4 then 2 else if n = 8 then 3 else 0
def side (n : Int) : Bool := n == 1 || n == 2 || n == 4 || n == 8
def sheet (w h : Int) : Bool := side w && side h
/-- A scheme for a sheet. -/
def ok (s : List UInt8) : Bool := s.all fun c => isX c || isY c
def scheme (w h : Int) (s : List UInt8) : Bool := sheet w h && ok s && (nX s == pw w) && (nY s == pw h)
theorem side_cases {n : Int} (h : side n = true) : (n = 1 ∧ pw n = 0) ∨ (n = 2 ∧ pw n = 1) ∨ (n = 4 ∧ pw n = 2) ∨ (n = 8 ∧ pw n = 3) := by
  unfold side at h
  simp only [Bool.or_eq_true, beq_iff_eq] at h
  rcases h with ((h | h) | h) | h <;> subst h <;> simp [pw]
theorem side_pow {n : Int} (h : side n = true) : n = ((2 ^ pw n : Nat) : Int) ∧ pw n ≤ 3 := by
  rcases side_cases h with ⟨h1, h2⟩ | ⟨h1, h2⟩ | ⟨h1, h2⟩ | ⟨h1, h2⟩ <;> rw [h2, h1] <;> decide
end Fo
end Go.Proofs.Ytnfnmdeiaihgnaa
