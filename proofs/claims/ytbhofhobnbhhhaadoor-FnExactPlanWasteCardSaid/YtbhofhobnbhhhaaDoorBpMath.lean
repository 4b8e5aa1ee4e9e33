/- Mathematics of chapter 12, the program's side: the best usage of a sheet, found in one go; how the beginning of a text is a plan. -/
import Derived.Test.YtbhofhobnbhhhaaDoorBcBp
import Derived.Test.YtbhofhobnbhhhaaDoorBcCm
namespace Go.Proofs.YtbhofhobnbhhhaaDoor
open Go.RowKit
set_option linter.unusedVariables false
namespace Bc
theorem mxT_succ (g : Nat → Int) (s : Int) (n : Nat) : mxT g s (n + 1) = max (mxT g s n) (g (n + 1)) := rfl
/-- The greatest so far, and where it stands first (0: nowhere beyond the start). -/
def FM (g : Nat → Int) (s : Int) (n : Nat) (v : Int) (a : Nat) : Prop := v = mxT g s n ∧ ((v = s ∧ a = 0) ∨ (s < v ∧ 1 ≤ a ∧ a ≤ n ∧ g a = v ∧ ∀ j, 1 ≤ j → j < a → g j < v))
theorem FM.start (g : Nat → Int) (s : Int) : FM g s 0 s 0 := ⟨rfl, .inl ⟨rfl, rfl⟩⟩
theorem FM.up {g : Nat → Int} {s v : Int} {n a : Nat} (h : FM g s n v a) {z : Int} (hz : g (n + 1) = z) (hlt : v < z) : FM g s (n + 1) z (n + 1) := by
  obtain ⟨h1, h2⟩ := h
  have h3 := mxT_ge g s n
  subst hz
  refine ⟨by rw [mxT_succ]; omega, .inr ⟨by omega, by omega, Nat.le_refl _, rfl, fun j j1 j2 => ?_⟩⟩
  have := mxT_in (g := g) (s := s) (n := n) (x := j) j1 (by omega)
  omega
theorem FM.keep {g : Nat → Int} {s v : Int} {n a : Nat} (h : FM g s n v a) {z : Int} (hz : g (n + 1) = z) (hge : ¬ v < z) : FM g s (n + 1) v a := by
  obtain ⟨h1, h2⟩ := h
  subst hz
  refine ⟨by rw [mxT_succ]; omega, ?_⟩
  rcases h2 with h2 | ⟨a1, a2, a3, a4, a5⟩
  · exact .inl h2
  · exact .inr ⟨a1, a2, by omega, a4, a5⟩
/-- Half of the places will do where the others say the same. -/
theorem mxT_half {g : Nat → Int} {s : Int} {N : Nat} (hs : ∀ x, 1 ≤ x → x < N → g x = g (N - x)) : mxT g s (N / 2) = mxT g s (N - 1) := by
  apply Int.le_antisymm
  · exact mxT_le (mxT_ge g s _) fun x h1 h2 => mxT_in h1 (by omega)
  · refine mxT_le (mxT_ge g s _) fun x h1 h2 => ?_
    by_cases h : x ≤ N / 2
    · exact mxT_in h1 h
    · rw [hs x h1 (by omega)]
      exact mxT_in (by omega) (by omega)
theorem fitT_pos (l : List Kd) (W H : Int) : ∀ n, 0 ≤ fitT l W H n
  | 0 => Int.le_refl _
  | n + 1 => by
    have := fitT_pos l W H n
    rw [fitT]
    omega
/-- The first kind that fits with the greatest value of the first n ones, or the mark of waste. -/
def FK (l : List Kd) (W H : Int) (n : Nat) (v : Int) (mk : List UInt8) : Prop :=
  v = fitT l W H n ∧ ((v = 0 ∧ mk = [46]) ∨ (0 < v ∧ ∃ k x, k < n ∧ l[k]? = some x ∧ x.w ≤ W ∧ x.h ≤ H ∧ x.v = v ∧ mk = [ltr k] ∧ ∀ j y, j < k → l[j]? = some y → y.w ≤ W → y.h ≤ H → y.v < v))
theorem FK.start (l : List Kd) (W H : Int) : FK l W H 0 0 [46] := ⟨rfl, .inl ⟨rfl, rfl⟩⟩
theorem FK.up {l : List Kd} {W H v : Int} {n : Nat} {mk : List UInt8} (h : FK l W H n v mk) {x : Kd} (hx : l[n]? = some x) (h1 : x.w ≤ W) (h2 : x.h ≤ H) (h3 : v < x.v) : FK l W H (n + 1) x.v [ltr n] := by
  obtain ⟨e1, e2⟩ := h
  have hp := fitT_pos l W H n
  have hf : fitV W H x = x.v := by unfold fitV; rw [if_pos ⟨h1, h2⟩]
  refine ⟨by rw [fitT_next hx, hf]; omega, .inr ⟨by omega, n, x, by omega, hx, h1, h2, rfl, rfl, fun j y hj hy g1 g2 => ?_⟩⟩
  have hl := (List.getElem?_eq_some_iff.1 hx).1
  have := fitT_in (W := W) (H := H) hy n hj (by omega)
  have hg : fitV W H y = y.v := by unfold fitV; rw [if_pos ⟨g1, g2⟩]
  omega
theorem FK.keep {l : List Kd} {W H v : Int} {n : Nat} {mk : List UInt8} (h : FK l W H n v mk) {x : Kd} (hx : l[n]? = some x) (h3 : ¬ (x.w ≤ W ∧ x.h ≤ H ∧ v < x.v)) : FK l W H (n + 1) v mk := by
  obtain ⟨e1, e2⟩ := h
  have hp := fitT_pos l W H n
  refine ⟨?_, ?_⟩
  · rw [fitT_next hx]
    by_cases hq : x.w ≤ W ∧ x.h ≤ H
    · have hf : fitV W H x = x.v := by unfold fitV; rw [if_pos hq]
      have : ¬ v < x.v := fun h => h3 ⟨hq.1, hq.2, h⟩
      omega
    · have hf : fitV W H x = 0 := by unfold fitV; rw [if_neg hq]
      omega
  · rcases e2 with e2 | ⟨a1, k, y, a2, a3⟩
    · exact .inl e2
    · exact .inr ⟨a1, k, y, by omega, a3⟩
abbrev gX (l : List Kd) (W H : Nat) : Nat → Int := fun x => V l x H + V l (W - x) H
abbrev gY (l : List Kd) (W H : Nat) : Nat → Int := fun y => V l W y + V l W (H - y)
/-- Behind the cuts | up to n; behind the cuts - up to n. -/
def SX (l : List Kd) (W H n : Nat) (mk : List UInt8) (a : Nat) (v : Int) : Prop := ∃ v1 m1, FK l W H l.length v1 m1 ∧ FM (gX l W H) v1 n v a ∧ (a = 0 → mk = m1)
def SY (l : List Kd) (W H n : Nat) (mk : List UInt8) (ac : Bool) (a : Nat) (v : Int) : Prop :=
  ∃ v2 m2 a2 a3, SX l W H (W / 2) m2 a2 v2 ∧ FM (gY l W H) v2 n v a3 ∧ ((a3 = 0 ∧ mk = m2 ∧ ac = false ∧ a = a2) ∨ (1 ≤ a3 ∧ ac = true ∧ a = a3))
theorem SX.start {l : List Kd} {W H : Nat} {v : Int} {mk : List UInt8} (h : FK l W H l.length v mk) : SX l W H 0 mk 0 v := ⟨v, mk, h, FM.start _ _, fun _ => rfl⟩
theorem SX.up {l : List Kd} {W H n a : Nat} {v z : Int} {mk : List UInt8} (h : SX l W H n mk a v) (hz : V l (n + 1) H + V l (W - (n + 1)) H = z) (hlt : v < z) (mk' : List UInt8) : SX l W H (n + 1) mk' (n + 1) z := by
  obtain ⟨v1, m1, h1, h2, h3⟩ := h
  exact ⟨v1, m1, h1, h2.up hz hlt, fun h => by omega⟩
theorem SX.keep {l : List Kd} {W H n a : Nat} {v z : Int} {mk : List UInt8} (h : SX l W H n mk a v) (hz : V l (n + 1) H + V l (W - (n + 1)) H = z) (hge : ¬ v < z) : SX l W H (n + 1) mk a v := by
  obtain ⟨v1, m1, h1, h2, h3⟩ := h
  exact ⟨v1, m1, h1, h2.keep hz hge, h3⟩
theorem SY.start {l : List Kd} {W H a : Nat} {v : Int} {mk : List UInt8} (h : SX l W H (W / 2) mk a v) : SY l W H 0 mk false a v := ⟨v, mk, a, 0, h, FM.start _ _, .inl ⟨rfl, rfl, rfl, rfl⟩⟩
theorem SY.up {l : List Kd} {W H n a : Nat} {v z : Int} {mk : List UInt8} {ac : Bool} (h : SY l W H n mk ac a v) (hz : V l W (n + 1) + V l W (H - (n + 1)) = z) (hlt : v < z) (mk' : List UInt8) : SY l W H (n + 1) mk' true (n + 1) z := by
  obtain ⟨v2, m2, a2, a3, h1, h2, h3⟩ := h
  exact ⟨v2, m2, a2, n + 1, h1, h2.up hz hlt, .inr ⟨by omega, rfl, rfl⟩⟩
theorem SY.keep {l : List Kd} {W H n a : Nat} {v z : Int} {mk : List UInt8} {ac : Bool} (h : SY l W H n mk ac a v) (hz : V l W (n + 1) + V l W (H - (n + 1)) = z) (hge : ¬ v < z) : SY l W H (n + 1) mk ac a v := by
  obtain ⟨v2, m2, a2, a3, h1, h2, h3⟩ := h
  exact ⟨v2, m2, a2, a3, h1, h2.keep hz hge, h3⟩
/-- The best usage of a sheet: its mark, where it is cut, its value. -/
def UsR (l : List Kd) (W H : Nat) (mk : List UInt8) (ac : Bool) (a : Nat) (v : Int) : Prop :=
  v = V l W H ∧ ((a = 0 ∧ BP l W H mk) ∨
    (v ≠ 0 ∧ (∀ j, ¬ hitK l W H j) ∧ ac = false ∧ 1 ≤ a ∧ a < W ∧ hitX l W H a ∧ ∀ j, 1 ≤ j → j < a → ¬ hitX l W H j) ∨
    (v ≠ 0 ∧ (∀ j, ¬ hitK l W H j) ∧ (∀ j, 1 ≤ j → j < W → ¬ hitX l W H j) ∧ ac = true ∧ 1 ≤ a ∧ a < H ∧ hitY l W H a ∧ ∀ j, 1 ≤ j → j < a → ¬ hitY l W H j))
theorem SY.all {l : List Kd} {W H a : Nat} {v : Int} {mk : List UInt8} {ac : Bool} (hW : 1 ≤ W) (hH : 1 ≤ H) (h : SY l W H (H / 2) mk ac a v) : UsR l W H mk ac a v := by
  obtain ⟨v2, m2, a2, a3, ⟨v1, m1, ⟨k1, k2⟩, ⟨x1, x2⟩, x3⟩, ⟨y1, y2⟩, h3⟩ := h
  have hz : ¬ (W = 0 ∨ H = 0) := by omega
  have sX : mxT (gX l W H) v1 (W / 2) = mxT (gX l W H) v1 (W - 1) := mxT_half fun x h1 h2 => by
    have e : W - (W - x) = x := by omega
    show V l x H + V l (W - x) H = V l (W - x) H + V l (W - (W - x)) H
    rw [e]
    omega
  have sY : mxT (gY l W H) v2 (H / 2) = mxT (gY l W H) v2 (H - 1) := mxT_half fun x h1 h2 => by
    have e : H - (H - x) = x := by omega
    show V l W x + V l W (H - x) = V l W (H - x) + V l W (H - (H - x))
    rw [e]
    omega
  rw [sX] at x1
  rw [sY] at y1
  have e2 : v2 = VX l W H (W - 1) := by rw [x1, k1]; rfl
  have ev : v = V l W H := by rw [V_eq l hz, y1, e2]; rfl
  have hv1 : 0 ≤ v1 := by rw [k1]; exact fitT_pos _ _ _ _
  have g12 : v1 ≤ v2 := by rw [x1]; exact mxT_ge _ _ _
  have g2v : v2 ≤ v := by rw [y1]; exact mxT_ge _ _ _
  have noK : v1 < v → ∀ j, ¬ hitK l W H j := fun hlt j ⟨x, hx, f1, f2, f3⟩ => by
    have hj := (List.getElem?_eq_some_iff.1 hx).1
    have := fitT_in (W := (W : Int)) (H := (H : Int)) hx l.length hj (Nat.le_refl _)
    have hf : fitV W H x = x.v := by unfold fitV; rw [if_pos ⟨f1, f2⟩]
    omega
  refine ⟨ev, ?_⟩
  rcases h3 with ⟨rfl, rfl, rfl, rfl⟩ | ⟨h3, rfl, rfl⟩
  · have e3 : v = v2 := by rcases y2 with ⟨y2, _⟩ | ⟨_, y2, _⟩ <;> omega
    rcases x2 with ⟨x2, rfl⟩ | ⟨x4, x5, x6, x7, x8⟩
    · left
      refine ⟨rfl, ?_⟩
      rw [x3 rfl]
      rcases k2 with ⟨k2, rfl⟩ | ⟨k2, k, x, k3, k4, k5, k6, k7, rfl, k9⟩
      · exact BP.dot W H (by omega)
      · refine BP.one W H k (by omega) ⟨x, k4, k5, k6, by omega⟩ fun j hj ⟨y, hy, f1, f2, f3⟩ => ?_
        have := k9 j y hj hy f1 f2
        omega
    · refine .inr (.inl ⟨by omega, noK (by omega), rfl, x5, by omega, ?_, fun j j1 j2 hj => ?_⟩)
      · show V l a H + V l (W - a) H = V l W H
        have : V l a H + V l (W - a) H = v2 := x7
        omega
      · have h9 : V l j H + V l (W - j) H < v2 := x8 j j1 j2
        unfold hitX at hj
        omega
  · rcases y2 with ⟨_, y2⟩ | ⟨y4, y5, y6, y7, y8⟩
    · omega
    · refine .inr (.inr ⟨by omega, noK (by omega), fun j j1 j2 hj => ?_, rfl, y5, by omega, ?_, fun j j1 j2 hj => ?_⟩)
      · have h9 : gX l W H j ≤ mxT (gX l W H) v1 (W - 1) := mxT_in j1 (by omega)
        unfold hitX at hj
        have h8 : gX l W H j = V l j H + V l (W - j) H := rfl
        omega
      · show V l W a + V l W (H - a) = V l W H
        have : V l W a + V l W (H - a) = v := y7
        omega
      · have h9 : V l W j + V l W (H - j) < v := y8 j j1 j2
        unfold hitY at hj
        omega
theorem UsR.one {l : List Kd} {W H : Nat} {mk : List UInt8} {ac : Bool} {v : Int} (h : UsR l W H mk ac 0 v) : BP l W H mk := by
  obtain ⟨_, ⟨_, h⟩ | ⟨_, _, _, h, _⟩ | ⟨_, _, _, _, h, _⟩⟩ := h
  · exact h
  · omega
  · omega
theorem UsR.ver {l : List Kd} {W H a : Nat} {mk : List UInt8} {v : Int} (h : UsR l W H mk false a v) (h0 : a ≠ 0) : (1 ≤ a ∧ a < W) ∧ ∀ s t, BP l a H s → BP l (W - a) H t → BP l W H (cutL 124 a s t) := by
  obtain ⟨rfl, ⟨h, _⟩ | ⟨h1, h2, _, h3, h4, h5, h6⟩ | ⟨_, _, _, h, _⟩⟩ := h
  · exact absurd h h0
  · exact ⟨⟨h3, h4⟩, fun s t hs ht => BP.ver W H a s t h1 h2 h3 h4 h5 h6 hs ht⟩
  · cases h
theorem UsR.hor {l : List Kd} {W H a : Nat} {mk : List UInt8} {v : Int} (h : UsR l W H mk true a v) (h0 : a ≠ 0) : (1 ≤ a ∧ a < H) ∧ ∀ s t, BP l W a s → BP l W (H - a) t → BP l W H (cutL 45 a s t) := by
  obtain ⟨rfl, ⟨h, _⟩ | ⟨_, _, h, _⟩ | ⟨h1, h2, hm, _, h3, h4, h5, h6⟩⟩ := h
  · exact absurd h h0
  · cases h
  · exact ⟨⟨h3, h4⟩, fun s t hs ht => BP.hor W H a s t h1 h2 hm h3 h4 h5 h6 hs ht⟩

/-- The text of a cut, ahead of a rest. -/
theorem cut_rest (c : UInt8) (x : Nat) (a b t : List UInt8) : cutL c x a b ++ t = c :: (Lib.decDigits x ++ 40 :: (a ++ 41 :: 40 :: (b ++ 41 :: t))) := by simp [cutL]
theorem cut_pre {c c' : UInt8} {x y : Nat} {a b a' b' t t' : List UInt8} (ha : Bal a) (hb : Bal b) (ha' : Bal a') (hb' : Bal b') (e : cutL c x a b ++ t = cutL c' y a' b' ++ t') : c = c' ∧ x = y ∧ a = a' ∧ b = b' ∧ t = t' := by
  rw [cut_rest, cut_rest] at e
  injection e with e1 e2
  obtain ⟨e3, e4⟩ := digits_same e2
  obtain ⟨e5, e6⟩ := bal_same ha ha' e4
  injection e6 with _ e7
  obtain ⟨e8, e9⟩ := bal_same hb hb' e7
  exact ⟨e1, e3, e5, e8, e9⟩
theorem ltr_ne {ks : List Kd} (hk : ks.length ≤ 6) {k : Nat} {x : Kd} (hx : ks[k]? = some x) : ltr k ≠ 46 ∧ ltr k ≠ 124 ∧ ltr k ≠ 45 := by
  have h1 := (List.getElem?_eq_some_iff.1 hx).1
  have h2 := ltr_nat (k := k) (by omega)
  refine ⟨fun e => ?_, fun e => ?_, fun e => ?_⟩
  · rw [e] at h2; have : (46 : UInt8).toNat = 46 := rfl; omega
  · rw [e] at h2; have : (124 : UInt8).toNat = 124 := rfl; omega
  · rw [e] at h2; have : (45 : UInt8).toNat = 45 := rfl; omega
/-- How a plan's text begins. -/
theorem PL.heads {ks : List Kd} (hk : ks.length ≤ 6) {W H : Nat} {s : List UInt8} {p : List Nat} (h : PL ks W H s p) :
    (s = [46] ∧ p = []) ∨ (∃ k x, ks[k]? = some x ∧ x.w ≤ (W : Int) ∧ x.h ≤ (H : Int) ∧ s = [ltr k] ∧ p = [k]) ∨
    (∃ x a b p1 p2, s = cutL 124 x a b ∧ 1 ≤ x ∧ x < W ∧ PL ks x H a p1 ∧ PL ks (W - x) H b p2 ∧ p = p1 ++ p2) ∨
    (∃ x a b p1 p2, s = cutL 45 x a b ∧ 1 ≤ x ∧ x < H ∧ PL ks W x a p1 ∧ PL ks W (H - x) b p2 ∧ p = p1 ++ p2) := by
  cases h with
  | dot => exact .inl ⟨rfl, rfl⟩
  | one _ _ k x hx hw hh => exact .inr (.inl ⟨k, x, hx, hw, hh, rfl, rfl⟩)
  | ver _ _ x a b p q h1 h2 ha hb => exact .inr (.inr (.inl ⟨x, a, b, p, q, rfl, h1, h2, ha, hb, rfl⟩))
  | hor _ _ x a b p q h1 h2 ha hb => exact .inr (.inr (.inr ⟨x, a, b, p, q, rfl, h1, h2, ha, hb, rfl⟩))
/-- No plan is the beginning of another one. -/
theorem PL.pre {ks : List Kd} (hk : ks.length ≤ 6) {W H : Nat} {s s' t t' : List UInt8} {p p' : List Nat} (h : PL ks W H s p) (h' : PL ks W H s' p') (e : s ++ t = s' ++ t') : s = s' ∧ t = t' := by
  rcases h.heads hk with ⟨rfl, _⟩ | ⟨k, x, hx, _, _, rfl, _⟩ | ⟨x, a, b, p1, p2, rfl, _, _, ha, hb, _⟩ | ⟨x, a, b, p1, p2, rfl, _, _, ha, hb, _⟩ <;>
  rcases h'.heads hk with ⟨rfl, _⟩ | ⟨k', x', hx', _, _, rfl, _⟩ | ⟨x', a', b', p1', p2', rfl, _, _, ha', hb', _⟩ | ⟨x', a', b', p1', p2', rfl, _, _, ha', hb', _⟩
  all_goals first
    | (have := ltr_ne hk hx; have := ltr_ne hk hx'; injection e with e1 e2; exact ⟨by rw [e1], e2⟩)
    | (have hne := ltr_ne hk hx; (try simp only [cut_rest] at e); injection e with e1 e2; first | exact absurd e1 hne.1 | exact absurd e1 hne.2.1 | exact absurd e1 hne.2.2)
    | (have hne := ltr_ne hk hx'; (try simp only [cut_rest] at e); injection e with e1 e2; first | exact absurd e1.symm hne.1 | exact absurd e1.symm hne.2.1 | exact absurd e1.symm hne.2.2)
    | (obtain ⟨h1, h2, h3, h4, h5⟩ := cut_pre (ha.bal hk) (hb.bal hk) (ha'.bal hk) (hb'.bal hk) e; first | exact absurd h1 (by decide) | exact ⟨by rw [h2, h3, h4], h5⟩)
    | (injection e with e1 e2; exact ⟨rfl, e2⟩)
    | ((try simp only [cut_rest] at e); injection e with e1 e2; exact absurd e1 (by decide))
end Bc
end Go.Proofs.YtbhofhobnbhhhaaDoor
