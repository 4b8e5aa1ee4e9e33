/- Mathematics of chapter 12: the texts of plans, their pieces, their values. -/
import Derived.Test.YtbhofhobnbhhhaaDoorBcCl
import Derived.Test.YtbhofhobnbhhhaaDoorBcTab
import Derived.Test.YtbhofhobnbhhhaaDoorReadMath
namespace Go.Proofs.YtbhofhobnbhhhaaDoor
open Go.RowKit
set_option linter.unusedVariables false
namespace Bc
/-- A letter. -/
def ltr (k : Nat) : UInt8 := UInt8.ofNat (97 + k)
/-- The text of a cut: its sign, its number, the plans of both parts. -/
def cutL (c : UInt8) (x : Nat) (a b : List UInt8) : List UInt8 := c :: (Lib.decDigits x ++ 40 :: (a ++ 41 :: 40 :: (b ++ [41])))
/-- Plans of a sheet, with the kinds of their pieces. -/
inductive PL (ks : List Kd) : Nat → Nat → List UInt8 → List Nat → Prop
  | dot (W H : Nat) : PL ks W H [46] []
  | one (W H k : Nat) (x : Kd) (hx : ks[k]? = some x) (hw : x.w ≤ (W : Int)) (hh : x.h ≤ (H : Int)) : PL ks W H [ltr k] [k]
  | ver (W H x : Nat) (a b : List UInt8) (p q : List Nat) (h1 : 1 ≤ x) (h2 : x < W) (ha : PL ks x H a p) (hb : PL ks (W - x) H b q) : PL ks W H (cutL 124 x a b) (p ++ q)
  | hor (W H y : Nat) (a b : List UInt8) (p q : List Nat) (h1 : 1 ≤ y) (h2 : y < H) (ha : PL ks W y a p) (hb : PL ks W (H - y) b q) : PL ks W H (cutL 45 y a b) (p ++ q)

/-- A text that a search for a closing bracket runs over. -/
def Bal (a : List UInt8) : Prop := ∀ (r : List UInt8) (k : Nat) (d : Int), 1 ≤ d → closeF (a ++ r) k d = closeF r (k + a.length) d
theorem dep_other {c : UInt8} (h1 : c.toNat ≠ 40) (h2 : c.toNat ≠ 41) (d : Int) : dep c.toNat d = d := by unfold dep; rw [if_neg h1, if_neg h2]
theorem Bal.nil : Bal [] := fun r k d _ => rfl
theorem closeF_cons (c : UInt8) (l : List UInt8) (k : Nat) (d : Int) : closeF (c :: l) k d = if dep c.toNat d = 0 then (k : Int) else closeF l (k + 1) (dep c.toNat d) := rfl
theorem Bal.cons {c : UInt8} {a : List UInt8} (h1 : c.toNat ≠ 40) (h2 : c.toNat ≠ 41) (h : Bal a) : Bal (c :: a) := by
  intro r k d hd
  rw [List.cons_append, closeF_cons, dep_other h1 h2, if_neg (by omega), h r (k + 1) d hd]
  simp only [List.length_cons]
  congr 1
  omega
theorem Bal.append {a b : List UInt8} (ha : Bal a) (hb : Bal b) : Bal (a ++ b) := by
  intro r k d hd
  rw [List.append_assoc, ha _ _ _ hd, hb _ _ _ hd, List.length_append]
  congr 1
  omega
theorem Bal.round {a : List UInt8} (h : Bal a) : Bal (40 :: (a ++ [41])) := by
  intro r k d hd
  have e : 40 :: (a ++ [41]) ++ r = 40 :: (a ++ 41 :: r) := by simp
  have h1 : dep (40 : UInt8).toNat d = d + 1 := rfl
  have h2 : dep (41 : UInt8).toNat (d + 1) = d := by show d + 1 - 1 = d; omega
  rw [e, closeF_cons, h1, if_neg (by omega), h _ _ _ (by omega), closeF_cons, h2, if_neg (by omega)]
  congr 1
  simp only [List.length_cons, List.length_append, List.length_nil]
  omega
theorem Bal.digits (x : Nat) : Bal (Lib.decDigits x) := by
  have h : ∀ l : List UInt8, (∀ c ∈ l, isDig c) → Bal l := by
    intro l
    induction l with
    | nil => intro _; exact Bal.nil
    | cons c l ih =>
      intro hl
      have hc := hl c (by simp)
      unfold isDig at hc
      exact Bal.cons (by omega) (by omega) (ih fun y hy => hl y (by simp [hy]))
  exact h _ (decDigits_digs x)
theorem cutL_eq (c : UInt8) (x : Nat) (a b : List UInt8) : cutL c x a b = c :: (Lib.decDigits x ++ (40 :: (a ++ [41]) ++ (40 :: (b ++ [41])))) := by simp [cutL]
theorem Bal.cut {c : UInt8} {a b : List UInt8} (h1 : c.toNat ≠ 40) (h2 : c.toNat ≠ 41) (x : Nat) (ha : Bal a) (hb : Bal b) : Bal (cutL c x a b) := by
  rw [cutL_eq]
  exact Bal.cons h1 h2 ((Bal.digits x).append (ha.round.append hb.round))
theorem ltr_nat {k : Nat} (h : k < 6) : (ltr k).toNat = 97 + k := by
  unfold ltr
  simp only [UInt8.toNat_ofNat']
  omega
theorem PL.bal {ks : List Kd} (hk : ks.length ≤ 6) {W H : Nat} {s : List UInt8} {p : List Nat} (h : PL ks W H s p) : Bal s := by
  induction h with
  | dot W H => exact Bal.cons (by decide) (by decide) Bal.nil
  | one W H k x hx hw hh =>
    have h1 := (List.getElem?_eq_some_iff.1 hx).1
    have h2 := ltr_nat (k := k) (by omega)
    exact Bal.cons (by omega) (by omega) Bal.nil
  | ver W H x a b p q h1 h2 ha hb iha ihb => exact Bal.cut (by decide) (by decide) x iha ihb
  | hor W H y a b p q h1 h2 ha hb iha ihb => exact Bal.cut (by decide) (by decide) y iha ihb

/-- Where a search for a closing bracket ends, one stands. -/
theorem closeF_hit {l : List UInt8} : ∀ {k : Nat} {d e : Int}, closeF l k d = e → 1 ≤ d → 0 ≤ e → ∃ j : Nat, e = ((k + j : Nat) : Int) ∧ l[j]? = some 41 := by
  induction l with
  | nil => intro k d e h hd he; unfold closeF at h; omega
  | cons c l ih =>
    intro k d e h hd he
    rw [closeF_cons] at h
    by_cases h0 : dep c.toNat d = 0
    · rw [if_pos h0] at h
      have h41 : c.toNat = 41 := by
        unfold dep at h0
        split at h0
        · omega
        · split at h0
          · assumption
          · omega
      have hc : c = 41 := by
        apply UInt8.toNat_inj.1
        rw [h41]
        rfl
      exact ⟨0, by rw [Nat.add_zero]; exact h.symm, by rw [hc]; rfl⟩
    · rw [if_neg h0] at h
      have hd2 : 1 ≤ dep c.toNat d := by
        unfold dep at h0 ⊢
        split at h0
        · rename_i h1; rw [if_pos h1]; omega
        · rename_i h1
          rw [if_neg h1]
          split at h0
          · rename_i h2; rw [if_pos h2]; omega
          · rename_i h2; rw [if_neg h2]; omega
      obtain ⟨j, hj, hc⟩ := ih h hd2 he
      exact ⟨j + 1, by rw [hj]; congr 1; omega, by simpa using hc⟩
/-- What stands in brackets, both found by their search, is one thing alone. -/
theorem close_round {a r : List UInt8} (h : Bal a) (k : Nat) : closeF (40 :: (a ++ 41 :: r)) k 0 = ((k + 1 + a.length : Nat) : Int) := by
  have h1 : dep (40 : UInt8).toNat 0 = 1 := rfl
  have h2 : dep (41 : UInt8).toNat 1 = 0 := rfl
  rw [closeF_cons, h1, if_neg (by omega), h _ _ _ (by omega), closeF_cons, h2, if_pos rfl]
theorem bal_same {a a' r r' : List UInt8} (h : Bal a) (h' : Bal a') (e : a ++ 41 :: r = a' ++ 41 :: r') : a = a' ∧ r = r' := by
  have h1 := close_round (r := r) h 0
  have h2 := close_round (r := r') h' 0
  rw [e] at h1
  rw [h1] at h2
  have hl : a.length = a'.length := by omega
  obtain ⟨e1, e2⟩ := List.append_inj e hl
  exact ⟨e1, by injection e2⟩
theorem digits_same {x y : Nat} {r r' : List UInt8} (e : Lib.decDigits x ++ 40 :: r = Lib.decDigits y ++ 40 :: r') : x = y ∧ r = r' := by
  have hn : ∀ n, (40 : UInt8) ∉ Lib.decDigits n := fun n hm => by
    have := decDigits_digs n _ hm
    unfold isDig at this
    exact absurd this.1 (by decide)
  obtain ⟨e1, e2⟩ := part_eq (hn x) (hn y) e
  refine ⟨?_, e2⟩
  have h := congrArg val e1
  rwa [val_decDigits, val_decDigits] at h
theorem cut_same {c c' : UInt8} {x y : Nat} {a b a' b' : List UInt8} (ha : Bal a) (hb : Bal b) (ha' : Bal a') (hb' : Bal b') (e : cutL c x a b = cutL c' y a' b') : c = c' ∧ x = y ∧ a = a' ∧ b = b' := by
  unfold cutL at e
  injection e with e1 e2
  obtain ⟨e3, e4⟩ := digits_same e2
  obtain ⟨e5, e6⟩ := bal_same ha ha' e4
  injection e6 with _ e7
  obtain ⟨e8, _⟩ := bal_same hb hb' (r := []) (r' := []) e7
  exact ⟨e1, e3, e5, e8⟩
theorem cut_long (c : UInt8) (x : Nat) (a b : List UInt8) : 2 ≤ (cutL c x a b).length := by
  unfold cutL
  simp only [List.length_cons, List.length_append]
  omega
theorem cut_head (c : UInt8) (x : Nat) (a b : List UInt8) : (cutL c x a b)[0]? = some c := rfl
/-- A plan's pieces are its own. -/
theorem PL.same {ks : List Kd} (hk : ks.length ≤ 6) {W H : Nat} {s : List UInt8} {p : List Nat} (h : PL ks W H s p) : ∀ {q : List Nat}, PL ks W H s q → p = q := by
  induction h with
  | dot W H =>
    intro q hq
    generalize hs : ([46] : List UInt8) = s at hq
    cases hq with
    | dot => rfl
    | one _ _ k x hx hw hh =>
      have h1 := (List.getElem?_eq_some_iff.1 hx).1
      have h2 := ltr_nat (k := k) (by omega)
      injection hs with hs _
      rw [← hs] at h2
      have h3 : (46 : UInt8).toNat = 46 := rfl
      omega
    | ver _ _ x a b => have := cut_long 124 x a b; rw [← hs] at this; simp at this
    | hor _ _ x a b => have := cut_long 45 x a b; rw [← hs] at this; simp at this
  | one W H k x hx hw hh =>
    intro q hq
    have h1 := (List.getElem?_eq_some_iff.1 hx).1
    have h2 := ltr_nat (k := k) (by omega)
    generalize hs : ([ltr k] : List UInt8) = s at hq
    cases hq with
    | dot =>
      injection hs with hs _
      rw [hs] at h2
      have h3 : (46 : UInt8).toNat = 46 := rfl
      omega
    | one _ _ k2 x2 hx2 hw2 hh2 =>
      have h3 := (List.getElem?_eq_some_iff.1 hx2).1
      have h4 := ltr_nat (k := k2) (by omega)
      injection hs with hs _
      rw [hs] at h2
      have : k = k2 := by omega
      rw [this]
    | ver _ _ x a b => have := cut_long 124 x a b; rw [← hs] at this; simp at this
    | hor _ _ x a b => have := cut_long 45 x a b; rw [← hs] at this; simp at this
  | ver W H x a b p1 q1 h1 h2 ha hb iha ihb =>
    intro q hq
    have hbal := (ha.bal hk)
    have hbal2 := (hb.bal hk)
    generalize hs : cutL 124 x a b = s at hq
    cases hq with
    | dot => have := cut_long 124 x a b; rw [hs] at this; simp at this
    | one _ _ k2 => have := cut_long 124 x a b; rw [hs] at this; simp at this
    | ver _ _ x2 a2 b2 p2 q2 _ _ ha2 hb2 =>
      obtain ⟨_, e1, e2, e3⟩ := cut_same hbal hbal2 (ha2.bal hk) (hb2.bal hk) hs
      subst e1 e2 e3
      rw [iha ha2, ihb hb2]
    | hor _ _ x2 a2 b2 p2 q2 _ _ ha2 hb2 =>
      obtain ⟨e0, _⟩ := cut_same hbal hbal2 (ha2.bal hk) (hb2.bal hk) hs
      exact absurd e0 (by decide)
  | hor W H x a b p1 q1 h1 h2 ha hb iha ihb =>
    intro q hq
    have hbal := (ha.bal hk)
    have hbal2 := (hb.bal hk)
    generalize hs : cutL 45 x a b = s at hq
    cases hq with
    | dot => have := cut_long 45 x a b; rw [hs] at this; simp at this
    | one _ _ k2 => have := cut_long 45 x a b; rw [hs] at this; simp at this
    | ver _ _ x2 a2 b2 p2 q2 _ _ ha2 hb2 =>
      obtain ⟨e0, _⟩ := cut_same hbal hbal2 (ha2.bal hk) (hb2.bal hk) hs
      exact absurd e0 (by decide)
    | hor _ _ x2 a2 b2 p2 q2 _ _ ha2 hb2 =>
      obtain ⟨_, e1, e2, e3⟩ := cut_same hbal hbal2 (ha2.bal hk) (hb2.bal hk) hs
      subst e1 e2 e3
      rw [iha ha2, ihb hb2]

/-- What the pieces are worth. -/
def worth (ks : List Kd) (p : List Nat) : Int := (p.map fun k => (ks.getD k Kd.zero).v).foldr (· + ·) 0
def area (ks : List Kd) (p : List Nat) : Int := (p.map fun k => (ks.getD k Kd.zero).w * (ks.getD k Kd.zero).h).foldr (· + ·) 0
theorem foldr_add (l : List Int) (a : Int) : l.foldr (· + ·) a = l.foldr (· + ·) 0 + a := by
  induction l with
  | nil => simp
  | cons x l ih => simp only [List.foldr_cons, ih]; omega
theorem worth_append (ks : List Kd) (p q : List Nat) : worth ks (p ++ q) = worth ks p + worth ks q := by
  unfold worth
  rw [List.map_append, List.foldr_append, foldr_add]
theorem area_append (ks : List Kd) (p q : List Nat) : area ks (p ++ q) = area ks p + area ks q := by
  unfold area
  rw [List.map_append, List.foldr_append, foldr_add]
theorem fitT_in {ks : List Kd} {W H : Int} {k : Nat} {x : Kd} (hx : ks[k]? = some x) : ∀ n, k < n → n ≤ ks.length → fitV W H x ≤ fitT ks W H n
  | 0, h, _ => by omega
  | n + 1, h, hn => by
    rcases Nat.lt_or_ge k n with h1 | h1
    · have := fitT_in (W := W) (H := H) hx n h1 (by omega)
      unfold fitT
      omega
    · obtain rfl : k = n := by omega
      rw [fitT_next hx]
      omega
theorem VX_le {ks : List Kd} {W H : Nat} (h : ¬ (W = 0 ∨ H = 0)) : VX ks W H (W - 1) ≤ V ks W H := by
  rw [V_eq ks h]
  exact mxT_ge _ _ _
theorem V_fit {ks : List Kd} {W H : Nat} (h : ¬ (W = 0 ∨ H = 0)) : fitT ks W H ks.length ≤ V ks W H :=
  Int.le_trans (mxT_ge _ _ _) (VX_le h)
theorem V_ver {ks : List Kd} {W H x : Nat} (h : ¬ (W = 0 ∨ H = 0)) (h1 : 1 ≤ x) (h2 : x < W) : V ks x H + V ks (W - x) H ≤ V ks W H :=
  Int.le_trans (mxT_in (g := fun x => V ks x H + V ks (W - x) H) h1 (by omega)) (VX_le h)
theorem V_hor {ks : List Kd} {W H y : Nat} (h : ¬ (W = 0 ∨ H = 0)) (h1 : 1 ≤ y) (h2 : y < H) : V ks W y + V ks W (H - y) ≤ V ks W H := by
  rw [V_eq ks h]
  exact mxT_in (g := fun y => V ks W y + V ks W (H - y)) h1 (by omega)
/-- No plan is worth more than the best value; its pieces have room. -/
theorem PL.facts {ks : List Kd} (hl : ∀ k ∈ ks, okK k = true) {W H : Nat} {s : List UInt8} {p : List Nat} (h : PL ks W H s p) : 1 ≤ W → 1 ≤ H →
    (0 ≤ worth ks p ∧ worth ks p ≤ V ks W H) ∧ (0 ≤ area ks p ∧ area ks p ≤ (W : Int) * H) ∧ p.length ≤ W * H ∧ (∀ k ∈ p, k < ks.length) := by
  induction h with
  | dot W H =>
    intro hW hH
    have h1 := (V_bd hl (W + H) W H (Nat.le_refl _)).1
    have h2 : (0 : Int) ≤ (W : Int) * H := Int.mul_nonneg (by omega) (by omega)
    exact ⟨⟨Int.le_refl _, h1⟩, ⟨Int.le_refl _, h2⟩, Nat.zero_le _, by simp⟩
  | one W H k x hx hw hh =>
    intro hW hH
    have hk := okK_iff.1 (hl x (List.mem_of_getElem? hx))
    have hlt := (List.getElem?_eq_some_iff.1 hx).1
    have h1 := fitT_in (W := W) (H := H) hx ks.length hlt (Nat.le_refl _)
    have h2 := V_fit (ks := ks) (W := W) (H := H) (by omega)
    have h3 : fitV W H x = x.v := by unfold fitV; rw [if_pos ⟨hw, hh⟩]
    have e1 : worth ks [k] = x.v := by unfold worth; simp only [List.map_cons, List.map_nil, List.foldr_cons, List.foldr_nil]; rw [getD_some hx]; omega
    have e2 : area ks [k] = x.w * x.h := by unfold area; simp only [List.map_cons, List.map_nil, List.foldr_cons, List.foldr_nil]; rw [getD_some hx]; omega
    rw [e1, e2]
    refine ⟨⟨by omega, by omega⟩, ⟨Int.mul_nonneg (by omega) (by omega), Int.mul_le_mul hw hh (by omega) (by omega)⟩, ?_, by simpa using hlt⟩
    show 1 ≤ W * H
    exact Nat.mul_le_mul hW hH
  | ver W H x a b p q h1 h2 ha hb iha ihb =>
    intro hW hH
    obtain ⟨⟨a1, a2⟩, ⟨a3, a4⟩, a5, a6⟩ := iha h1 hH
    obtain ⟨⟨b1, b2⟩, ⟨b3, b4⟩, b5, b6⟩ := ihb (by omega) hH
    have h3 := V_ver (ks := ks) (W := W) (H := H) (by omega) h1 h2
    have h4 := mul_split 1 x W H (by omega)
    have h5 : x * H + (W - x) * H = W * H := by rw [← Nat.add_mul]; congr 1; omega
    rw [worth_append, area_append, List.length_append]
    refine ⟨by omega, by omega, by omega, fun k hk => ?_⟩
    rcases List.mem_append.1 hk with hk | hk
    · exact a6 k hk
    · exact b6 k hk
  | hor W H x a b p q h1 h2 ha hb iha ihb =>
    intro hW hH
    obtain ⟨⟨a1, a2⟩, ⟨a3, a4⟩, a5, a6⟩ := iha hW h1
    obtain ⟨⟨b1, b2⟩, ⟨b3, b4⟩, b5, b6⟩ := ihb hW (by omega)
    have h3 := V_hor (ks := ks) (W := W) (H := H) (by omega) h1 h2
    have h4 := mul_split' 1 x W H (by omega)
    have h5 : W * x + W * (H - x) = W * H := by rw [← Nat.mul_add]; congr 1; omega
    rw [worth_append, area_append, List.length_append]
    refine ⟨by omega, by omega, by omega, fun k hk => ?_⟩
    rcases List.mem_append.1 hk with hk | hk
    · exact a6 k hk
    · exact b6 k hk
end Bc
end Go.Proofs.YtbhofhobnbhhhaaDoor
