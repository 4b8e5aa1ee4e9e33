/- 'copy' onto a row of one's own, a row turned round, a form stored whole. -/
import Derived.Test.YtfiefjbipjalpaaFmEm
import Derived.Laws.CopyOwn
import Derived.BigRegion
namespace Go.Proofs.Ytfiefjbipjalpaa
open Go.RowKit

/-- 'copy(own, list)' of two slices of one length. -/
theorem wp_copy {P : Program} {α : Type} {enc : α → Value} {w : World} {ops : Array Oper} {rest : List Oper} {o : Oper} {a : Act} {Q : Exit → Act → World → Prop} (hgd : o.guard = none) (d s : Operand) (t : TypeId)
    (ho : o.op = .call { callee := .builtin .copy, args := #[d, s], argTypes := #[t, t] }) (e : TypeId) (hu : P.underlying t = some (.slice e)) (hsz : (P.info? e).map (·.size) = some 1)
    (g n lo hi B : Nat) (A : Option Addr) (c : Nat) (l0 l : List α) (hd : a.eval d = .slice (some ⟨g, 0, none⟩) n n) (hs : a.eval s = .slice A n c)
    (hown : Own enc w lo hi e (.slice (some ⟨g, 0, none⟩) n n) l0) (hr : Rd enc w B A n l) (h1 : ∀ x, (enc x).oneCell' = true)
    (h : ∀ w', Own enc w' lo hi e (.slice (some ⟨g, 0, none⟩) n n) l → Only lo hi w w' → wpList P ops Q rest (a.put o.dst (.int .i64 (n : Int))) w') : wpList P ops Q (o :: rest) a w := by
  have hl0 : l0.length = n := hown.rd.1
  have hl : l.length = n := hr.1
  rcases Nat.eq_zero_or_pos n with h0 | hp
  · subst h0
    refine wpList_copy_nothing hgd d s t t ho e hu hsz _ A 0 0 0 c hd hs (by simp) ?_
    obtain rfl := List.eq_nil_of_length_eq_zero hl0
    obtain rfl := List.eq_nil_of_length_eq_zero hl
    exact h w hown (Only.refl _ _ _)
  · obtain ⟨b, off, rfl, hb, hc⟩ := hr.2 hp
    have hlt := hown.lt g rfl
    rcases hown.1.2 with ⟨_, hz⟩ | ⟨g', cap, cur, hv, hlo, hg, hnc, hcm, hcs, htk⟩
    · omega
    · injection hv with hv1 hv2 hv3
      injection hv1 with hv1
      injection hv1 with hv1 _ _
      subst hv1
      have hcap : cap = n := hv3.symm
      subst hcap
      have hcsz : cur.size = cap := by simpa using hcs
      refine wpList_copy_own hgd d s t t ho e hu hsz g 0 cap cap ⟨b, off, none⟩ cap c hd hs cur e hg (l.map enc) (by simp [hl]) (fun j v hj => ?_) (by simp [hl, hcsz]) (fun v hv => by obtain ⟨x, _, rfl⟩ := List.mem_map.1 hv; exact h1 x) ?_
      · rw [List.getElem?_map] at hj
        obtain ⟨x, hx, rfl⟩ := Option.map_eq_some_iff.1 hj
        rw [addr_plain]
        exact hc j x hx
      · have hrow : (cur.toList.take 0 ++ (l.map enc ++ cur.toList.drop (0 + (l.map enc).length))).toArray = (l.map enc).toArray := by
          rw [List.take_zero, List.nil_append, List.drop_of_length_le (by simp [hl, hcsz]), List.append_nil]
        rw [hrow, List.length_map, hl]
        refine h _ ⟨⟨by simp, .inr ⟨g, cap, (l.map enc).toArray, by rw [hl], hlo, setRow_heap w g cur _ e _ hg, by omega, hcm, by simp [hl], by simp [hl]; exact List.take_of_length_le (by simp [hl])⟩⟩, fun k hk => ?_⟩ ⟨rfl, rfl, rfl, by simp [World.setRow], fun k _ hk => setRow_other w g k _ (by omega)⟩
        simp only [Value.ownBlock, Option.some.injEq] at hk
        omega

/-- The list with its first k and its last k places exchanged. -/
def rvTo (l : List Int) (k : Nat) : List Int := (List.range l.length).map fun j => if j < k ∨ l.length ≤ j + k then l.getD (l.length - 1 - j) 0 else l.getD j 0
theorem rvTo_len (l : List Int) (k : Nat) : (rvTo l k).length = l.length := by simp [rvTo]
theorem rvTo_get (l : List Int) (k j : Nat) (hj : j < l.length) : (rvTo l k)[j]? = some (if j < k ∨ l.length ≤ j + k then l.getD (l.length - 1 - j) 0 else l.getD j 0) := by
  simp [rvTo, hj]
theorem rvTo_zero (l : List Int) : rvTo l 0 = l := by
  apply List.ext_getElem?
  intro j
  by_cases hj : j < l.length
  · rw [rvTo_get l 0 j hj, if_neg (by omega), List.getElem?_eq_getElem hj, List.getD_eq_getElem?_getD, List.getElem?_eq_getElem hj]
    rfl
  · rw [List.getElem?_eq_none (by rw [rvTo_len]; omega), List.getElem?_eq_none (by omega)]
theorem rvTo_end (l : List Int) (k : Nat) (h : l.length ≤ 2 * k + 1) : rvTo l k = l.reverse := by
  apply List.ext_getElem?
  intro j
  by_cases hj : j < l.length
  · rw [rvTo_get l k j hj, List.getElem?_reverse hj, List.getElem?_eq_getElem (show l.length - 1 - j < l.length by omega)]
    by_cases hc : j < k ∨ l.length ≤ j + k
    · rw [if_pos hc, List.getD_eq_getElem?_getD, List.getElem?_eq_getElem (show l.length - 1 - j < l.length by omega)]
      rfl
    · have hm : l.length - 1 - j = j := by omega
      rw [if_neg hc, List.getD_eq_getElem?_getD, List.getElem?_eq_getElem hj]
      simp [hm]
  · rw [List.getElem?_eq_none (by rw [rvTo_len]; omega), List.getElem?_eq_none (by rw [List.length_reverse]; omega)]
theorem rvTo_step (l : List Int) (k i : Nat) (h : k < i) (hi : i + k + 1 = l.length) (x y : Int) (hx : (rvTo l k)[k]? = some x) (hy : (rvTo l k)[i]? = some y) :
    ((rvTo l k).set k y).set i x = rvTo l (k + 1) := by
  rw [rvTo_get l k k (by omega), if_neg (by omega)] at hx
  rw [rvTo_get l k i (by omega), if_neg (by omega)] at hy
  injection hx with hx
  injection hy with hy
  apply List.ext_getElem?
  intro j
  by_cases hj : j < l.length
  · rw [rvTo_get l (k + 1) j hj, List.getElem?_set, List.getElem?_set, List.length_set, rvTo_len]
    by_cases h1 : i = j
    · subst h1
      rw [if_pos rfl, if_pos hj, if_pos (by omega), ← hx, show l.length - 1 - i = k by omega]
    · rw [if_neg h1]
      by_cases h2 : k = j
      · subst h2
        rw [if_pos rfl, if_pos hj, if_pos (by omega), ← hy, show l.length - 1 - k = i by omega]
      · rw [if_neg h2, rvTo_get l k j hj]
        by_cases h3 : j < k ∨ l.length ≤ j + k
        · rw [if_pos h3, if_pos (by omega)]
        · rw [if_neg h3, if_neg (by omega)]
  · rw [List.getElem?_eq_none (by simp only [List.length_set, rvTo_len]; omega), List.getElem?_eq_none (by rw [rvTo_len]; omega)]


/-- A whole form is stored into block g. -/
abbrev put5w (w : World) (g : Nat) (f : Fv) : World :=
  ((((w.setCell ⟨g, 0, none⟩ (.int .i64 f.a)).setCell ⟨g, 1, none⟩ (.int .i64 f.b)).setCell ⟨g, 2, none⟩ (.slice f.A1 f.n1 f.c1)).setCell ⟨g, 3, none⟩ (.slice f.A2 f.n2 f.c2)).setCell ⟨g, 4, none⟩ (.slice f.A3 f.n3 f.c3)
theorem Blk.put5 {w : World} {g : Nat} {f0 : Fv} {t : TypeId} (h : Blk w g f0.cs t) (f : Fv) : Blk (put5w w g f) g f.cs t := by
  have := ((((h.set 0 (.int .i64 f.a)).set 1 (.int .i64 f.b)).set 2 (.slice f.A1 f.n1 f.c1)).set 3 (.slice f.A2 f.n2 f.c2)).set 4 (.slice f.A3 f.n3 f.c3)
  exact this
theorem Own.put5 {α : Type} {enc : α → Value} {w : World} {lo hi g : Nat} {e : TypeId} {v : Value} {l : List α} (h : Own enc w lo hi e v l) (f : Fv) (hg : g < lo ∨ hi ≤ g) : Own enc (put5w w g f) lo hi e v l :=
  ((((h.put _ hg).put _ hg).put _ hg).put _ hg).put _ hg
theorem OF.put5 {w : World} {lo hi g : Nat} {f' : Fv} {F G H : List Int} (h : OF w lo hi f' F G H) (f : Fv) (hg : g < lo ∨ hi ≤ g) : OF (put5w w g f) lo hi f' F G H := by
  obtain ⟨⟨m1, m2, q1, q2, q3, o1, o2, o3⟩⟩ := h
  exact ⟨⟨m1, m2, q1, q2, q3, o1.put5 f (by omega), o2.put5 f (by omega), o3.put5 f (by omega)⟩⟩
theorem SF.put5 {w : World} {lo hi g : Nat} {f' : Fv} {F G H : List Int} (h : SF w lo hi f' F G H) (f : Fv) (hg : g < lo ∨ hi ≤ g) : SF (put5w w g f) lo hi f' F G H :=
  ⟨h.o1.put5 f hg, h.o2.put5 f hg, h.o3.put5 f hg⟩
theorem below_put5 {w0 w : World} {B g : Nat} (h : Below B w0 w) (f : Fv) (hg : B ≤ g) : Below B w0 (put5w w g f) :=
  ((((h.setCell hg _).setCell hg _).setCell hg _).setCell hg _).setCell hg _
theorem put5_size (w : World) (g : Nat) (f : Fv) : (put5w w g f).heap.size = w.heap.size := by simp
theorem Blk.freeF {w : World} {g : Nat} {f : Fv} {t : TypeId} (h : Blk w g f.cs t) : w.frozen? ⟨g, 0, none⟩ = false ∧ w.frozen? ⟨g, 1, none⟩ = false ∧ w.frozen? ⟨g, 2, none⟩ = false ∧ w.frozen? ⟨g, 3, none⟩ = false ∧ w.frozen? ⟨g, 4, none⟩ = false :=
  ⟨h.free 0, h.free 1, h.free 2, h.free 3, h.free 4⟩
/-- What a function answers: a form and a code. -/
theorem FC.mk_ {w w' : World} {a b C : Int} {F G H : List Int} (f : Fv) (ha : f.a = a) (hb : f.b = b) {lo hi : Nat} (ho : OF w' lo hi f F G H) (h1 : w.heap.size ≤ lo) (h2 : hi ≤ w'.heap.size) (hle : f.le 64) (hbl : Below w.heap.size w w') :
    FC w a b F G H C (.returned (.tuple #[f.v, .int .i64 C])) w' := ⟨f, ⟨ha, hb⟩, rfl, ho.mono h1 h2, hle, hbl⟩
theorem SC5.mk_ {w w' : World} {a b C : Int} {F G H : List Int} (f : Fv) (ha : f.a = a) (hb : f.b = b) {lo hi : Nat} (ho : SF w' lo hi f F G H) (h1 : w.heap.size ≤ lo) (h2 : hi ≤ w'.heap.size) (hle : f.le 64) (hbl : Below w.heap.size w w') :
    SC5 w a b F G H C (.returned (.tuple #[f.v, .int .i64 C])) w' := ⟨f, ⟨ha, hb⟩, rfl, ho.mono h1 h2, hle, hbl⟩
namespace Fm
/-- What ShiftForm answers. -/
def shC (w h : Int) (F G H : List Int) (by_ : Int) : Int := if okB w h F G H = true then (if -1000000000 ≤ by_ ∧ by_ ≤ 1000000000 then (if okB w h (F.map (· + by_)) (G.map (· + by_)) H = true then 0 else 3) else 2) else 1
def shR (w h : Int) (F G H : List Int) (by_ : Int) : Int × Int × List Int × List Int × List Int × Int :=
  if shC w h F G H by_ = 0 then (w, h, F.map (· + by_), G.map (· + by_), H, 0) else (0, 0, [], [], [], shC w h F G H by_)
end Fm
theorem fv0_le : fv0.le 64 := ⟨Nat.zero_le _, Nat.zero_le _, Nat.zero_le _⟩
end Go.Proofs.Ytfiefjbipjalpaa
