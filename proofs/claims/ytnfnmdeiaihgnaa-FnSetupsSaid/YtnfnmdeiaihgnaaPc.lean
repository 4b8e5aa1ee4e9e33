/- Rows of pieces in memory: 2 cells each. -/
import Derived.Test.YtnfnmdeiaihgnaaIn
import Derived.Test.YtnfnmdeiaihgnaaRow
import Derived.Deep.Slices
import Derived.Deep.Fields
import Derived.OpenShut
namespace Go.Proofs.Ytnfnmdeiaihgnaa
open Go.RowKit Go.Deep Go.ChangeShapes Go.WideShapes
set_option linter.unusedVariables false

structure Pc where
  w : Int
  h : Int
deriving DecidableEq
def Pc.enc (x : Pc) : List Value := [.int .i64 x.w, .int .i64 x.h]
abbrev Pc.agg (x : Pc) : Value := .agg #[.int .i64 x.w, .int .i64 x.h]
abbrev Pc.zero : Pc := ⟨0, 0⟩
def Pc.S : Shp Pc := ⟨Pc.enc, 2, 25, Pc.zero, by decide, fun _ => rfl, fun x u hu => by simp [Pc.enc] at hu; rcases hu with rfl | rfl <;> rfl⟩
theorem infoPc : (Try.prog.info? 25).map (fun i => (i.zero, i.size, i.bytes)) = some (some (.agg #[.int .i64 0, .int .i64 0]), 2, 16) := by kernel_rfl
def Pc.cl (w : World) (b o : Nat) (x : Pc) : Prop := w.cell? ⟨b, o, none⟩ = some (.int .i64 x.w) ∧ w.cell? ⟨b, o + 1, none⟩ = some (.int .i64 x.h)
section
variable {w w' : World} {B lo hi n : Nat} {A : Option Addr} {l : List Pc}
theorem RdS.at_Pc {k : Nat} (h : RdS Pc.S w B A n l) (hk : k < n) : ∃ b o x, A = some ⟨b, o, none⟩ ∧ b < B ∧ l[k]? = some x ∧ Pc.cl w b (o + k * 2) x := by
  obtain ⟨b, o, x, e, hb, hx, hc⟩ := h.raw hk
  exact ⟨b, o, x, e, hb, hx, hc 0 _ rfl, hc 1 _ rfl⟩
theorem OwnS.at_Pc {c k : Nat} (h : OwnS Pc.S w lo hi (.slice A n c) l) (hk : k < n) : ∃ g x, A = some ⟨g, 0, none⟩ ∧ lo ≤ g ∧ g < hi ∧ g < w.heap.size ∧ l[k]? = some x ∧ Pc.cl w g (k * 2) x ∧ (∀ j, w.frozen? ⟨g, j, none⟩ = false) := by
  obtain ⟨g, x, e, h1, h2, h3, hx, hc, hf⟩ := h.raw hk
  exact ⟨g, x, e, h1, h2, h3, hx, ⟨hc 0 _ rfl, hc 1 _ rfl⟩, hf⟩
/-- A whole element is stored. -/
theorem OwnS.putPc {c k g : Nat} {x : Pc} (y : Pc) (h : OwnS Pc.S w lo hi (.slice (some ⟨g, 0, none⟩) n c) l) (hx : l[k]? = some x) :
    OwnS Pc.S ((w.setCell ⟨g, k * 2, none⟩ (.int .i64 y.w)).setCell ⟨g, k * 2 + 1, none⟩ (.int .i64 y.h)) lo hi (.slice (some ⟨g, 0, none⟩) n c) (l.set k y) ∧ Only lo hi w ((w.setCell ⟨g, k * 2, none⟩ (.int .i64 y.w)).setCell ⟨g, k * 2 + 1, none⟩ (.int .i64 y.h)) := by
  have hk : k < l.length := (List.getElem?_eq_some_iff.1 hx).1
  have a0 : OwnS Pc.S (w.setCell ⟨g, k * 2, none⟩ (.int .i64 y.w)) lo hi (.slice (some ⟨g, 0, none⟩) n c) (l.set k (⟨y.w, x.h⟩ : Pc)) ∧ Only lo hi w (w.setCell ⟨g, k * 2, none⟩ (.int .i64 y.w)) := h.set_ (i := 0) (o := k * 2) (y := ⟨y.w, x.h⟩) (u := .int .i64 y.w) hx rfl (by show 0 < 2; omega) rfl
  have a1 : OwnS Pc.S ((w.setCell ⟨g, k * 2, none⟩ (.int .i64 y.w)).setCell ⟨g, k * 2 + 1, none⟩ (.int .i64 y.h)) lo hi (.slice (some ⟨g, 0, none⟩) n c) ((l.set k (⟨y.w, x.h⟩ : Pc)).set k (⟨y.w, y.h⟩ : Pc)) ∧ Only lo hi (w.setCell ⟨g, k * 2, none⟩ (.int .i64 y.w)) ((w.setCell ⟨g, k * 2, none⟩ (.int .i64 y.w)).setCell ⟨g, k * 2 + 1, none⟩ (.int .i64 y.h)) := a0.1.set_ (i := 1) (o := k * 2 + 1) (x := ⟨y.w, x.h⟩) (y := ⟨y.w, y.h⟩) (u := .int .i64 y.h) (by rw [List.getElem?_set_self (by simpa using hk)]) rfl (by show 1 < 2; omega) rfl
  exact ⟨by have := a1.1; simpa [List.set_set] using this, (a0.2).trans a1.2⟩
end
/-- 'append(row, list...)', also of a literal that has just been laid. -/
theorem wpo_spreadPc (w : World) {o : Oper} {a : Act} {K : Act → World → Prop} {Qx : Exit → Act → World → Prop} (s x : Operand) (ts : TypeId)
    (ho : o.op = .call { callee := .builtin .append, args := #[s, x], argTypes := #[ts, ts] }) (ht : Try.prog.underlying ts = some (.slice 25))
    (A : Option Addr) (n c : Nat) (l : List Pc) (lo hi' : Nat) (hs : a.eval s = .slice A n c) (hown : OwnS Pc.S w lo hi' (.slice A n c) l) (A2 : Option Addr) (m c2 B : Nat) (l2 : List Pc) (hx : a.eval x = .slice A2 m c2) (hr : RdS Pc.S w B A2 m l2)
    (hn : n + m ≤ 1099511627776) (hbase : lo ≤ w.heap.size)
    (h : ∀ A' c' w', OwnS Pc.S w' lo w'.heap.size (.slice A' (n + m) c') (l ++ l2) → Only lo hi' w w' → K (a.put o.dst (.slice A' (n + m) c')) w') : o.wp Try.prog a w K Qx := by
  obtain ⟨i0, hi0, hz0, hz1, hz2⟩ := info_parts infoPc
  obtain ⟨A', c', w', hrun, h2, h3⟩ := run_spreadS (S := Pc.S) w ts o.type i0 _ 16 ht hi0 hz0 hz1 hz2 rfl (by omega) A n c l lo hi' hown A2 m c2 B l2 hr hn hbase
  unfold Oper.wp execOp
  simp only [ho, resolve, invoke, builtin, Sem.run_bind, Sem.run_pure, Result.andThen_ok, List.map_toArray, List.map_cons, List.map_nil, hs, hx, hrun]
  exact h A' c' w' h2 h3
theorem wp_spreadPc (w : World) {ops : Array Oper} {rest : List Oper} {o : Oper} {a : Act} {Qx : Exit → Act → World → Prop} (hgd : o.guard = none) (s x : Operand) (ts : TypeId)
    (ho : o.op = .call { callee := .builtin .append, args := #[s, x], argTypes := #[ts, ts] }) (ht : Try.prog.underlying ts = some (.slice 25))
    (A : Option Addr) (n c : Nat) (l : List Pc) (lo hi' : Nat) (hs : a.eval s = .slice A n c) (hown : OwnS Pc.S w lo hi' (.slice A n c) l) (A2 : Option Addr) (m c2 B : Nat) (l2 : List Pc) (hx : a.eval x = .slice A2 m c2) (hr : RdS Pc.S w B A2 m l2)
    (hn : n + m ≤ 1099511627776) (hbase : lo ≤ w.heap.size)
    (h : ∀ A' c' w', OwnS Pc.S w' lo w'.heap.size (.slice A' (n + m) c') (l ++ l2) → Only lo hi' w w' → wpList Try.prog ops Qx rest (a.put o.dst (.slice A' (n + m) c')) w') : wpList Try.prog ops Qx (o :: rest) a w :=
  wpList_plain hgd fun _ hK => wpo_spreadPc w s x ts ho ht A n c l lo hi' hs hown A2 m c2 B l2 hx hr hn hbase fun A' c' w' h2 h3 => hK _ _ (h A' c' w' h2 h3)
theorem step_spreadPc (w : World) {ops : Array Oper} {o : Oper} {a : Act} {K : Act → World → Prop} {Qx : Exit → Act → World → Prop} {E : Prop} (hgd : o.guard = none) (s x : Operand) (ts : TypeId)
    (ho : o.op = .call { callee := .builtin .append, args := #[s, x], argTypes := #[ts, ts] }) (ht : Try.prog.underlying ts = some (.slice 25))
    (A : Option Addr) (n c : Nat) (l : List Pc) (lo hi' : Nat) (hs : a.eval s = .slice A n c) (hown : OwnS Pc.S w lo hi' (.slice A n c) l) (A2 : Option Addr) (m c2 B : Nat) (l2 : List Pc) (hx : a.eval x = .slice A2 m c2) (hr : RdS Pc.S w B A2 m l2)
    (hn : n + m ≤ 1099511627776) (hbase : lo ≤ w.heap.size)
    (h : ∀ A' c' w', OwnS Pc.S w' lo w'.heap.size (.slice A' (n + m) c') (l ++ l2) → Only lo hi' w w' → K (a.put o.dst (.slice A' (n + m) c')) w') :
    if Region.wanted o (yielded ops a.tmps) = true then Oper.wp Try.prog o a w K Qx else E := by
  have hw : Region.wanted o (yielded ops a.tmps) = true := by simp [Region.wanted, hgd]
  rw [if_pos hw]
  exact wpo_spreadPc w s x ts ho ht A n c l lo hi' hs hown A2 m c2 B l2 hx hr hn hbase h
/-- 'append(part, list...)' where the part has no room. -/
theorem wpo_growPc (w : World) {o : Oper} {a : Act} {K : Act → World → Prop} {Qx : Exit → Act → World → Prop} (s x : Operand) (ts : TypeId)
    (ho : o.op = .call { callee := .builtin .append, args := #[s, x], argTypes := #[ts, ts] }) (ht : Try.prog.underlying ts = some (.slice 25))
    (b p n c : Nat) (l : List Pc) (B1 : Nat) (hs : a.eval s = .slice (some ⟨b, p, none⟩) n c) (hl : RdS Pc.S w B1 (some ⟨b, p, none⟩) n l) (b2 o2 m c2 B : Nat) (l2 : List Pc) (hx : a.eval x = .slice (some ⟨b2, o2, none⟩) m c2) (hr : RdS Pc.S w B (some ⟨b2, o2, none⟩) m l2)
    (hn : n + m ≤ 1099511627776) (hc : c < n + m)
    (h : ∀ A' c' w', OwnS Pc.S w' w.heap.size w'.heap.size (.slice A' (n + m) c') (l ++ l2) → Below w.heap.size w w' → K (a.put o.dst (.slice A' (n + m) c')) w') : o.wp Try.prog a w K Qx := by
  obtain ⟨i0, hi0, hz0, hz1, hz2⟩ := info_parts infoPc
  obtain ⟨A', c', w', hrun, h2, h3⟩ := run_growS (S := Pc.S) w ts o.type i0 _ 16 ht hi0 hz0 hz1 hz2 rfl (by omega) b p n c l B1 hl b2 o2 m c2 B l2 hr hn hc
  unfold Oper.wp execOp
  simp only [ho, resolve, invoke, builtin, Sem.run_bind, Sem.run_pure, Result.andThen_ok, List.map_toArray, List.map_cons, List.map_nil, hs, hx, hrun]
  exact h A' c' w' h2 h3
theorem step_growPc (w : World) {ops : Array Oper} {o : Oper} {a : Act} {K : Act → World → Prop} {Qx : Exit → Act → World → Prop} {E : Prop} (hgd : o.guard = none) (s x : Operand) (ts : TypeId)
    (ho : o.op = .call { callee := .builtin .append, args := #[s, x], argTypes := #[ts, ts] }) (ht : Try.prog.underlying ts = some (.slice 25))
    (b p n c : Nat) (l : List Pc) (B1 : Nat) (hs : a.eval s = .slice (some ⟨b, p, none⟩) n c) (hl : RdS Pc.S w B1 (some ⟨b, p, none⟩) n l) (b2 o2 m c2 B : Nat) (l2 : List Pc) (hx : a.eval x = .slice (some ⟨b2, o2, none⟩) m c2) (hr : RdS Pc.S w B (some ⟨b2, o2, none⟩) m l2)
    (hn : n + m ≤ 1099511627776) (hc : c < n + m)
    (h : ∀ A' c' w', OwnS Pc.S w' w.heap.size w'.heap.size (.slice A' (n + m) c') (l ++ l2) → Below w.heap.size w w' → K (a.put o.dst (.slice A' (n + m) c')) w') :
    if Region.wanted o (yielded ops a.tmps) = true then Oper.wp Try.prog o a w K Qx else E := by
  have hw : Region.wanted o (yielded ops a.tmps) = true := by simp [Region.wanted, hgd]
  rw [if_pos hw]
  exact wpo_growPc w s x ts ho ht b p n c l B1 hs hl b2 o2 m c2 B l2 hx hr hn hc h
/-- One element, laid in a block of its own, as a list that is read. -/
theorem RdS.litPc (w : World) (x : Pc) (G : Nat) (hG : w.heap.size = G) : RdS Pc.S (w.alloc (.cells #[.int .i64 x.w, .int .i64 x.h] 25)) (G + 1) (some ⟨G, 0, none⟩) 1 [x] := by
  subst hG
  exact (OwnS.lit (S := Pc.S) w [x] #[.int .i64 x.w, .int .i64 x.h] rfl 1 rfl (by omega)).rd
/-- 'append(row, x)': the element has been laid in a block of its own. -/
theorem wp_pushPc (w : World) {ops : Array Oper} {rest : List Oper} {o : Oper} {a : Act} {Qx : Exit → Act → World → Prop} (hgd : o.guard = none) (s x : Operand) (ts : TypeId)
    (ho : o.op = .call { callee := .builtin .append, args := #[s, x], argTypes := #[ts, ts] }) (ht : Try.prog.underlying ts = some (.slice 25))
    (A : Option Addr) (n c : Nat) (l : List Pc) (lo hi' : Nat) (hs : a.eval s = .slice A n c) (hown : OwnS Pc.S w lo hi' (.slice A n c) l) (y : Pc) (G : Nat)
    (hx : a.eval x = .slice (some ⟨G, 0, none⟩) 1 1) (hG : w.heap.size = G) (hn : n ≤ 1048576) (hbase : lo ≤ w.heap.size)
    (h : ∀ A' c' w', OwnS Pc.S w' lo w'.heap.size (.slice A' (n + 1) c') (l ++ [y]) → Only lo hi' w w' → wpList Try.prog ops Qx rest (a.put o.dst (.slice A' (n + 1) c')) w') :
    wpList Try.prog ops Qx (o :: rest) a (w.alloc (.cells #[.int .i64 y.w, .int .i64 y.h] 25)) :=
  wp_spreadPc _ hgd s x ts ho ht A n c l lo hi' hs (hown.alloc _) _ 1 1 _ [y] hx (RdS.litPc w y G hG) (by omega) (by simp; omega) fun A' c' w' h2 h3 => h A' c' w' h2 ((Only.of_below ((Below.refl _ _).alloc (Nat.le_refl _) _) lo hi').trans h3)
theorem cellsAPc : Try.prog.cellsOf 53 = 2 := by kernel_rfl
theorem cellsPc_i : Try.prog.cellsOf 2 = 1 := by kernel_rfl
/-- The bounds of a value of the type. -/
def Pc.inB (x : Pc) : Prop := (-9223372036854775808 ≤ x.w ∧ x.w ≤ 9223372036854775807) ∧ (-9223372036854775808 ≤ x.h ∧ x.h ≤ 9223372036854775807)
set_option maxRecDepth 100000 in
theorem open_Pc {H : Type} {enc : TypeId × Value → H} {W : World} {r : Reach} {b0 : Nat} {v : Value} {d : DataW H} {p : List MemPlace} (hv : Value.okWide Try.prog W r b0 53 v)
    (h : DataW.Trod enc Try.prog W 0 (fun _ => true) true 53 v d p) : ∃ x : Pc, v = x.agg ∧ x.inB := by
  obtain ⟨cs0, rfl, hsz⟩ := okWide_struct Try.underlying53 hv
  have hsz := hsz.trans cellsAPc
  obtain ⟨cl⟩ := cs0
  obtain ⟨fuel, hf⟩ := h
  obtain ⟨xs, n', _, _, _, hxl, hg⟩ := DataW.trod_struct Try.underlying53 hf
  match cl, hsz, xs, hxl with
  | [c0, c1], _, [x0, x1], _ =>
    have g0 := hg 0 _ rfl
    have g1 := hg 1 _ rfl
    rw [show Try.prog.cellsOf (Field.type _) = 1 from cellsPc_i] at g0 g1
    obtain ⟨z0, e0, _, w0⟩ := DataW.trod_int Try.underlying2 (show DataW.trod enc Try.prog W 0 (fun _ => true) true n' 2 [c0] = some x0 from g0)
    obtain ⟨z1, e1, _, w1⟩ := DataW.trod_int Try.underlying2 (show DataW.trod enc Try.prog W 0 (fun _ => true) true n' 2 [c1] = some x1 from g1)
    injection e0 with e0
    injection e1 with e1
    subst e0 e1
    exact ⟨⟨z0, z1⟩, rfl, bounds_i64 w0, bounds_i64 w1⟩
end Go.Proofs.Ytnfnmdeiaihgnaa
