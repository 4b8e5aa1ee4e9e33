/- Rows of cuts in memory: 3 cells each. -/
import Derived.Test.YtbhofhobnbhhhaaDoorIn
import Derived.Test.YtbhofhobnbhhhaaDoorRow
import Derived.Deep.Slices
import Derived.Deep.Fields
import Derived.OpenShut
namespace Go.Proofs.YtbhofhobnbhhhaaDoor
open Go.RowKit Go.Deep Go.ChangeShapes Go.WideShapes
set_option linter.unusedVariables false

structure Ct where
  i : Int
  a : Bool
  t : Int
deriving DecidableEq
def Ct.enc (x : Ct) : List Value := [.int .i64 x.i, .bool x.a, .int .i64 x.t]
abbrev Ct.agg (x : Ct) : Value := .agg #[.int .i64 x.i, .bool x.a, .int .i64 x.t]
abbrev Ct.zero : Ct := ⟨0, false, 0⟩
def Ct.S : Shp Ct := ⟨Ct.enc, 3, 76, Ct.zero, by decide, fun _ => rfl, fun x u hu => by simp [Ct.enc] at hu; rcases hu with rfl | rfl | rfl <;> rfl⟩
theorem infoCt : (Tryd.prog.info? 76).map (fun i => (i.zero, i.size, i.bytes)) = some (some (.agg #[.int .i64 0, .bool false, .int .i64 0]), 3, 24) := by kernel_rfl
def Ct.cl (w : World) (b o : Nat) (x : Ct) : Prop := w.cell? ⟨b, o, none⟩ = some (.int .i64 x.i) ∧ w.cell? ⟨b, o + 1, none⟩ = some (.bool x.a) ∧ w.cell? ⟨b, o + 2, none⟩ = some (.int .i64 x.t)
section
variable {w w' : World} {B lo hi n : Nat} {A : Option Addr} {l : List Ct}
theorem RdS.at_Ct {k : Nat} (h : RdS Ct.S w B A n l) (hk : k < n) : ∃ b o x, A = some ⟨b, o, none⟩ ∧ b < B ∧ l[k]? = some x ∧ Ct.cl w b (o + k * 3) x := by
  obtain ⟨b, o, x, e, hb, hx, hc⟩ := h.raw hk
  exact ⟨b, o, x, e, hb, hx, hc 0 _ rfl, hc 1 _ rfl, hc 2 _ rfl⟩
theorem OwnS.at_Ct {c k : Nat} (h : OwnS Ct.S w lo hi (.slice A n c) l) (hk : k < n) : ∃ g x, A = some ⟨g, 0, none⟩ ∧ lo ≤ g ∧ g < hi ∧ g < w.heap.size ∧ l[k]? = some x ∧ Ct.cl w g (k * 3) x ∧ (∀ j, w.frozen? ⟨g, j, none⟩ = false) := by
  obtain ⟨g, x, e, h1, h2, h3, hx, hc, hf⟩ := h.raw hk
  exact ⟨g, x, e, h1, h2, h3, hx, ⟨hc 0 _ rfl, hc 1 _ rfl, hc 2 _ rfl⟩, hf⟩
/-- A whole element is stored. -/
theorem OwnS.putCt {c k g : Nat} {x : Ct} (y : Ct) (h : OwnS Ct.S w lo hi (.slice (some ⟨g, 0, none⟩) n c) l) (hx : l[k]? = some x) :
    OwnS Ct.S (((w.setCell ⟨g, k * 3, none⟩ (.int .i64 y.i)).setCell ⟨g, k * 3 + 1, none⟩ (.bool y.a)).setCell ⟨g, k * 3 + 2, none⟩ (.int .i64 y.t)) lo hi (.slice (some ⟨g, 0, none⟩) n c) (l.set k y) ∧ Only lo hi w (((w.setCell ⟨g, k * 3, none⟩ (.int .i64 y.i)).setCell ⟨g, k * 3 + 1, none⟩ (.bool y.a)).setCell ⟨g, k * 3 + 2, none⟩ (.int .i64 y.t)) := by
  have hk : k < l.length := (List.getElem?_eq_some_iff.1 hx).1
  have a0 : OwnS Ct.S (w.setCell ⟨g, k * 3, none⟩ (.int .i64 y.i)) lo hi (.slice (some ⟨g, 0, none⟩) n c) (l.set k (⟨y.i, x.a, x.t⟩ : Ct)) ∧ Only lo hi w (w.setCell ⟨g, k * 3, none⟩ (.int .i64 y.i)) := h.set_ (i := 0) (o := k * 3) (y := ⟨y.i, x.a, x.t⟩) (u := .int .i64 y.i) hx rfl (by show 0 < 3; omega) rfl
  have a1 : OwnS Ct.S ((w.setCell ⟨g, k * 3, none⟩ (.int .i64 y.i)).setCell ⟨g, k * 3 + 1, none⟩ (.bool y.a)) lo hi (.slice (some ⟨g, 0, none⟩) n c) ((l.set k (⟨y.i, x.a, x.t⟩ : Ct)).set k (⟨y.i, y.a, x.t⟩ : Ct)) ∧ Only lo hi (w.setCell ⟨g, k * 3, none⟩ (.int .i64 y.i)) ((w.setCell ⟨g, k * 3, none⟩ (.int .i64 y.i)).setCell ⟨g, k * 3 + 1, none⟩ (.bool y.a)) := a0.1.set_ (i := 1) (o := k * 3 + 1) (x := ⟨y.i, x.a, x.t⟩) (y := ⟨y.i, y.a, x.t⟩) (u := .bool y.a) (by rw [List.getElem?_set_self (by simpa using hk)]) rfl (by show 1 < 3; omega) rfl
  have a2 : OwnS Ct.S (((w.setCell ⟨g, k * 3, none⟩ (.int .i64 y.i)).setCell ⟨g, k * 3 + 1, none⟩ (.bool y.a)).setCell ⟨g, k * 3 + 2, none⟩ (.int .i64 y.t)) lo hi (.slice (some ⟨g, 0, none⟩) n c) (((l.set k (⟨y.i, x.a, x.t⟩ : Ct)).set k (⟨y.i, y.a, x.t⟩ : Ct)).set k (⟨y.i, y.a, y.t⟩ : Ct)) ∧ Only lo hi ((w.setCell ⟨g, k * 3, none⟩ (.int .i64 y.i)).setCell ⟨g, k * 3 + 1, none⟩ (.bool y.a)) (((w.setCell ⟨g, k * 3, none⟩ (.int .i64 y.i)).setCell ⟨g, k * 3 + 1, none⟩ (.bool y.a)).setCell ⟨g, k * 3 + 2, none⟩ (.int .i64 y.t)) := a1.1.set_ (i := 2) (o := k * 3 + 2) (x := ⟨y.i, y.a, x.t⟩) (y := ⟨y.i, y.a, y.t⟩) (u := .int .i64 y.t) (by rw [List.getElem?_set_self (by simpa using hk)]) rfl (by show 2 < 3; omega) rfl
  exact ⟨by have := a2.1; simpa [List.set_set] using this, ((a0.2).trans a1.2).trans a2.2⟩
end
/-- 'append(row, list...)', also of a literal that has just been laid. -/
theorem wpo_spreadCt (w : World) {o : Oper} {a : Act} {K : Act → World → Prop} {Qx : Exit → Act → World → Prop} (s x : Operand) (ts : TypeId)
    (ho : o.op = .call { callee := .builtin .append, args := #[s, x], argTypes := #[ts, ts] }) (ht : Tryd.prog.underlying ts = some (.slice 76))
    (A : Option Addr) (n c : Nat) (l : List Ct) (lo hi' : Nat) (hs : a.eval s = .slice A n c) (hown : OwnS Ct.S w lo hi' (.slice A n c) l) (A2 : Option Addr) (m c2 B : Nat) (l2 : List Ct) (hx : a.eval x = .slice A2 m c2) (hr : RdS Ct.S w B A2 m l2)
    (hn : n + m ≤ 1099511627776) (hbase : lo ≤ w.heap.size)
    (h : ∀ A' c' w', OwnS Ct.S w' lo w'.heap.size (.slice A' (n + m) c') (l ++ l2) → Only lo hi' w w' → K (a.put o.dst (.slice A' (n + m) c')) w') : o.wp Tryd.prog a w K Qx := by
  obtain ⟨i0, hi0, hz0, hz1, hz2⟩ := info_parts infoCt
  obtain ⟨A', c', w', hrun, h2, h3⟩ := run_spreadS (S := Ct.S) w ts o.type i0 _ 24 ht hi0 hz0 hz1 hz2 rfl (by omega) A n c l lo hi' hown A2 m c2 B l2 hr hn hbase
  unfold Oper.wp execOp
  simp only [ho, resolve, invoke, builtin, Sem.run_bind, Sem.run_pure, Result.andThen_ok, List.map_toArray, List.map_cons, List.map_nil, hs, hx, hrun]
  exact h A' c' w' h2 h3
theorem wp_spreadCt (w : World) {ops : Array Oper} {rest : List Oper} {o : Oper} {a : Act} {Qx : Exit → Act → World → Prop} (hgd : o.guard = none) (s x : Operand) (ts : TypeId)
    (ho : o.op = .call { callee := .builtin .append, args := #[s, x], argTypes := #[ts, ts] }) (ht : Tryd.prog.underlying ts = some (.slice 76))
    (A : Option Addr) (n c : Nat) (l : List Ct) (lo hi' : Nat) (hs : a.eval s = .slice A n c) (hown : OwnS Ct.S w lo hi' (.slice A n c) l) (A2 : Option Addr) (m c2 B : Nat) (l2 : List Ct) (hx : a.eval x = .slice A2 m c2) (hr : RdS Ct.S w B A2 m l2)
    (hn : n + m ≤ 1099511627776) (hbase : lo ≤ w.heap.size)
    (h : ∀ A' c' w', OwnS Ct.S w' lo w'.heap.size (.slice A' (n + m) c') (l ++ l2) → Only lo hi' w w' → wpList Tryd.prog ops Qx rest (a.put o.dst (.slice A' (n + m) c')) w') : wpList Tryd.prog ops Qx (o :: rest) a w :=
  wpList_plain hgd fun _ hK => wpo_spreadCt w s x ts ho ht A n c l lo hi' hs hown A2 m c2 B l2 hx hr hn hbase fun A' c' w' h2 h3 => hK _ _ (h A' c' w' h2 h3)
theorem step_spreadCt (w : World) {ops : Array Oper} {o : Oper} {a : Act} {K : Act → World → Prop} {Qx : Exit → Act → World → Prop} {E : Prop} (hgd : o.guard = none) (s x : Operand) (ts : TypeId)
    (ho : o.op = .call { callee := .builtin .append, args := #[s, x], argTypes := #[ts, ts] }) (ht : Tryd.prog.underlying ts = some (.slice 76))
    (A : Option Addr) (n c : Nat) (l : List Ct) (lo hi' : Nat) (hs : a.eval s = .slice A n c) (hown : OwnS Ct.S w lo hi' (.slice A n c) l) (A2 : Option Addr) (m c2 B : Nat) (l2 : List Ct) (hx : a.eval x = .slice A2 m c2) (hr : RdS Ct.S w B A2 m l2)
    (hn : n + m ≤ 1099511627776) (hbase : lo ≤ w.heap.size)
    (h : ∀ A' c' w', OwnS Ct.S w' lo w'.heap.size (.slice A' (n + m) c') (l ++ l2) → Only lo hi' w w' → K (a.put o.dst (.slice A' (n + m) c')) w') :
    if Region.wanted o (yielded ops a.tmps) = true then Oper.wp Tryd.prog o a w K Qx else E := by
  have hw : Region.wanted o (yielded ops a.tmps) = true := by simp [Region.wanted, hgd]
  rw [if_pos hw]
  exact wpo_spreadCt w s x ts ho ht A n c l lo hi' hs hown A2 m c2 B l2 hx hr hn hbase h
/-- 'append(part, list...)' where the part has no room. -/
theorem wpo_growCt (w : World) {o : Oper} {a : Act} {K : Act → World → Prop} {Qx : Exit → Act → World → Prop} (s x : Operand) (ts : TypeId)
    (ho : o.op = .call { callee := .builtin .append, args := #[s, x], argTypes := #[ts, ts] }) (ht : Tryd.prog.underlying ts = some (.slice 76))
    (b p n c : Nat) (l : List Ct) (B1 : Nat) (hs : a.eval s = .slice (some ⟨b, p, none⟩) n c) (hl : RdS Ct.S w B1 (some ⟨b, p, none⟩) n l) (b2 o2 m c2 B : Nat) (l2 : List Ct) (hx : a.eval x = .slice (some ⟨b2, o2, none⟩) m c2) (hr : RdS Ct.S w B (some ⟨b2, o2, none⟩) m l2)
    (hn : n + m ≤ 1099511627776) (hc : c < n + m)
    (h : ∀ A' c' w', OwnS Ct.S w' w.heap.size w'.heap.size (.slice A' (n + m) c') (l ++ l2) → Below w.heap.size w w' → K (a.put o.dst (.slice A' (n + m) c')) w') : o.wp Tryd.prog a w K Qx := by
  obtain ⟨i0, hi0, hz0, hz1, hz2⟩ := info_parts infoCt
  obtain ⟨A', c', w', hrun, h2, h3⟩ := run_growS (S := Ct.S) w ts o.type i0 _ 24 ht hi0 hz0 hz1 hz2 rfl (by omega) b p n c l B1 hl b2 o2 m c2 B l2 hr hn hc
  unfold Oper.wp execOp
  simp only [ho, resolve, invoke, builtin, Sem.run_bind, Sem.run_pure, Result.andThen_ok, List.map_toArray, List.map_cons, List.map_nil, hs, hx, hrun]
  exact h A' c' w' h2 h3
theorem step_growCt (w : World) {ops : Array Oper} {o : Oper} {a : Act} {K : Act → World → Prop} {Qx : Exit → Act → World → Prop} {E : Prop} (hgd : o.guard = none) (s x : Operand) (ts : TypeId)
    (ho : o.op = .call { callee := .builtin .append, args := #[s, x], argTypes := #[ts, ts] }) (ht : Tryd.prog.underlying ts = some (.slice 76))
    (b p n c : Nat) (l : List Ct) (B1 : Nat) (hs : a.eval s = .slice (some ⟨b, p, none⟩) n c) (hl : RdS Ct.S w B1 (some ⟨b, p, none⟩) n l) (b2 o2 m c2 B : Nat) (l2 : List Ct) (hx : a.eval x = .slice (some ⟨b2, o2, none⟩) m c2) (hr : RdS Ct.S w B (some ⟨b2, o2, none⟩) m l2)
    (hn : n + m ≤ 1099511627776) (hc : c < n + m)
    (h : ∀ A' c' w', OwnS Ct.S w' w.heap.size w'.heap.size (.slice A' (n + m) c') (l ++ l2) → Below w.heap.size w w' → K (a.put o.dst (.slice A' (n + m) c')) w') :
    if Region.wanted o (yielded ops a.tmps) = true then Oper.wp Tryd.prog o a w K Qx else E := by
  have hw : Region.wanted o (yielded ops a.tmps) = true := by simp [Region.wanted, hgd]
  rw [if_pos hw]
  exact wpo_growCt w s x ts ho ht b p n c l B1 hs hl b2 o2 m c2 B l2 hx hr hn hc h
/-- One element, laid in a block of its own, as a list that is read. -/
theorem RdS.litCt (w : World) (x : Ct) (G : Nat) (hG : w.heap.size = G) : RdS Ct.S (w.alloc (.cells #[.int .i64 x.i, .bool x.a, .int .i64 x.t] 76)) (G + 1) (some ⟨G, 0, none⟩) 1 [x] := by
  subst hG
  exact (OwnS.lit (S := Ct.S) w [x] #[.int .i64 x.i, .bool x.a, .int .i64 x.t] rfl 1 rfl (by omega)).rd
/-- 'append(row, x)': the element has been laid in a block of its own. -/
theorem wp_pushCt (w : World) {ops : Array Oper} {rest : List Oper} {o : Oper} {a : Act} {Qx : Exit → Act → World → Prop} (hgd : o.guard = none) (s x : Operand) (ts : TypeId)
    (ho : o.op = .call { callee := .builtin .append, args := #[s, x], argTypes := #[ts, ts] }) (ht : Tryd.prog.underlying ts = some (.slice 76))
    (A : Option Addr) (n c : Nat) (l : List Ct) (lo hi' : Nat) (hs : a.eval s = .slice A n c) (hown : OwnS Ct.S w lo hi' (.slice A n c) l) (y : Ct) (G : Nat)
    (hx : a.eval x = .slice (some ⟨G, 0, none⟩) 1 1) (hG : w.heap.size = G) (hn : n ≤ 1048576) (hbase : lo ≤ w.heap.size)
    (h : ∀ A' c' w', OwnS Ct.S w' lo w'.heap.size (.slice A' (n + 1) c') (l ++ [y]) → Only lo hi' w w' → wpList Tryd.prog ops Qx rest (a.put o.dst (.slice A' (n + 1) c')) w') :
    wpList Tryd.prog ops Qx (o :: rest) a (w.alloc (.cells #[.int .i64 y.i, .bool y.a, .int .i64 y.t] 76)) :=
  wp_spreadCt _ hgd s x ts ho ht A n c l lo hi' hs (hown.alloc _) _ 1 1 _ [y] hx (RdS.litCt w y G hG) (by omega) (by simp; omega) fun A' c' w' h2 h3 => h A' c' w' h2 ((Only.of_below ((Below.refl _ _).alloc (Nat.le_refl _) _) lo hi').trans h3)
theorem cellsACt : Tryd.prog.cellsOf 95 = 3 := by kernel_rfl
theorem cellsCt_b : Tryd.prog.cellsOf 4 = 1 := by kernel_rfl
theorem cellsCt_i : Tryd.prog.cellsOf 2 = 1 := by kernel_rfl
/-- The bounds of a value of the type. -/
def Ct.inB (x : Ct) : Prop := (-9223372036854775808 ≤ x.i ∧ x.i ≤ 9223372036854775807) ∧ (True) ∧ (-9223372036854775808 ≤ x.t ∧ x.t ≤ 9223372036854775807)
set_option maxRecDepth 100000 in
theorem open_Ct {H : Type} {enc : TypeId × Value → H} {W : World} {r : Reach} {b0 : Nat} {v : Value} {d : DataW H} {p : List MemPlace} (hv : Value.okWide Tryd.prog W r b0 95 v)
    (h : DataW.Trod enc Tryd.prog W 0 (fun _ => true) true 95 v d p) : ∃ x : Ct, v = x.agg ∧ x.inB := by
  obtain ⟨cs0, rfl, hsz⟩ := okWide_struct Tryd.underlying95 hv
  have hsz := hsz.trans cellsACt
  obtain ⟨cl⟩ := cs0
  obtain ⟨fuel, hf⟩ := h
  obtain ⟨xs, n', _, _, _, hxl, hg⟩ := DataW.trod_struct Tryd.underlying95 hf
  match cl, hsz, xs, hxl with
  | [c0, c1, c2], _, [x0, x1, x2], _ =>
    have g0 := hg 0 _ rfl
    have g1 := hg 1 _ rfl
    have g2 := hg 2 _ rfl
    rw [show Tryd.prog.cellsOf (Field.type _) = 1 from cellsCt_b] at g1
    rw [show Tryd.prog.cellsOf (Field.type _) = 1 from cellsCt_i] at g0 g2
    obtain ⟨z0, e0, _, w0⟩ := DataW.trod_int Tryd.underlying2 (show DataW.trod enc Tryd.prog W 0 (fun _ => true) true n' 2 [c0] = some x0 from g0)
    obtain ⟨z1, e1, _⟩ := DataW.trod_bool Tryd.underlying4 (show DataW.trod enc Tryd.prog W 0 (fun _ => true) true n' 4 [c1] = some x1 from g1)
    obtain ⟨z2, e2, _, w2⟩ := DataW.trod_int Tryd.underlying2 (show DataW.trod enc Tryd.prog W 0 (fun _ => true) true n' 2 [c2] = some x2 from g2)
    injection e0 with e0
    injection e1 with e1
    injection e2 with e2
    subst e0 e1 e2
    exact ⟨⟨z0, z1, z2⟩, rfl, bounds_i64 w0, trivial, bounds_i64 w2⟩
set_option maxRecDepth 100000 in
theorem RdS.of_Ct {H : Type} {enc : TypeId × Value → H} {W : World} {A : Option Addr} {len cap : Nat} {d : DataW H} {p : List MemPlace}
    (h : DataW.Trod enc Tryd.prog W 0 (fun _ => true) true 51 (.slice A len cap) d p) : ∃ l : List Ct, RdS Ct.S W W.heap.size A len l ∧ len ≤ 9223372036854775807 ∧ (∀ x ∈ l, x.inB) := by
  obtain ⟨fuel, hf⟩ := h
  rcases open_slice Tryd.underlying51 hf with ⟨hcs, _⟩ | ⟨a, l, c, m, n, D, Pl, hcs, _, hl, hm, hmm, _, hi⟩
  · simp [Value.cells] at hcs
    obtain ⟨rfl, rfl, rfl⟩ := hcs
    exact ⟨[], RdS.none_, by omega, by simp⟩
  · simp [Value.cells] at hcs
    obtain ⟨rfl, rfl, rfl⟩ := hcs
    simp only [if_true] at hmm
    subst hmm
    have hml : len ≤ 9223372036854775807 := by unfold maxLen at hm; omega
    have key : ∀ i, i < len → ∃ v : Ct, v.inB ∧ ∀ j u, v.enc[j]? = some u → W.cell? (a.add (i * 3 + j)) = some u := by
      intro i hlt
      obtain ⟨cs', hc, ht⟩ := hi i (by omega)
      rw [cellsACt] at hc
      obtain ⟨_, hlen, hcell⟩ := World.cells?_some hc
      obtain ⟨xs, n', _, _, _, hxl, hg⟩ := DataW.trod_struct Tryd.underlying95 ht
      match cs', hlen, xs, hxl with
      | [c0, c1, c2], _, [x0, x1, x2], _ =>
        have g0 := hg 0 _ rfl
        have g1 := hg 1 _ rfl
        have g2 := hg 2 _ rfl
        rw [show Tryd.prog.cellsOf (Field.type _) = 1 from cellsCt_b] at g1
        rw [show Tryd.prog.cellsOf (Field.type _) = 1 from cellsCt_i] at g0 g2
        obtain ⟨z0, e0, _, w0⟩ := DataW.trod_int Tryd.underlying2 (show DataW.trod enc Tryd.prog W 0 (fun _ => true) true n' 2 [c0] = some x0 from g0)
        obtain ⟨z1, e1, _⟩ := DataW.trod_bool Tryd.underlying4 (show DataW.trod enc Tryd.prog W 0 (fun _ => true) true n' 4 [c1] = some x1 from g1)
        obtain ⟨z2, e2, _, w2⟩ := DataW.trod_int Tryd.underlying2 (show DataW.trod enc Tryd.prog W 0 (fun _ => true) true n' 2 [c2] = some x2 from g2)
        injection e0 with e0
        injection e1 with e1
        injection e2 with e2
        subst e0 e1 e2
        refine ⟨⟨z0, z1, z2⟩, ⟨bounds_i64 w0, trivial, bounds_i64 w2⟩, fun j u hu => ?_⟩
        have hj : j < 3 := by
          have := (List.getElem?_eq_some_iff.1 hu).1
          simpa [Ct.enc] using this
        have := hcell j hj
        rw [← Go.Deep.add_add, this]
        exact hu
    obtain ⟨l, hll, hq⟩ := listOf _ len key
    refine ⟨l, ⟨hll, fun hp => ?_⟩, hml, fun x hx => by obtain ⟨j, hj⟩ := List.getElem?_of_mem hx; exact (hq j x hj).1⟩
    obtain ⟨b, o, s⟩ := a
    have hx0 : l[0]? = some l[0] := List.getElem?_eq_getElem (by omega)
    have h0 := (hq 0 _ hx0).2 0 _ rfl
    have hs : s = none := by simpa [Addr.add] using World.cell?_spot h0
    subst hs
    refine ⟨b, o, rfl, by simpa [addr_block] using World.block_lt_of_cell? W _ h0, fun j x hx i u hu => ?_⟩
    have := (hq j x hx).2 i u hu
    rwa [addr_plain] at this
end Go.Proofs.YtbhofhobnbhhhaaDoor
