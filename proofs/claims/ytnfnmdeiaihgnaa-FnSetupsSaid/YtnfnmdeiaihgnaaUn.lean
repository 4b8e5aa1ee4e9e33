/- Rows of units in memory: 3 cells each. -/
import Derived.Test.YtnfnmdeiaihgnaaIn
import Derived.Test.YtnfnmdeiaihgnaaRow
import Derived.Deep.Slices
import Derived.Deep.Fields
import Derived.OpenShut
namespace Go.Proofs.Ytnfnmdeiaihgnaa
open Go.RowKit Go.Deep Go.ChangeShapes Go.WideShapes
set_option linter.unusedVariables false

structure Un where
  a : Bool
  g : Int
  o : Bool
deriving DecidableEq
def Un.enc (x : Un) : List Value := [.bool x.a, .int .i64 x.g, .bool x.o]
abbrev Un.agg (x : Un) : Value := .agg #[.bool x.a, .int .i64 x.g, .bool x.o]
abbrev Un.zero : Un := ⟨false, 0, false⟩
def Un.S : Shp Un := ⟨Un.enc, 3, 83, Un.zero, by decide, fun _ => rfl, fun x u hu => by simp [Un.enc] at hu; rcases hu with rfl | rfl | rfl <;> rfl⟩
theorem infoUn : (Try.prog.info? 83).map (fun i => (i.zero, i.size, i.bytes)) = some (some (.agg #[.bool false, .int .i64 0, .bool false]), 3, 24) := by kernel_rfl
def Un.cl (w : World) (b o : Nat) (x : Un) : Prop := w.cell? ⟨b, o, none⟩ = some (.bool x.a) ∧ w.cell? ⟨b, o + 1, none⟩ = some (.int .i64 x.g) ∧ w.cell? ⟨b, o + 2, none⟩ = some (.bool x.o)
section
variable {w w' : World} {B lo hi n : Nat} {A : Option Addr} {l : List Un}
theorem RdS.at_Un {k : Nat} (h : RdS Un.S w B A n l) (hk : k < n) : ∃ b o x, A = some ⟨b, o, none⟩ ∧ b < B ∧ l[k]? = some x ∧ Un.cl w b (o + k * 3) x := by
  obtain ⟨b, o, x, e, hb, hx, hc⟩ := h.raw hk
  exact ⟨b, o, x, e, hb, hx, hc 0 _ rfl, hc 1 _ rfl, hc 2 _ rfl⟩
theorem OwnS.at_Un {c k : Nat} (h : OwnS Un.S w lo hi (.slice A n c) l) (hk : k < n) : ∃ g x, A = some ⟨g, 0, none⟩ ∧ lo ≤ g ∧ g < hi ∧ g < w.heap.size ∧ l[k]? = some x ∧ Un.cl w g (k * 3) x ∧ (∀ j, w.frozen? ⟨g, j, none⟩ = false) := by
  obtain ⟨g, x, e, h1, h2, h3, hx, hc, hf⟩ := h.raw hk
  exact ⟨g, x, e, h1, h2, h3, hx, ⟨hc 0 _ rfl, hc 1 _ rfl, hc 2 _ rfl⟩, hf⟩
/-- A whole element is stored. -/
theorem OwnS.putUn {c k g : Nat} {x : Un} (y : Un) (h : OwnS Un.S w lo hi (.slice (some ⟨g, 0, none⟩) n c) l) (hx : l[k]? = some x) :
    OwnS Un.S (((w.setCell ⟨g, k * 3, none⟩ (.bool y.a)).setCell ⟨g, k * 3 + 1, none⟩ (.int .i64 y.g)).setCell ⟨g, k * 3 + 2, none⟩ (.bool y.o)) lo hi (.slice (some ⟨g, 0, none⟩) n c) (l.set k y) ∧ Only lo hi w (((w.setCell ⟨g, k * 3, none⟩ (.bool y.a)).setCell ⟨g, k * 3 + 1, none⟩ (.int .i64 y.g)).setCell ⟨g, k * 3 + 2, none⟩ (.bool y.o)) := by
  have hk : k < l.length := (List.getElem?_eq_some_iff.1 hx).1
  have a0 : OwnS Un.S (w.setCell ⟨g, k * 3, none⟩ (.bool y.a)) lo hi (.slice (some ⟨g, 0, none⟩) n c) (l.set k (⟨y.a, x.g, x.o⟩ : Un)) ∧ Only lo hi w (w.setCell ⟨g, k * 3, none⟩ (.bool y.a)) := h.set_ (i := 0) (o := k * 3) (y := ⟨y.a, x.g, x.o⟩) (u := .bool y.a) hx rfl (by show 0 < 3; omega) rfl
  have a1 : OwnS Un.S ((w.setCell ⟨g, k * 3, none⟩ (.bool y.a)).setCell ⟨g, k * 3 + 1, none⟩ (.int .i64 y.g)) lo hi (.slice (some ⟨g, 0, none⟩) n c) ((l.set k (⟨y.a, x.g, x.o⟩ : Un)).set k (⟨y.a, y.g, x.o⟩ : Un)) ∧ Only lo hi (w.setCell ⟨g, k * 3, none⟩ (.bool y.a)) ((w.setCell ⟨g, k * 3, none⟩ (.bool y.a)).setCell ⟨g, k * 3 + 1, none⟩ (.int .i64 y.g)) := a0.1.set_ (i := 1) (o := k * 3 + 1) (x := ⟨y.a, x.g, x.o⟩) (y := ⟨y.a, y.g, x.o⟩) (u := .int .i64 y.g) (by rw [List.getElem?_set_self (by simpa using hk)]) rfl (by show 1 < 3; omega) rfl
  have a2 : OwnS Un.S (((w.setCell ⟨g, k * 3, none⟩ (.bool y.a)).setCell ⟨g, k * 3 + 1, none⟩ (.int .i64 y.g)).setCell ⟨g, k * 3 + 2, none⟩ (.bool y.o)) lo hi (.slice (some ⟨g, 0, none⟩) n c) (((l.set k (⟨y.a, x.g, x.o⟩ : Un)).set k (⟨y.a, y.g, x.o⟩ : Un)).set k (⟨y.a, y.g, y.o⟩ : Un)) ∧ Only lo hi ((w.setCell ⟨g, k * 3, none⟩ (.bool y.a)).setCell ⟨g, k * 3 + 1, none⟩ (.int .i64 y.g)) (((w.setCell ⟨g, k * 3, none⟩ (.bool y.a)).setCell ⟨g, k * 3 + 1, none⟩ (.int .i64 y.g)).setCell ⟨g, k * 3 + 2, none⟩ (.bool y.o)) := a1.1.set_ (i := 2) (o := k * 3 + 2) (x := ⟨y.a, y.g, x.o⟩) (y := ⟨y.a, y.g, y.o⟩) (u := .bool y.o) (by rw [List.getElem?_set_self (by simpa using hk)]) rfl (by show 2 < 3; omega) rfl
  exact ⟨by have := a2.1; simpa [List.set_set] using this, ((a0.2).trans a1.2).trans a2.2⟩
end
/-- 'append(row, list...)', also of a literal that has just been laid. -/
theorem wpo_spreadUn (w : World) {o : Oper} {a : Act} {K : Act → World → Prop} {Qx : Exit → Act → World → Prop} (s x : Operand) (ts : TypeId)
    (ho : o.op = .call { callee := .builtin .append, args := #[s, x], argTypes := #[ts, ts] }) (ht : Try.prog.underlying ts = some (.slice 83))
    (A : Option Addr) (n c : Nat) (l : List Un) (lo hi' : Nat) (hs : a.eval s = .slice A n c) (hown : OwnS Un.S w lo hi' (.slice A n c) l) (A2 : Option Addr) (m c2 B : Nat) (l2 : List Un) (hx : a.eval x = .slice A2 m c2) (hr : RdS Un.S w B A2 m l2)
    (hn : n + m ≤ 1099511627776) (hbase : lo ≤ w.heap.size)
    (h : ∀ A' c' w', OwnS Un.S w' lo w'.heap.size (.slice A' (n + m) c') (l ++ l2) → Only lo hi' w w' → K (a.put o.dst (.slice A' (n + m) c')) w') : o.wp Try.prog a w K Qx := by
  obtain ⟨i0, hi0, hz0, hz1, hz2⟩ := info_parts infoUn
  obtain ⟨A', c', w', hrun, h2, h3⟩ := run_spreadS (S := Un.S) w ts o.type i0 _ 24 ht hi0 hz0 hz1 hz2 rfl (by omega) A n c l lo hi' hown A2 m c2 B l2 hr hn hbase
  unfold Oper.wp execOp
  simp only [ho, resolve, invoke, builtin, Sem.run_bind, Sem.run_pure, Result.andThen_ok, List.map_toArray, List.map_cons, List.map_nil, hs, hx, hrun]
  exact h A' c' w' h2 h3
theorem wp_spreadUn (w : World) {ops : Array Oper} {rest : List Oper} {o : Oper} {a : Act} {Qx : Exit → Act → World → Prop} (hgd : o.guard = none) (s x : Operand) (ts : TypeId)
    (ho : o.op = .call { callee := .builtin .append, args := #[s, x], argTypes := #[ts, ts] }) (ht : Try.prog.underlying ts = some (.slice 83))
    (A : Option Addr) (n c : Nat) (l : List Un) (lo hi' : Nat) (hs : a.eval s = .slice A n c) (hown : OwnS Un.S w lo hi' (.slice A n c) l) (A2 : Option Addr) (m c2 B : Nat) (l2 : List Un) (hx : a.eval x = .slice A2 m c2) (hr : RdS Un.S w B A2 m l2)
    (hn : n + m ≤ 1099511627776) (hbase : lo ≤ w.heap.size)
    (h : ∀ A' c' w', OwnS Un.S w' lo w'.heap.size (.slice A' (n + m) c') (l ++ l2) → Only lo hi' w w' → wpList Try.prog ops Qx rest (a.put o.dst (.slice A' (n + m) c')) w') : wpList Try.prog ops Qx (o :: rest) a w :=
  wpList_plain hgd fun _ hK => wpo_spreadUn w s x ts ho ht A n c l lo hi' hs hown A2 m c2 B l2 hx hr hn hbase fun A' c' w' h2 h3 => hK _ _ (h A' c' w' h2 h3)
theorem step_spreadUn (w : World) {ops : Array Oper} {o : Oper} {a : Act} {K : Act → World → Prop} {Qx : Exit → Act → World → Prop} {E : Prop} (hgd : o.guard = none) (s x : Operand) (ts : TypeId)
    (ho : o.op = .call { callee := .builtin .append, args := #[s, x], argTypes := #[ts, ts] }) (ht : Try.prog.underlying ts = some (.slice 83))
    (A : Option Addr) (n c : Nat) (l : List Un) (lo hi' : Nat) (hs : a.eval s = .slice A n c) (hown : OwnS Un.S w lo hi' (.slice A n c) l) (A2 : Option Addr) (m c2 B : Nat) (l2 : List Un) (hx : a.eval x = .slice A2 m c2) (hr : RdS Un.S w B A2 m l2)
    (hn : n + m ≤ 1099511627776) (hbase : lo ≤ w.heap.size)
    (h : ∀ A' c' w', OwnS Un.S w' lo w'.heap.size (.slice A' (n + m) c') (l ++ l2) → Only lo hi' w w' → K (a.put o.dst (.slice A' (n + m) c')) w') :
    if Region.wanted o (yielded ops a.tmps) = true then Oper.wp Try.prog o a w K Qx else E := by
  have hw : Region.wanted o (yielded ops a.tmps) = true := by simp [Region.wanted, hgd]
  rw [if_pos hw]
  exact wpo_spreadUn w s x ts ho ht A n c l lo hi' hs hown A2 m c2 B l2 hx hr hn hbase h
/-- 'append(part, list...)' where the part has no room. -/
theorem wpo_growUn (w : World) {o : Oper} {a : Act} {K : Act → World → Prop} {Qx : Exit → Act → World → Prop} (s x : Operand) (ts : TypeId)
    (ho : o.op = .call { callee := .builtin .append, args := #[s, x], argTypes := #[ts, ts] }) (ht : Try.prog.underlying ts = some (.slice 83))
    (b p n c : Nat) (l : List Un) (B1 : Nat) (hs : a.eval s = .slice (some ⟨b, p, none⟩) n c) (hl : RdS Un.S w B1 (some ⟨b, p, none⟩) n l) (b2 o2 m c2 B : Nat) (l2 : List Un) (hx : a.eval x = .slice (some ⟨b2, o2, none⟩) m c2) (hr : RdS Un.S w B (some ⟨b2, o2, none⟩) m l2)
    (hn : n + m ≤ 1099511627776) (hc : c < n + m)
    (h : ∀ A' c' w', OwnS Un.S w' w.heap.size w'.heap.size (.slice A' (n + m) c') (l ++ l2) → Below w.heap.size w w' → K (a.put o.dst (.slice A' (n + m) c')) w') : o.wp Try.prog a w K Qx := by
  obtain ⟨i0, hi0, hz0, hz1, hz2⟩ := info_parts infoUn
  obtain ⟨A', c', w', hrun, h2, h3⟩ := run_growS (S := Un.S) w ts o.type i0 _ 24 ht hi0 hz0 hz1 hz2 rfl (by omega) b p n c l B1 hl b2 o2 m c2 B l2 hr hn hc
  unfold Oper.wp execOp
  simp only [ho, resolve, invoke, builtin, Sem.run_bind, Sem.run_pure, Result.andThen_ok, List.map_toArray, List.map_cons, List.map_nil, hs, hx, hrun]
  exact h A' c' w' h2 h3
theorem step_growUn (w : World) {ops : Array Oper} {o : Oper} {a : Act} {K : Act → World → Prop} {Qx : Exit → Act → World → Prop} {E : Prop} (hgd : o.guard = none) (s x : Operand) (ts : TypeId)
    (ho : o.op = .call { callee := .builtin .append, args := #[s, x], argTypes := #[ts, ts] }) (ht : Try.prog.underlying ts = some (.slice 83))
    (b p n c : Nat) (l : List Un) (B1 : Nat) (hs : a.eval s = .slice (some ⟨b, p, none⟩) n c) (hl : RdS Un.S w B1 (some ⟨b, p, none⟩) n l) (b2 o2 m c2 B : Nat) (l2 : List Un) (hx : a.eval x = .slice (some ⟨b2, o2, none⟩) m c2) (hr : RdS Un.S w B (some ⟨b2, o2, none⟩) m l2)
    (hn : n + m ≤ 1099511627776) (hc : c < n + m)
    (h : ∀ A' c' w', OwnS Un.S w' w.heap.size w'.heap.size (.slice A' (n + m) c') (l ++ l2) → Below w.heap.size w w' → K (a.put o.dst (.slice A' (n + m) c')) w') :
    if Region.wanted o (yielded ops a.tmps) = true then Oper.wp Try.prog o a w K Qx else E := by
  have hw : Region.wanted o (yielded ops a.tmps) = true := by simp [Region.wanted, hgd]
  rw [if_pos hw]
  exact wpo_growUn w s x ts ho ht b p n c l B1 hs hl b2 o2 m c2 B l2 hx hr hn hc h
/-- One element, laid in a block of its own, as a list that is read. -/
theorem RdS.litUn (w : World) (x : Un) (G : Nat) (hG : w.heap.size = G) : RdS Un.S (w.alloc (.cells #[.bool x.a, .int .i64 x.g, .bool x.o] 83)) (G + 1) (some ⟨G, 0, none⟩) 1 [x] := by
  subst hG
  exact (OwnS.lit (S := Un.S) w [x] #[.bool x.a, .int .i64 x.g, .bool x.o] rfl 1 rfl (by omega)).rd
/-- 'append(row, x)': the element has been laid in a block of its own. -/
theorem wp_pushUn (w : World) {ops : Array Oper} {rest : List Oper} {o : Oper} {a : Act} {Qx : Exit → Act → World → Prop} (hgd : o.guard = none) (s x : Operand) (ts : TypeId)
    (ho : o.op = .call { callee := .builtin .append, args := #[s, x], argTypes := #[ts, ts] }) (ht : Try.prog.underlying ts = some (.slice 83))
    (A : Option Addr) (n c : Nat) (l : List Un) (lo hi' : Nat) (hs : a.eval s = .slice A n c) (hown : OwnS Un.S w lo hi' (.slice A n c) l) (y : Un) (G : Nat)
    (hx : a.eval x = .slice (some ⟨G, 0, none⟩) 1 1) (hG : w.heap.size = G) (hn : n ≤ 1048576) (hbase : lo ≤ w.heap.size)
    (h : ∀ A' c' w', OwnS Un.S w' lo w'.heap.size (.slice A' (n + 1) c') (l ++ [y]) → Only lo hi' w w' → wpList Try.prog ops Qx rest (a.put o.dst (.slice A' (n + 1) c')) w') :
    wpList Try.prog ops Qx (o :: rest) a (w.alloc (.cells #[.bool y.a, .int .i64 y.g, .bool y.o] 83)) :=
  wp_spreadUn _ hgd s x ts ho ht A n c l lo hi' hs (hown.alloc _) _ 1 1 _ [y] hx (RdS.litUn w y G hG) (by omega) (by simp; omega) fun A' c' w' h2 h3 => h A' c' w' h2 ((Only.of_below ((Below.refl _ _).alloc (Nat.le_refl _) _) lo hi').trans h3)
theorem cellsAUn : Try.prog.cellsOf 109 = 3 := by kernel_rfl
theorem cellsUn_b : Try.prog.cellsOf 4 = 1 := by kernel_rfl
theorem cellsUn_i : Try.prog.cellsOf 2 = 1 := by kernel_rfl
/-- The bounds of a value of the type. -/
def Un.inB (x : Un) : Prop := (True) ∧ (-9223372036854775808 ≤ x.g ∧ x.g ≤ 9223372036854775807) ∧ (True)
set_option maxRecDepth 100000 in
theorem open_Un {H : Type} {enc : TypeId × Value → H} {W : World} {r : Reach} {b0 : Nat} {v : Value} {d : DataW H} {p : List MemPlace} (hv : Value.okWide Try.prog W r b0 109 v)
    (h : DataW.Trod enc Try.prog W 0 (fun _ => true) true 109 v d p) : ∃ x : Un, v = x.agg ∧ x.inB := by
  obtain ⟨cs0, rfl, hsz⟩ := okWide_struct Try.underlying109 hv
  have hsz := hsz.trans cellsAUn
  obtain ⟨cl⟩ := cs0
  obtain ⟨fuel, hf⟩ := h
  obtain ⟨xs, n', _, _, _, hxl, hg⟩ := DataW.trod_struct Try.underlying109 hf
  match cl, hsz, xs, hxl with
  | [c0, c1, c2], _, [x0, x1, x2], _ =>
    have g0 := hg 0 _ rfl
    have g1 := hg 1 _ rfl
    have g2 := hg 2 _ rfl
    rw [show Try.prog.cellsOf (Field.type _) = 1 from cellsUn_b] at g0 g2
    rw [show Try.prog.cellsOf (Field.type _) = 1 from cellsUn_i] at g1
    obtain ⟨z0, e0, _⟩ := DataW.trod_bool Try.underlying4 (show DataW.trod enc Try.prog W 0 (fun _ => true) true n' 4 [c0] = some x0 from g0)
    obtain ⟨z1, e1, _, w1⟩ := DataW.trod_int Try.underlying2 (show DataW.trod enc Try.prog W 0 (fun _ => true) true n' 2 [c1] = some x1 from g1)
    obtain ⟨z2, e2, _⟩ := DataW.trod_bool Try.underlying4 (show DataW.trod enc Try.prog W 0 (fun _ => true) true n' 4 [c2] = some x2 from g2)
    injection e0 with e0
    injection e1 with e1
    injection e2 with e2
    subst e0 e1 e2
    exact ⟨⟨z0, z1, z2⟩, rfl, trivial, bounds_i64 w1, trivial⟩
set_option maxRecDepth 100000 in
theorem RdS.of_Un {H : Type} {enc : TypeId × Value → H} {W : World} {A : Option Addr} {len cap : Nat} {d : DataW H} {p : List MemPlace}
    (h : DataW.Trod enc Try.prog W 0 (fun _ => true) true 57 (.slice A len cap) d p) : ∃ l : List Un, RdS Un.S W W.heap.size A len l ∧ len ≤ 9223372036854775807 ∧ (∀ x ∈ l, x.inB) := by
  obtain ⟨fuel, hf⟩ := h
  rcases open_slice Try.underlying57 hf with ⟨hcs, _⟩ | ⟨a, l, c, m, n, D, Pl, hcs, _, hl, hm, hmm, _, hi⟩
  · simp [Value.cells] at hcs
    obtain ⟨rfl, rfl, rfl⟩ := hcs
    exact ⟨[], RdS.none_, by omega, by simp⟩
  · simp [Value.cells] at hcs
    obtain ⟨rfl, rfl, rfl⟩ := hcs
    simp only [if_true] at hmm
    subst hmm
    have hml : len ≤ 9223372036854775807 := by unfold maxLen at hm; omega
    have key : ∀ i, i < len → ∃ v : Un, v.inB ∧ ∀ j u, v.enc[j]? = some u → W.cell? (a.add (i * 3 + j)) = some u := by
      intro i hlt
      obtain ⟨cs', hc, ht⟩ := hi i (by omega)
      rw [cellsAUn] at hc
      obtain ⟨_, hlen, hcell⟩ := World.cells?_some hc
      obtain ⟨xs, n', _, _, _, hxl, hg⟩ := DataW.trod_struct Try.underlying109 ht
      match cs', hlen, xs, hxl with
      | [c0, c1, c2], _, [x0, x1, x2], _ =>
        have g0 := hg 0 _ rfl
        have g1 := hg 1 _ rfl
        have g2 := hg 2 _ rfl
        rw [show Try.prog.cellsOf (Field.type _) = 1 from cellsUn_b] at g0 g2
        rw [show Try.prog.cellsOf (Field.type _) = 1 from cellsUn_i] at g1
        obtain ⟨z0, e0, _⟩ := DataW.trod_bool Try.underlying4 (show DataW.trod enc Try.prog W 0 (fun _ => true) true n' 4 [c0] = some x0 from g0)
        obtain ⟨z1, e1, _, w1⟩ := DataW.trod_int Try.underlying2 (show DataW.trod enc Try.prog W 0 (fun _ => true) true n' 2 [c1] = some x1 from g1)
        obtain ⟨z2, e2, _⟩ := DataW.trod_bool Try.underlying4 (show DataW.trod enc Try.prog W 0 (fun _ => true) true n' 4 [c2] = some x2 from g2)
        injection e0 with e0
        injection e1 with e1
        injection e2 with e2
        subst e0 e1 e2
        refine ⟨⟨z0, z1, z2⟩, ⟨trivial, bounds_i64 w1, trivial⟩, fun j u hu => ?_⟩
        have hj : j < 3 := by
          have := (List.getElem?_eq_some_iff.1 hu).1
          simpa [Un.enc] using this
        have := hcell j hj
        rw [← Go.Deep.add_add, this]
        exact hu
    obtain ⟨l, hll, hq⟩ := listOf _ len key
    refine ⟨l, ⟨hll, fun hp => ?_⟩, hml, fun x hx => by obtain ⟨j, hj⟩ := List.getElem?_of_mem hx; exact (hq j x hj).1⟩
    obtain ⟨b, o, s⟩ := a
    have hx0 : l[0]? = some l[0] := List.getElem?_eq_getElem (by omega)
    have h0 := (hq 0 _ hx0).2 0 _ rfl
    have hs : s = none := by simpa [Addr.add] using World.cell?_spot h0
    subst hs
    refine ⟨b, o, rfl, by simpa [addr_block] using World.block_lt_of_cell? W _ h0, fun j x hx i u hu => ?_⟩
    have := (hq j x hx).2 i u hu
    rwa [addr_plain] at this
end Go.Proofs.Ytnfnmdeiaihgnaa
