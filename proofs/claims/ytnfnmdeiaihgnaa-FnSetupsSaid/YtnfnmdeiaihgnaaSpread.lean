/- 'append(out, list...)' where out is the call's own and the list reads as it reads, nil and empty ones included. -/
import Derived.Test.YtnfnmdeiaihgnaaBase
import Derived.Deep.RegionLaw
import Derived.Deep.DrawnRows
namespace Go.Proofs.Ytnfnmdeiaihgnaa
open Go.RowKit

section
variable {P : Program} {α : Type} {enc : α → Value}

theorem run_spread (w : World) (t ty e : TypeId) (i : TypeInfo) (z : Value) (bytes : Nat) (ht : P.underlying t = some (.slice e)) (hi : P.info? e = some i) (hz : i.zero = some z) (hsize : i.size = 1) (hby : i.bytes = bytes) (hzs : z.cells.size = 1)
    (A : Option Addr) (n c : Nat) (l : List α) (lo hi' : Nat) (hown : Own enc w lo hi' e (.slice A n c) l) (A2 : Option Addr) (m c2 B : Nat) (l2 : List α) (hr : Rd enc w B A2 m l2) (h1 : ∀ y, (enc y).oneCell' = true)
    (hn : n + m ≤ 1099511627776) (hb : bytes ≤ 64) (hbase : lo ≤ w.heap.size) :
    ∃ A' c' w', (Builtin.append_ #[t, t] ty #[.slice A n c, .slice A2 m c2]).run P w = .ok (.slice A' (n + m) c') w' ∧ Own enc w' lo w'.heap.size e (.slice A' (n + m) c') (l ++ l2) ∧ Only lo hi' w w' := by
  have hl : l.length = n := hown.rd.1
  have hl2 : l2.length = m := hr.1
  have hown1 := hown.1
  rw [hl] at hown1
  have fin : ∀ v' w', (Builtin.append_ #[t, t] ty #[.slice A n c, .slice A2 m c2]).run P w = .ok v' w' → w'.ownsRow lo e 1 v' (n + m) (l.map enc ++ l2.map enc) → w.grownBy w' (Value.slice A n c).ownBlock →
      ∃ A' c' w', (Builtin.append_ #[t, t] ty #[.slice A n c, .slice A2 m c2]).run P w = .ok (.slice A' (n + m) c') w' ∧ Own enc w' lo w'.heap.size e (.slice A' (n + m) c') (l ++ l2) ∧ Only lo hi' w w' := by
    intro v' w' hrun h2 h3
    rw [← List.map_append] at h2
    have hO : Own enc w' lo w'.heap.size e v' (l ++ l2) := Own.here h2 (by simp [hl, hl2])
    obtain ⟨A', c', hv, _⟩ := hO.form
    have hlen : (l ++ l2).length = n + m := by simp [hl, hl2]
    rw [hlen] at hv
    subst hv
    exact ⟨A', c', w', hrun, hO, Only.grown h3 fun g hg => by have := hown.lt g hg; omega⟩
  rcases Nat.eq_zero_or_pos m with h0 | hp
  · subst h0
    have h2 : l2 = [] := List.eq_nil_of_length_eq_zero hl2
    subst h2
    rcases A2 with _ | ad
    · have hrun : (Builtin.append_ #[t, t] ty #[.slice A n c, .slice none 0 c2]).run P w = .ok (.slice A n c) w := by
        rcases hown1.2 with ⟨hv, _⟩ | ⟨g, cap, cur, hv, _, _, hnc, _⟩
        · rw [hv]
          simp [Builtin.append_, run_underlying ht, sizeOf, typeInfo, hi, Builtin.lenOf, Builtin.firstCells]
        · rw [hv]
          simp [Builtin.append_, run_underlying ht, sizeOf, typeInfo, hi, Builtin.lenOf, Builtin.firstCells, hnc, storeCells]
      exact fin _ _ hrun (by simpa using hown1) (World.grownBy.refl w _)
    · obtain ⟨v', w', hrun, h2, h3, _⟩ := run_append_own (P := P) w lo t ty e i z 1 bytes ht hi hz hsize hby hzs (by omega) (.slice A n c) n (l.map enc) hown1 ad 0 c2 [] rfl (by simp) (by simp) (by unfold maxLen; omega) (Nat.le_trans (Nat.mul_le_mul hn hb) (by omega)) hbase
      exact fin _ _ hrun (by simpa using h2) h3
  · obtain ⟨b, o, hA, hbB, hc⟩ := hr.2 hp
    subst hA
    obtain ⟨v', w', hrun, h2, h3, _⟩ := run_append_own (P := P) w lo t ty e i z 1 bytes ht hi hz hsize hby hzs (by omega) (.slice A n c) n (l.map enc) hown1 ⟨b, o, none⟩ m c2 (l2.map enc) (by simp [hl2])
      (fun j u hu => by
        rw [List.getElem?_map] at hu
        obtain ⟨x, hx, rfl⟩ := Option.map_eq_some_iff.1 hu
        rw [addr_plain]
        exact hc j x hx) (fun u hu => by obtain ⟨x, _, rfl⟩ := List.mem_map.1 hu; exact h1 x) (by unfold maxLen; omega) (Nat.le_trans (Nat.mul_le_mul hn hb) (by omega)) hbase
    exact fin _ _ hrun h2 h3

theorem wpo_spread (w : World) {o : Oper} {a : Act} {K : Act → World → Prop} {Qx : Exit → Act → World → Prop} (s x : Operand) (t : TypeId)
    (ho : o.op = .call { callee := .builtin .append, args := #[s, x], argTypes := #[t, t] })
    (e : TypeId) (i : TypeInfo) (z : Value) (bytes : Nat) (ht : P.underlying t = some (.slice e)) (hi : P.info? e = some i) (hz : i.zero = some z) (hsize : i.size = 1) (hby : i.bytes = bytes) (hzs : z.cells.size = 1)
    (A : Option Addr) (n c : Nat) (l : List α) (lo hi' : Nat) (hs : a.eval s = .slice A n c) (hown : Own enc w lo hi' e (.slice A n c) l) (A2 : Option Addr) (m c2 B : Nat) (l2 : List α) (hx : a.eval x = .slice A2 m c2) (hr : Rd enc w B A2 m l2) (h1 : ∀ y, (enc y).oneCell' = true)
    (hn : n + m ≤ 1099511627776) (hb : bytes ≤ 64) (hbase : lo ≤ w.heap.size)
    (h : ∀ A' c' w', Own enc w' lo w'.heap.size e (.slice A' (n + m) c') (l ++ l2) → Only lo hi' w w' → K (a.put o.dst (.slice A' (n + m) c')) w') : o.wp P a w K Qx := by
  obtain ⟨A', c', w', hrun, h2, h3⟩ := run_spread (P := P) w t o.type e i z bytes ht hi hz hsize hby hzs A n c l lo hi' hown A2 m c2 B l2 hr h1 hn hb hbase
  unfold Oper.wp execOp
  simp only [ho, resolve, invoke, builtin, Sem.run_bind, Sem.run_pure, Result.andThen_ok, List.map_toArray, List.map_cons, List.map_nil, hs, hx, hrun]
  exact h A' c' w' h2 h3

theorem wp_spread (w : World) {ops : Array Oper} {rest : List Oper} {o : Oper} {a : Act} {Qx : Exit → Act → World → Prop} (hgd : o.guard = none) (s x : Operand) (t : TypeId)
    (ho : o.op = .call { callee := .builtin .append, args := #[s, x], argTypes := #[t, t] })
    (e : TypeId) (i : TypeInfo) (z : Value) (bytes : Nat) (ht : P.underlying t = some (.slice e)) (hi : P.info? e = some i) (hz : i.zero = some z) (hsize : i.size = 1) (hby : i.bytes = bytes) (hzs : z.cells.size = 1)
    (A : Option Addr) (n c : Nat) (l : List α) (lo hi' : Nat) (hs : a.eval s = .slice A n c) (hown : Own enc w lo hi' e (.slice A n c) l) (A2 : Option Addr) (m c2 B : Nat) (l2 : List α) (hx : a.eval x = .slice A2 m c2) (hr : Rd enc w B A2 m l2) (h1 : ∀ y, (enc y).oneCell' = true)
    (hn : n + m ≤ 1099511627776) (hb : bytes ≤ 64) (hbase : lo ≤ w.heap.size)
    (h : ∀ A' c' w', Own enc w' lo w'.heap.size e (.slice A' (n + m) c') (l ++ l2) → Only lo hi' w w' → wpList P ops Qx rest (a.put o.dst (.slice A' (n + m) c')) w') : wpList P ops Qx (o :: rest) a w :=
  wpList_plain hgd fun _ hK => wpo_spread w s x t ho e i z bytes ht hi hz hsize hby hzs A n c l lo hi' hs hown A2 m c2 B l2 hx hr h1 hn hb hbase fun A' c' w' h2 h3 => hK _ _ (h A' c' w' h2 h3)

theorem step_spread (w : World) {ops : Array Oper} {o : Oper} {a : Act} {K : Act → World → Prop} {Qx : Exit → Act → World → Prop} {E : Prop} (hgd : o.guard = none) (s x : Operand) (t : TypeId)
    (ho : o.op = .call { callee := .builtin .append, args := #[s, x], argTypes := #[t, t] })
    (e : TypeId) (i : TypeInfo) (z : Value) (bytes : Nat) (ht : P.underlying t = some (.slice e)) (hi : P.info? e = some i) (hz : i.zero = some z) (hsize : i.size = 1) (hby : i.bytes = bytes) (hzs : z.cells.size = 1)
    (A : Option Addr) (n c : Nat) (l : List α) (lo hi' : Nat) (hs : a.eval s = .slice A n c) (hown : Own enc w lo hi' e (.slice A n c) l) (A2 : Option Addr) (m c2 B : Nat) (l2 : List α) (hx : a.eval x = .slice A2 m c2) (hr : Rd enc w B A2 m l2) (h1 : ∀ y, (enc y).oneCell' = true)
    (hn : n + m ≤ 1099511627776) (hb : bytes ≤ 64) (hbase : lo ≤ w.heap.size)
    (h : ∀ A' c' w', Own enc w' lo w'.heap.size e (.slice A' (n + m) c') (l ++ l2) → Only lo hi' w w' → K (a.put o.dst (.slice A' (n + m) c')) w') :
    if Region.wanted o (yielded ops a.tmps) = true then Oper.wp P o a w K Qx else E := by
  have hw : Region.wanted o (yielded ops a.tmps) = true := by simp [Region.wanted, hgd]
  rw [if_pos hw]
  exact wpo_spread w s x t ho e i z bytes ht hi hz hsize hby hzs A n c l lo hi' hs hown A2 m c2 B l2 hx hr h1 hn hb hbase h
end
end Go.Proofs.Ytnfnmdeiaihgnaa
