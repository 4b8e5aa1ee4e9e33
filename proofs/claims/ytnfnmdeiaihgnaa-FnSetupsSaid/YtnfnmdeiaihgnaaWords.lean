/- The words in which the contracts of this seat speak of memory: a slice that reads as a list, a slice of the call's own, and what a call leaves untouched. No program is named here. -/
import Derived.WalkKit
import Derived.Lib.Hide
import Derived.Deep.Draws
namespace Go.Proofs.Ytnfnmdeiaihgnaa
open Go.RowKit

section
variable {α : Type}

theorem addr_block (a : Addr) (n : Nat) : (a.add n).block = a.block := by unfold Addr.add; split <;> rfl
theorem addr_zero (g : Nat) (j : Nat) : (⟨g, 0, none⟩ : Addr).add j = ⟨g, j, none⟩ := by unfold Addr.add; split <;> simp_all
theorem addr_plain (g o : Nat) (j : Nat) : (⟨g, o, none⟩ : Addr).add j = ⟨g, o + j, none⟩ := by unfold Addr.add; split <;> simp_all

/-- The slice at A of n places reads as l; its cells lie below block B. -/
def Rd (enc : α → Value) (w : World) (B : Nat) (A : Option Addr) (n : Nat) (l : List α) : Prop :=
  l.length = n ∧ (0 < n → ∃ b o, A = some ⟨b, o, none⟩ ∧ b < B ∧ ∀ j x, l[j]? = some x → w.cell? ⟨b, o + j, none⟩ = some (enc x))

/-- The slice v is the call's own and holds l; its block, if it has one, lies from lo on and below hi. -/
def Own (enc : α → Value) (w : World) (lo hi : Nat) (e : TypeId) (v : Value) (l : List α) : Prop :=
  w.ownsRow lo e 1 v l.length (l.map enc) ∧ ∀ k, v.ownBlock = some k → k < hi

/-- From w to w' only blocks in lo..hi-1 have turned, and new ones have come. -/
structure Only (lo hi : Nat) (w w' : World) : Prop where
  os : w'.os = w.os
  tape : w'.tape = w.tape
  output : w'.output = w.output
  size : w.heap.size ≤ w'.heap.size
  block : ∀ k, k < w.heap.size → (k < lo ∨ hi ≤ k) → w'.heap[k]? = w.heap[k]?

variable {enc : α → Value} {w w' w1 : World} {B B' lo hi lo' hi' n : Nat} {A : Option Addr} {l : List α} {e : TypeId} {v : Value}

theorem Only.refl (lo hi : Nat) (w : World) : Only lo hi w w := ⟨rfl, rfl, rfl, Nat.le_refl _, fun _ _ _ => rfl⟩
theorem Only.trans (h : Only lo hi w w1) (k : Only lo hi w1 w') : Only lo hi w w' :=
  ⟨k.os.trans h.os, k.tape.trans h.tape, k.output.trans h.output, Nat.le_trans h.size k.size, fun i hi' hne => (k.block i (Nat.lt_of_lt_of_le hi' h.size) hne).trans (h.block i hi' hne)⟩
theorem Only.drewN (h : Only lo hi w w') (k : Nat) : Only lo hi w (w'.drewN k) := ⟨h.os, h.tape, h.output, h.size, h.block⟩
theorem Only.drew (h : Only lo hi w w') : Only lo hi w w'.drew := ⟨h.os, h.tape, h.output, h.size, h.block⟩
theorem Only.of_below (h : Below w.heap.size w w') (lo hi : Nat) : Only lo hi w w' := ⟨h.os, h.tape, h.output, h.size, fun k hk _ => h.block k hk⟩
theorem Only.below (h : Only lo hi w w') (hB : B ≤ lo) (hs : B ≤ w.heap.size) : Below B w w' := ⟨h.os, h.tape, h.output, h.size, fun k hk => h.block k (by omega) (.inl (by omega))⟩
theorem Only.grown {row : Option Nat} (hg : w.grownBy w' row) (hr : ∀ g, row = some g → lo ≤ g ∧ g < hi) : Only lo hi w w' :=
  ⟨hg.os, hg.tape, hg.output, hg.size, fun k hk hne => hg.block k hk (fun e => by have := hr k e.symm; omega)⟩

theorem below_drewN' {a : World} (h : Below B a w) (k : Nat) : Below B a (w.drewN k) := ⟨h.os, h.tape, h.output, h.size, h.block⟩

theorem Rd.none_ : Rd enc w B A 0 [] := ⟨rfl, fun h => absurd h (by omega)⟩
theorem Rd.len (h : Rd enc w B A n l) : l.length = n := h.1
theorem Rd.at_ {k : Nat} (h : Rd enc w B A n l) (hk : k < n) : ∃ b o x, A = some ⟨b, o, none⟩ ∧ b < B ∧ l[k]? = some x ∧ w.cell? ⟨b, o + k, none⟩ = some (enc x) := by
  obtain ⟨b, o, e, hb, hc⟩ := h.2 (by omega)
  have hl : k < l.length := by have := h.1; omega
  exact ⟨b, o, l[k], e, hb, List.getElem?_eq_getElem hl, hc k _ (List.getElem?_eq_getElem hl)⟩
theorem Rd.keep (h : Rd enc w B A n l) (hk : ∀ p : Addr, p.block < B → w'.cell? p = w.cell? p) : Rd enc w' B A n l :=
  ⟨h.1, fun hn => by
    obtain ⟨b, o, e, hb, hc⟩ := h.2 hn
    exact ⟨b, o, e, hb, fun j x hx => (hk _ hb).trans (hc j x hx)⟩⟩
theorem Rd.more (h : Rd enc w B A n l) (hB : B ≤ B') : Rd enc w B' A n l :=
  ⟨h.1, fun hn => by
    obtain ⟨b, o, e, hb, hc⟩ := h.2 hn
    exact ⟨b, o, e, by omega, hc⟩⟩
theorem Rd.below (h : Rd enc w B A n l) (hb : Below B' w w') (hB : B ≤ B') : Rd enc w' B A n l := h.keep fun _ hp => hb.cell (by omega)
theorem Rd.drewN (h : Rd enc w B A n l) (k : Nat) : Rd enc (w.drewN k) B A n l := h
theorem Rd.alloc (h : Rd enc w B A n l) (hB : B ≤ w.heap.size) (o : Obj) : Rd enc (w.alloc o) B A n l := h.keep fun p hp => World.cell?_alloc_lt w o p (by omega)
theorem Rd.only (h : Rd enc w B A n l) (ho : Only lo hi w w') (hB : B ≤ lo) (hs : B ≤ w.heap.size) : Rd enc w' B A n l :=
  h.keep fun p hp => World.cell?_of_block (ho.block p.block (by omega) (.inl (by omega)))

theorem Own.rows (h : Own enc w lo hi e v l) : w.ownsRow lo e 1 v l.length (l.map enc) := h.1
theorem Own.nil_ : Own enc w lo hi e (.slice none 0 0) ([] : List α) := ⟨World.ownsRow_nil _ _ _ _, fun k hk => by simp [Value.ownBlock] at hk⟩
theorem Own.form (h : Own enc w lo hi e v l) : ∃ A c, v = .slice A l.length c ∧ l.length ≤ c := by
  rcases h.1.2 with ⟨hv, hn⟩ | ⟨g, cap, cur, hv, _, _, hc, _⟩
  · exact ⟨none, 0, by rw [hv, hn], by omega⟩
  · exact ⟨_, cap, hv, hc⟩
theorem Own.mono (h : Own enc w lo hi e v l) (h1 : lo' ≤ lo) (h2 : hi ≤ hi') : Own enc w lo' hi' e v l := by
  refine ⟨⟨h.1.1, ?_⟩, fun k hk => Nat.lt_of_lt_of_le (h.2 k hk) h2⟩
  rcases h.1.2 with hn | ⟨g, cap, cur, hv, hb, r⟩
  · exact .inl hn
  · exact .inr ⟨g, cap, cur, hv, by omega, r⟩
theorem Own.lt (h : Own enc w lo hi e v l) : ∀ k, v.ownBlock = some k → lo ≤ k ∧ k < hi ∧ k < w.heap.size :=
  fun k hk => ⟨(h.1.lt k hk).1, h.2 k hk, (h.1.lt k hk).2⟩
theorem Own.keep (h : Own enc w lo hi e v l) (hk : ∀ g, v.ownBlock = some g → w'.heap[g]? = w.heap[g]?) : Own enc w' lo hi e v l := by
  refine ⟨⟨h.1.1, ?_⟩, h.2⟩
  rcases h.1.2 with hn | ⟨g, cap, cur, hv, hb, hg, r⟩
  · exact .inl hn
  · exact .inr ⟨g, cap, cur, hv, hb, by rw [hk g (by rw [hv]; rfl)]; exact hg, r⟩
theorem Own.below (h : Own enc w lo hi e v l) (hb : Below B w w') (hB : hi ≤ B) : Own enc w' lo hi e v l :=
  h.keep fun g hg => hb.block g (by have := h.2 g hg; omega)
theorem Own.only (h : Own enc w lo hi e v l) (ho : Only lo' hi' w w') (hB : hi ≤ lo' ∨ hi' ≤ lo) : Own enc w' lo hi e v l :=
  h.keep fun g hg => by
    have := h.lt g hg
    exact ho.block g (by omega) (by omega)
theorem Own.drewN (h : Own enc w lo hi e v l) (k : Nat) : Own enc (w.drewN k) lo hi e v l := h
theorem Own.here (h : w.ownsRow lo e 1 v n (l.map enc)) (hn : n = l.length) : Own enc w lo w.heap.size e v l := by
  subst hn
  exact ⟨h, fun k hk => (h.lt k hk).2⟩
theorem Own.rd {c : Nat} (h : Own enc w lo hi e (.slice A n c) l) : Rd enc w hi A n l := by
  have hn : l.length = n := by
    obtain ⟨_, _, hv, _⟩ := h.form
    injection hv with _ h2 _
    exact h2.symm
  refine ⟨hn, fun hp => ?_⟩
  rcases h.1.2 with ⟨_, h0⟩ | ⟨g, cap, cur, hv, hb, hg, r⟩
  · omega
  · injection hv with hA _ _
    subst hA
    refine ⟨g, 0, rfl, h.2 g rfl, fun j x hx => ?_⟩
    have := h.1.cells (g := g) rfl j (enc x) (by rw [List.getElem?_map, hx]; rfl)
    rw [addr_zero] at this
    simpa using this
theorem Own.at_ {c k : Nat} (h : Own enc w lo hi e (.slice A n c) l) (hk : k < n) : ∃ g x, A = some ⟨g, 0, none⟩ ∧ lo ≤ g ∧ g < hi ∧ g < w.heap.size ∧ l[k]? = some x ∧ w.cell? ⟨g, k, none⟩ = some (enc x) ∧ w.frozen? ⟨g, k, none⟩ = false := by
  obtain ⟨b, o, x, hA, hb, hx, hc⟩ := h.rd.at_ hk
  have hn : l.length = n := h.rd.1
  rcases h.1.2 with ⟨_, h0⟩ | ⟨g, cap, cur, hv, hlo, hg, r⟩
  · omega
  · injection hv with hA' _ _
    subst hA'
    injection hA with hA
    injection hA with h1 h2 _
    subst h1 h2
    exact ⟨g, x, rfl, hlo, hb, (h.lt g rfl).2.2, hx, by simpa using hc, by
      have hf := h.1
      rw [hn] at hf
      cases c' : (Value.slice (some ⟨g, 0, none⟩) n c) <;> exact frozen_of_row w g k cur e hg⟩
theorem Own.set_ {c k g : Nat} (h : Own enc w lo hi e (.slice (some ⟨g, 0, none⟩) n c) l) (x : α) :
    Own enc (w.setCell ⟨g, k, none⟩ (enc x)) lo hi e (.slice (some ⟨g, 0, none⟩) n c) (l.set k x) ∧ Only lo hi w (w.setCell ⟨g, k, none⟩ (enc x)) := by
  have hn : l.length = n := h.rd.1
  have h1 := h.1
  rw [hn] at h1
  have hs := h1.stored k (enc x)
  have hl := h.lt g rfl
  refine ⟨⟨by rw [List.length_set, hn, List.map_set]; exact hs.1, h.2⟩, Only.grown hs.2 fun g' hg' => ?_⟩
  injection hg' with hg'
  omega
end

section
variable {α : Type} {enc : α → Value} {w : World} {lo hi n c : Nat} {e : TypeId} {A : Option Addr} {l : List α}

theorem Own.alloc {v : Value} (h : Own enc w lo hi e v l) (o : Obj) : Own enc (w.alloc o) lo hi e v l := ⟨h.1.alloc o, h.2⟩
theorem Own.lit0 (enc : α → Value) (w : World) (e : TypeId) : Own enc (w.alloc (.cells #[] e)) w.heap.size (w.heap.size + 1) e (.slice (some ⟨w.heap.size, 0, none⟩) 0 0) ([] : List α) :=
  ⟨World.ownsRow_made w #[] 0 (Nat.le_refl _) (by unfold maxLen; omega) rfl, fun k hk => by simp [Value.ownBlock] at hk; omega⟩

/-- 'append(out, y)' of one element: the element has been laid in a block of its own. -/
theorem wp_push {P : Program} (w : World) {ops : Array Oper} {rest : List Oper} {o : Oper} {a : Act} {Qx : Exit → Act → World → Prop} (hgd : o.guard = none) (s x : Operand) (t : TypeId)
    (ho : o.op = .call { callee := .builtin .append, args := #[s, x], argTypes := #[t, t] })
    (e : TypeId) (i : TypeInfo) (z : Value) (bytes : Nat) (ht : P.underlying t = some (.slice e)) (hi : P.info? e = some i) (hz : i.zero = some z) (hsize : i.size = 1) (hby : i.bytes = bytes) (hzs : z.cells.size = 1)
    (A : Option Addr) (n c : Nat) (l : List α) (lo hi' : Nat) (hs : a.eval s = .slice A n c) (hown : Own enc w lo hi' e (.slice A n c) l) (y : α)
    (hx : a.eval x = .slice (some ⟨w.heap.size, 0, none⟩) 1 1) (h1 : (enc y).oneCell' = true) (hn : n ≤ 1099511627776) (hb : bytes ≤ 64) (hbase : lo ≤ w.heap.size)
    (h : ∀ A' c' w', Own enc w' lo w'.heap.size e (.slice A' (n + 1) c') (l ++ [y]) → Only lo hi' w w' → wpList P ops Qx rest (a.put o.dst (.slice A' (n + 1) c')) w') :
    wpList P ops Qx (o :: rest) a (w.alloc (.cells #[enc y] e)) := by
  have hl : l.length = n := hown.rd.1
  have hr := hown.1
  rw [hl] at hr
  have hbytes : (n + 1) * bytes ≤ (1099511627776 + 1) * 64 := Nat.mul_le_mul (by omega) hb
  refine wpList_append_own _ hgd s x t ho lo e i z 1 bytes ht hi hz hsize hby hzs (by omega) (.slice A n c) n (l.map enc) hs (hr.alloc _) ⟨w.heap.size, 0, none⟩ 1 1 [enc y] hx rfl ?_ ?_ (by unfold maxLen; omega) (by omega) (by simp; omega) ?_
  · intro j u hj
    match j, hj with
    | 0, hj =>
      simp at hj
      subst hj
      rw [addr_zero]
      simp [World.cell?_alloc_new]
  · intro u hu
    simp at hu
    subst hu
    exact h1
  · intro v' w' hown' hg _
    have hmap : l.map enc ++ [enc y] = (l ++ [y]).map enc := by simp
    rw [hmap] at hown'
    have hO : Own enc w' lo w'.heap.size e v' (l ++ [y]) := Own.here hown' (by simp [hl])
    obtain ⟨A', c', hv, _⟩ := hO.form
    have hlen : (l ++ [y]).length = n + 1 := by simp [hl]
    rw [hlen] at hv
    subst hv
    refine h A' c' w' hO ?_
    refine (Only.of_below ((Below.refl _ _).alloc (Nat.le_refl _) _) lo hi').trans (Only.grown hg fun g hg' => ?_)
    have := hown.lt g hg'
    omega

/-- 'make([]T, n)'. -/
theorem wp_fresh {P : Program} (w : World) {ops : Array Oper} {rest : List Oper} {o : Oper} {a : Act} {Qx : Exit → Act → World → Prop} (hgd : o.guard = none) (lx cx : Operand) (t : TypeId) (hop : o.op = Op.makeSlice t lx cx)
    (e : TypeId) (i : TypeInfo) (z : α) (bytes : Nat) (h1 : P.underlying t = some (.slice e)) (h2 : P.info? e = some i) (h3 : i.zero = some (enc z)) (h4 : i.size = 1) (hby : i.bytes = bytes) (hcells : (enc z).cells = #[enc z])
    (kl kc : IntKind) (L C : Int) (n : Nat) (hl : a.eval lx = .int kl L) (hc : a.eval cx = .int kc C) (hL : L = (n : Int)) (hC : C = (n : Int)) (hn : n ≤ 1099511627776) (hb : bytes ≤ 64)
    (h : ∀ g w', Own enc w' w.heap.size w'.heap.size e (.slice (some ⟨g, 0, none⟩) n n) (List.replicate n z) → Below w.heap.size w w' → wpList P ops Qx rest (a.put o.dst (.slice (some ⟨g, 0, none⟩) n n)) w') :
    wpList P ops Qx (o :: rest) a w := by
  have hbytes : bytes * n ≤ 64 * 1099511627776 := Nat.mul_le_mul hb hn
  refine wpList_make_full w hgd lx cx t hop w.heap.size e i (enc z) 1 h1 h2 h3 h4 kl kc L C n hl hc hL hC (by rw [hby]; omega) (by unfold maxLen; omega) (Nat.le_refl _) ?_
  intro w' hown hg
  rw [hcells, toList_madeCells_one] at hown
  refine h _ w' (Own.here (by simpa using hown) (by simp)) ((Below.refl _ _).grown hg (Nat.le_refl _) (by simp))
end

/-- From w to w' nothing has turned but the count of draws. -/
def Q (w w' : World) : Prop := ∃ m, w' = w.drewN m
theorem Q.refl (w : World) : Q w w := ⟨0, rfl⟩
theorem Q.drewN (w : World) (m : Nat) : Q w (w.drewN m) := ⟨m, rfl⟩
theorem Q.trans {a b c : World} (h : Q a b) (k : Q b c) : Q a c := by
  obtain ⟨m, rfl⟩ := h
  obtain ⟨n, rfl⟩ := k
  exact ⟨m + n, by simp⟩
theorem Q.more {a b : World} (h : Q a b) (m : Nat) : Q a (b.drewN m) := h.trans (Q.drewN _ _)
theorem Q.drew {a b : World} (h : Q a b) : Q a b.drew := h.trans ⟨1, rfl⟩
theorem Q.size {a b : World} (h : Q a b) : b.heap.size = a.heap.size := by
  obtain ⟨m, rfl⟩ := h
  rfl
theorem Q.le {a b : World} (h : Q a b) : a.heap.size ≤ b.heap.size := Nat.le_of_eq h.size.symm
theorem Q.below {a b : World} (h : Q a b) (B : Nat) : Below B a b := by
  obtain ⟨m, rfl⟩ := h
  exact below_drewN' (Below.refl _ _) m
theorem Q.only {a b : World} (h : Q a b) (lo hi : Nat) : Only lo hi a b := Only.of_below (h.below _) lo hi
theorem Rd.q {α : Type} {enc : α → Value} {w w' : World} {B n : Nat} {A : Option Addr} {l : List α} (h : Rd enc w B A n l) (hq : Q w w') : Rd enc w' B A n l := by
  obtain ⟨m, rfl⟩ := hq
  exact h
theorem Own.q {α : Type} {enc : α → Value} {w w' : World} {lo hi : Nat} {e : TypeId} {v : Value} {l : List α} (h : Own enc w lo hi e v l) (hq : Q w w') : Own enc w' lo hi e v l := by
  obtain ⟨m, rfl⟩ := hq
  exact h

/-- Contracts offered inside a quiet region. -/
theorem quiet_same {P : Program} {f : FuncId} {args : Array Value} {w : World} {n : Nat} {v : Value}
    (h : Calls P f args (w.drewN n) fun e w' => e = .returned v ∧ w.drewN n = w') : Calls P f args (w.drewN n) fun e w' => e = .returned v ∧ ∃ m, w' = w.drewN m :=
  h.mono fun _ _ ⟨he, hw⟩ => ⟨he, n, hw.symm⟩
theorem quiet_q {P : Program} {f : FuncId} {args : Array Value} {w : World} {n : Nat} {v : Value}
    (h : Calls P f args (w.drewN n) fun e w' => e = .returned v ∧ Q (w.drewN n) w') : Calls P f args (w.drewN n) fun e w' => e = .returned v ∧ ∃ m, w' = w.drewN m :=
  h.mono fun _ _ ⟨he, m, hw⟩ => ⟨he, n + m, by rw [hw]; simp⟩

/-- What the shell of a proof says of a slice of integers that came in, as a list that is read. -/
theorem Rd.of_row {k : IntKind} {w : World} {a : Option Addr} {len cap : Nat} {zs : List Int}
    (h : (a = none ∧ len = 0 ∧ cap = 0 ∧ zs = []) ∨ ∃ x, a = some x ∧ len ≤ cap ∧ cap ≤ maxLen ∧ zs.length = cap ∧ (∀ i, i < zs.length → w.cell? (x.add i) = some (.int k (zs.getD i 0))) ∧ ∀ n ∈ zs, (Lit.int k n).wf = true) :
    Rd (Value.int k) w w.heap.size a len (zs.take len) ∧ len ≤ cap ∧ ∀ x ∈ zs.take len, (Lit.int k x).wf = true := by
  rcases h with ⟨rfl, rfl, rfl, rfl⟩ | ⟨x, rfl, hl, hm, hz, hc, hw⟩
  · exact ⟨Rd.none_, Nat.le_refl _, by simp⟩
  · refine ⟨⟨by rw [List.length_take]; omega, fun hp => ?_⟩, hl, fun y hy => hw y (List.mem_of_mem_take hy)⟩
    obtain ⟨b, o, s⟩ := x
    have h0 := hc 0 (by omega)
    have hs : s = none := by simpa [Addr.add] using World.cell?_spot h0
    subst hs
    refine ⟨b, o, rfl, by simpa [addr_block] using World.block_lt_of_cell? w _ h0, fun j y hy => ?_⟩
    rw [List.getElem?_take] at hy
    split at hy
    · have := hc j (by omega)
      rw [addr_plain] at this
      rw [this, List.getD_eq_getElem?_getD, hy]
      rfl
    · cases hy

theorem ret_b {a b : Bool} (h : a = b) : Ending.returned (.bool a) = .returned (.bool b) := by rw [h]
theorem ret_i {k : IntKind} {a b : Int} (h : a = b) : Ending.returned (.int k a) = .returned (.int k b) := by rw [h]
end Go.Proofs.Ytnfnmdeiaihgnaa
