/- Rows of structs in memory: K cells an element. No program is named here. -/
import Derived.Test.YtnfnmdeiaihgnaaWords
import Derived.Test.YtnfnmdeiaihgnaaPush
import Derived.ArgAppend
import Derived.Deep.Upon
namespace Go.Proofs.Ytnfnmdeiaihgnaa
open Go.RowKit

/-- How a struct lies in memory: its K cells, each a value of one cell; ty is the struct's type, z its zero. -/
structure Shp (α : Type) where
  enc : α → List Value
  K : Nat
  ty : TypeId
  z : α
  pos : 0 < K
  len : ∀ x, (enc x).length = K
  one : ∀ x, ∀ u ∈ enc x, u.oneCell' = true

section
variable {α : Type} (S : Shp α)
/-- The slice at A of n places reads as l; its cells lie below block B. -/
def RdS (w : World) (B : Nat) (A : Option Addr) (n : Nat) (l : List α) : Prop :=
  l.length = n ∧ (0 < n → ∃ b o, A = some ⟨b, o, none⟩ ∧ b < B ∧ ∀ j x, l[j]? = some x → ∀ i u, (S.enc x)[i]? = some u → w.cell? ⟨b, o + (j * S.K + i), none⟩ = some u)
/-- The slice v is the call's own and holds l. -/
def OwnS (w : World) (lo hi : Nat) (v : Value) (l : List α) : Prop :=
  w.ownsRow lo S.ty S.K v l.length (l.flatMap S.enc) ∧ ∀ k, v.ownBlock = some k → k < hi
end
section
variable {α : Type} {S : Shp α} {w w' : World} {B B' lo hi lo' hi' n : Nat} {A : Option Addr} {l : List α} {v : Value}
theorem RdS.none_ : RdS S w B A 0 [] := ⟨rfl, fun h => absurd h (by omega)⟩
theorem RdS.keep (h : RdS S w B A n l) (hk : ∀ p : Addr, p.block < B → w'.cell? p = w.cell? p) : RdS S w' B A n l :=
  ⟨h.1, fun hn => by
    obtain ⟨b, o, e, hb, hc⟩ := h.2 hn
    exact ⟨b, o, e, hb, fun j x hx i u hu => (hk _ hb).trans (hc j x hx i u hu)⟩⟩
theorem RdS.more (h : RdS S w B A n l) (hB : B ≤ B') : RdS S w B' A n l :=
  ⟨h.1, fun hn => by
    obtain ⟨b, o, e, hb, hc⟩ := h.2 hn
    exact ⟨b, o, e, by omega, hc⟩⟩
theorem RdS.below (h : RdS S w B A n l) (hb : Below B' w w') (hB : B ≤ B') : RdS S w' B A n l := h.keep fun _ hp => hb.cell (by omega)
theorem RdS.alloc (h : RdS S w B A n l) (hB : B ≤ w.heap.size) (o : Obj) : RdS S (w.alloc o) B A n l := h.keep fun p hp => World.cell?_alloc_lt w o p (by omega)
theorem RdS.only (h : RdS S w B A n l) (ho : Only lo hi w w') (hB : B ≤ lo) (hs : B ≤ w.heap.size) : RdS S w' B A n l :=
  h.keep fun p hp => World.cell?_of_block (ho.block p.block (by omega) (.inl (by omega)))
theorem RdS.q (h : RdS S w B A n l) (hq : Q w w') : RdS S w' B A n l := by
  obtain ⟨m, rfl⟩ := hq
  exact h
theorem RdS.drewN (h : RdS S w B A n l) (m : Nat) : RdS S (w.drewN m) B A n l := h
theorem RdS.raw {k : Nat} (h : RdS S w B A n l) (hk : k < n) : ∃ b o x, A = some ⟨b, o, none⟩ ∧ b < B ∧ l[k]? = some x ∧ ∀ i u, (S.enc x)[i]? = some u → w.cell? ⟨b, o + (k * S.K + i), none⟩ = some u := by
  obtain ⟨b, o, e, hb, hc⟩ := h.2 (by omega)
  have hl : k < l.length := by have := h.1; omega
  have hx : l[k]? = some l[k] := List.getElem?_eq_getElem hl
  exact ⟨b, o, l[k], e, hb, hx, hc k _ hx⟩
/-- A part of a slice, from i on. -/
theorem RdS.part {b o i m : Nat} (h : RdS S w B (some ⟨b, o, none⟩) n l) (hm : i + m ≤ n) : RdS S w B (some ⟨b, o + i * S.K, none⟩) m ((l.drop i).take m) := by
  have h1 := h.1
  refine ⟨by simp; omega, fun hp => ?_⟩
  obtain ⟨b', o', e, hb, hc⟩ := h.2 (by omega)
  injection e with e
  injection e with e1 e2 _
  subst e1 e2
  refine ⟨b, o + i * S.K, rfl, hb, fun j x hx t u hu => ?_⟩
  rw [List.getElem?_take] at hx
  split at hx
  · rw [List.getElem?_drop] at hx
    have := hc (i + j) x hx t u hu
    rw [Nat.add_mul] at this
    rw [show o + i * S.K + (j * S.K + t) = o + (i * S.K + j * S.K + t) from by omega]
    exact this
  · cases hx

theorem Shp.flat_len (S : Shp α) (l : List α) : (l.flatMap S.enc).length = l.length * S.K := by
  induction l with
  | nil => simp
  | cons a l ih => rw [List.flatMap_cons, List.length_append, ih, List.length_cons, S.len, Nat.succ_mul]; omega
theorem Shp.flat_get (S : Shp α) (l : List α) : ∀ (j i : Nat) (x : α) (u : Value), l[j]? = some x → (S.enc x)[i]? = some u → (l.flatMap S.enc)[j * S.K + i]? = some u := by
  induction l with
  | nil => intro j i x u h; simp at h
  | cons a l ih =>
    intro j i x u h hu
    have hi : i < S.K := by
      have := (List.getElem?_eq_some_iff.1 hu).1
      rwa [S.len] at this
    have ha : (S.enc a).length = S.K := S.len a
    rw [List.flatMap_cons]
    match j, h with
    | 0, h =>
      simp at h
      subst h
      rw [Nat.zero_mul, Nat.zero_add, List.getElem?_append_left (by omega)]
      exact hu
    | j + 1, h =>
      rw [Nat.succ_mul, List.getElem?_append_right (by omega), ha, show j * S.K + S.K + i - S.K = j * S.K + i from by omega]
      exact ih j i x u (by simpa using h) hu
theorem Shp.flat_set (S : Shp α) (l : List α) : ∀ (j i : Nat) (x y : α) (u : Value), l[j]? = some x → i < S.K → S.enc y = (S.enc x).set i u → (l.flatMap S.enc).set (j * S.K + i) u = (l.set j y).flatMap S.enc := by
  induction l with
  | nil => intro j i x y u h; simp at h
  | cons a l ih =>
    intro j i x y u h hi hy
    have ha : (S.enc a).length = S.K := S.len a
    match j, h with
    | 0, h =>
      simp at h
      subst h
      rw [List.flatMap_cons, List.set_cons_zero, List.flatMap_cons, Nat.zero_mul, Nat.zero_add, List.set_append_left _ _ (by omega), hy]
    | j + 1, h =>
      rw [List.flatMap_cons, List.set_cons_succ, List.flatMap_cons, Nat.succ_mul, List.set_append_right _ _ (by omega), ha, show j * S.K + S.K + i - S.K = j * S.K + i from by omega, ih j i x y u (by simpa using h) hi hy]
theorem Shp.flat_one (S : Shp α) (l : List α) : ∀ u ∈ l.flatMap S.enc, u.oneCell' = true := by
  intro u hu
  obtain ⟨x, _, hx⟩ := List.mem_flatMap.1 hu
  exact S.one x u hx
/-- What 'make' writes into the cells of n places. -/
theorem Shp.made (S : Shp α) (z : Array Value) (hz : z.toList = S.enc S.z) (n : Nat) : (madeCells z (n * S.K)).toList = (List.replicate n S.z).flatMap S.enc := by
  have hzs : z.size = S.K := by rw [← S.len S.z, ← hz]; simp
  apply List.ext_getElem?
  intro j
  by_cases hj : j < n * S.K
  · have h0 : j / S.K < n := (Nat.div_lt_iff_lt_mul S.pos).2 hj
    have hmod : j % S.K < S.K := Nat.mod_lt _ S.pos
    have hget : (S.enc S.z)[j % S.K]? = some ((S.enc S.z)[j % S.K]'(by rw [S.len]; exact hmod)) := List.getElem?_eq_getElem _
    have h1 := S.flat_get (List.replicate n S.z) (j / S.K) (j % S.K) S.z _ (by simp [h0]) hget
    rw [Nat.div_add_mod'] at h1
    rw [h1]
    have hj' : j < n * S.K := hj
    unfold madeCells
    have hzl : ∀ i, i < S.K → z[i]? = (S.enc S.z)[i]? := fun i _ => by rw [← hz]; simp
    simp [hj', hzs]
    have h7 : (j % S.K) < z.size := by rw [hzs]; exact hmod
    rw [getElem!_pos z _ h7]
    have h8 := (hzl _ hmod).trans hget
    rw [Array.getElem?_eq_getElem h7] at h8
    injection h8
  · have h1 : (madeCells z (n * S.K)).size = n * S.K := by simp [madeCells]
    rw [List.getElem?_eq_none (by rw [Array.length_toList, h1]; omega), List.getElem?_eq_none (by rw [S.flat_len]; simp; omega)]

/-- The cells of a slice that is read. -/
theorem RdS.cells {a : Addr} (h : RdS S w B A n l) (hA : A = some a) : ∀ j u, (l.flatMap S.enc)[j]? = some u → w.cell? (a.add j) = some u := by
  intro j u hu
  subst hA
  have hj : j < l.length * S.K := by
    have := (List.getElem?_eq_some_iff.1 hu).1
    rwa [S.flat_len] at this
  have hd : j / S.K < l.length := (Nat.div_lt_iff_lt_mul S.pos).2 hj
  obtain ⟨b, o, e, _, hc⟩ := h.2 (Nat.lt_of_le_of_lt (Nat.zero_le _) (by rw [← h.1]; exact hd))
  injection e with e
  subst e
  rw [addr_plain]
  have hx : l[j / S.K]? = some l[j / S.K] := List.getElem?_eq_getElem hd
  have hmod : j % S.K < S.K := Nat.mod_lt _ S.pos
  have hi : (S.enc (l[j / S.K]))[j % S.K]? = some ((S.enc (l[j / S.K]))[j % S.K]'(by rw [S.len]; exact hmod)) := List.getElem?_eq_getElem _
  have h5 := S.flat_get l (j / S.K) (j % S.K) _ _ hx hi
  have h6 := hc (j / S.K) _ hx (j % S.K) _ hi
  rw [Nat.div_add_mod'] at h5 h6
  rw [h6, ← h5, hu]
theorem OwnS.nil_ : OwnS S w lo hi (.slice none 0 0) [] := ⟨World.ownsRow_nil _ _ _ _, fun k hk => by simp [Value.ownBlock] at hk⟩
theorem OwnS.form (h : OwnS S w lo hi v l) : ∃ A c, v = .slice A l.length c ∧ l.length ≤ c := by
  rcases h.1.2 with ⟨hv, hn⟩ | ⟨g, cap, cur, hv, _, _, hc, _⟩
  · exact ⟨none, 0, by rw [hv, hn], by omega⟩
  · exact ⟨_, cap, hv, hc⟩
theorem OwnS.mono (h : OwnS S w lo hi v l) (h1 : lo' ≤ lo) (h2 : hi ≤ hi') : OwnS S w lo' hi' v l := by
  refine ⟨⟨h.1.1, ?_⟩, fun k hk => Nat.lt_of_lt_of_le (h.2 k hk) h2⟩
  rcases h.1.2 with hn | ⟨g, cap, cur, hv, hb, r⟩
  · exact .inl hn
  · exact .inr ⟨g, cap, cur, hv, by omega, r⟩
theorem OwnS.lt (h : OwnS S w lo hi v l) : ∀ k, v.ownBlock = some k → lo ≤ k ∧ k < hi ∧ k < w.heap.size :=
  fun k hk => ⟨(h.1.lt k hk).1, h.2 k hk, (h.1.lt k hk).2⟩
theorem OwnS.keep (h : OwnS S w lo hi v l) (hk : ∀ g, v.ownBlock = some g → w'.heap[g]? = w.heap[g]?) : OwnS S w' lo hi v l := by
  refine ⟨⟨h.1.1, ?_⟩, h.2⟩
  rcases h.1.2 with hn | ⟨g, cap, cur, hv, hb, hg, r⟩
  · exact .inl hn
  · exact .inr ⟨g, cap, cur, hv, hb, by rw [hk g (by rw [hv]; rfl)]; exact hg, r⟩
theorem OwnS.below (h : OwnS S w lo hi v l) (hb : Below B w w') (hB : hi ≤ B) : OwnS S w' lo hi v l :=
  h.keep fun g hg => hb.block g (by have := h.2 g hg; omega)
theorem OwnS.only (h : OwnS S w lo hi v l) (ho : Only lo' hi' w w') (hB : hi ≤ lo' ∨ hi' ≤ lo) : OwnS S w' lo hi v l :=
  h.keep fun g hg => by
    have := h.lt g hg
    exact ho.block g (by omega) (by omega)
theorem OwnS.q (h : OwnS S w lo hi v l) (hq : Q w w') : OwnS S w' lo hi v l := by
  obtain ⟨m, rfl⟩ := hq
  exact h
theorem OwnS.drewN (h : OwnS S w lo hi v l) (m : Nat) : OwnS S (w.drewN m) lo hi v l := h
theorem OwnS.here (h : w.ownsRow lo S.ty S.K v n (l.flatMap S.enc)) (hn : n = l.length) : OwnS S w lo w.heap.size v l := by
  subst hn
  exact ⟨h, fun k hk => (h.lt k hk).2⟩
theorem OwnS.alloc (h : OwnS S w lo hi v l) (o : Obj) : OwnS S (w.alloc o) lo hi v l := ⟨h.1.alloc o, h.2⟩
theorem OwnS.rd {c : Nat} (h : OwnS S w lo hi (.slice A n c) l) : RdS S w hi A n l := by
  have hn : l.length = n := by
    obtain ⟨_, _, hv, _⟩ := h.form
    injection hv with _ h2 _
    exact h2.symm
  refine ⟨hn, fun hp => ?_⟩
  rcases h.1.2 with ⟨_, h0⟩ | ⟨g, cap, cur, hv, hb, hg, r⟩
  · omega
  · injection hv with hA _ _
    subst hA
    refine ⟨g, 0, rfl, h.2 g rfl, fun j x hx i u hu => ?_⟩
    have := h.1.cells (g := g) rfl (j * S.K + i) u (S.flat_get l j i x u hx hu)
    rw [addr_zero] at this
    simpa using this
theorem OwnS.raw {c k : Nat} (h : OwnS S w lo hi (.slice A n c) l) (hk : k < n) : ∃ g x, A = some ⟨g, 0, none⟩ ∧ lo ≤ g ∧ g < hi ∧ g < w.heap.size ∧ l[k]? = some x ∧ (∀ i u, (S.enc x)[i]? = some u → w.cell? ⟨g, k * S.K + i, none⟩ = some u) ∧ (∀ j, w.frozen? ⟨g, j, none⟩ = false) := by
  obtain ⟨b, o, x, hA, hb, hx, hc⟩ := h.rd.raw hk
  have hn : l.length = n := h.rd.1
  rcases h.1.2 with ⟨_, h0⟩ | ⟨g, cap, cur, hv, hlo, hg, r⟩
  · omega
  · injection hv with hA' _ _
    subst hA'
    injection hA with hA
    injection hA with h1 h2 _
    subst h1 h2
    refine ⟨g, x, rfl, hlo, hb, (h.lt g rfl).2.2, hx, fun i u hu => ?_, fun j => frozen_of_row w g j cur _ hg⟩
    have := hc i u hu
    rwa [Nat.zero_add] at this
theorem OwnS.lit0 (S : Shp α) (w : World) : OwnS S (w.alloc (.cells #[] S.ty)) w.heap.size (w.heap.size + 1) (.slice (some ⟨w.heap.size, 0, none⟩) 0 0) [] :=
  ⟨World.ownsRow_made w #[] 0 (Nat.le_refl _) (by unfold maxLen; omega) (by simp), fun k hk => by simp [Value.ownBlock] at hk; omega⟩
/-- A literal of m elements that has been laid in a block of its own. -/
theorem OwnS.lit (w : World) (l : List α) (cs : Array Value) (hcs : cs.toList = l.flatMap S.enc) (m : Nat) (hm : l.length = m) (hml : m ≤ 1048576) : OwnS S (w.alloc (.cells cs S.ty)) w.heap.size (w.heap.size + 1) (.slice (some ⟨w.heap.size, 0, none⟩) m m) l := by
  subst hm
  have hsz : cs.size = l.length * S.K := by rw [← S.flat_len l, ← hcs]; simp
  exact ⟨⟨S.flat_len l, .inr ⟨w.heap.size, l.length, cs, rfl, Nat.le_refl _, heap_alloc_new w _, Nat.le_refl _, by unfold maxLen; omega, hsz, by rw [← hsz, List.take_of_length_le (by simp)]; exact hcs⟩⟩, fun k hk => by simp [Value.ownBlock] at hk; omega⟩
/-- One cell of one element is written. -/
theorem OwnS.set_ {c k g i o : Nat} {x y : α} {u : Value} (h : OwnS S w lo hi (.slice (some ⟨g, 0, none⟩) n c) l) (hx : l[k]? = some x) (ho : o = k * S.K + i) (hi' : i < S.K) (hy : S.enc y = (S.enc x).set i u) :
    OwnS S (w.setCell ⟨g, o, none⟩ u) lo hi (.slice (some ⟨g, 0, none⟩) n c) (l.set k y) ∧ Only lo hi w (w.setCell ⟨g, o, none⟩ u) := by
  subst ho
  have hn : l.length = n := h.rd.1
  have h1 := h.1
  rw [hn] at h1
  have hs := h1.stored (k * S.K + i) u
  have hl := h.lt g rfl
  refine ⟨⟨by rw [List.length_set, hn, ← S.flat_set l k i x y u hx hi' hy]; exact hs.1, h.2⟩, Only.grown hs.2 fun g' hg' => ?_⟩
  injection hg' with hg'
  omega
/-- A row of structs lies apart from a block of another type. -/
theorem OwnS.far {g : Nat} {t : TypeId} {cs : Array Value} {fr : Nat × Nat} (h : OwnS S w lo hi v l) (hg : w.heap[g]? = some (.cells cs t fr)) (ht : t ≠ S.ty) : Far v g := by
  rcases h.1.2 with ⟨hv, _⟩ | ⟨g', c, cur, hv, _, hg', _⟩
  · rw [hv]
    exact Far.nil_ g
  · rw [hv]
    refine Far.of_lt fun e1 => ?_
    subst e1
    have h2 := hg.symm.trans hg'
    injection h2 with h2
    injection h2 with _ h2
    exact ht h2
end

section
variable {α : Type} {S : Shp α}
/-- 'append(row, list...)': the list is read anywhere, also in a literal that has just been laid; it may be empty. -/
theorem run_spreadS {P : Program} (w : World) (ts ty : TypeId) (i0 : TypeInfo) (z : Value) (bytes : Nat) (ht : P.underlying ts = some (.slice S.ty)) (hi : P.info? S.ty = some i0) (hz : i0.zero = some z) (hsize : i0.size = S.K) (hby : i0.bytes = bytes) (hzs : z.cells.size = S.K) (hb64 : bytes ≤ 128)
    (A : Option Addr) (n c : Nat) (l : List α) (lo hi' : Nat) (hown : OwnS S w lo hi' (.slice A n c) l) (A2 : Option Addr) (m c2 B : Nat) (l2 : List α) (hr : RdS S w B A2 m l2)
    (hn : n + m ≤ 1099511627776) (hbase : lo ≤ w.heap.size) :
    ∃ A' c' w', (Builtin.append_ #[ts, ts] ty #[.slice A n c, .slice A2 m c2]).run P w = .ok (.slice A' (n + m) c') w' ∧ OwnS S w' lo w'.heap.size (.slice A' (n + m) c') (l ++ l2) ∧ Only lo hi' w w' := by
  have hl : l.length = n := hown.rd.1
  have hl2 : l2.length = m := hr.1
  by_cases hm : m = 0
  · subst hm
    have hl0 : l2 = [] := List.eq_nil_of_length_eq_zero hl2
    subst hl0
    have hs : Src P i0.size ts (.slice A2 0 c2) 0 [] w := by
      cases A2 with
      | none => exact Src.ofNil (w := w) ht c2
      | some a => exact Src.ofSlice w ht a 0 c2 [] (by simp) (by simp) (by simp)
    obtain ⟨_, c', hv, hle⟩ := hown.form
    injection hv with _ _ hv
    have hrun := run_append_nothing (P := P) w ts ts ty S.ty i0 ht hi A n c (by omega) (.slice A2 0 c2) hs
    refine ⟨A, c, w, hrun, ?_, Only.refl _ _ _⟩
    rw [List.append_nil]
    exact ⟨hown.mono (Nat.le_refl _) (Nat.le_refl _) |>.1, fun k hk => (hown.lt k hk).2.2⟩
  have hown1 := hown.1
  rw [hl] at hown1
  obtain ⟨b, o, hA, hbB, hc⟩ := hr.2 (by omega)
  subst hA
  have hbytes : (n + m) * bytes ≤ 1099511627776 * 128 := Nat.mul_le_mul hn hb64
  obtain ⟨v', w', hrun, h2, h3, _⟩ := run_append_own (P := P) w lo ts ty S.ty i0 z S.K bytes ht hi hz hsize hby hzs S.pos (.slice A n c) n (l.flatMap S.enc) hown1 ⟨b, o, none⟩ m c2 (l2.flatMap S.enc) (by rw [S.flat_len, hl2])
    (hr.cells rfl) (S.flat_one l2) (by unfold maxLen; omega) (by omega) hbase
  rw [← List.flatMap_append] at h2
  have hO : OwnS S w' lo w'.heap.size v' (l ++ l2) := OwnS.here h2 (by simp [hl, hl2])
  obtain ⟨A', c', hv, _⟩ := hO.form
  have hlen : (l ++ l2).length = n + m := by simp [hl, hl2]
  rw [hlen] at hv
  subst hv
  exact ⟨A', c', w', hrun, hO, Only.grown h3 fun g hg => by have := hown.lt g hg; omega⟩
/-- 'append(part, list...)' where the part has no room: a new row; the part's own array is left alone. -/
theorem run_growS {P : Program} (w : World) (ts ty : TypeId) (i0 : TypeInfo) (z : Value) (bytes : Nat) (ht : P.underlying ts = some (.slice S.ty)) (hi : P.info? S.ty = some i0) (hz : i0.zero = some z) (hsize : i0.size = S.K) (hby : i0.bytes = bytes) (hzs : z.cells.size = S.K) (hb64 : bytes ≤ 128)
    (b o n c : Nat) (l : List α) (B1 : Nat) (hl : RdS S w B1 (some ⟨b, o, none⟩) n l) (b2 o2 m c2 B : Nat) (l2 : List α) (hr : RdS S w B (some ⟨b2, o2, none⟩) m l2)
    (hn : n + m ≤ 1099511627776) (hc : c < n + m) :
    ∃ A' c' w', (Builtin.append_ #[ts, ts] ty #[.slice (some ⟨b, o, none⟩) n c, .slice (some ⟨b2, o2, none⟩) m c2]).run P w = .ok (.slice A' (n + m) c') w' ∧ OwnS S w' w.heap.size w'.heap.size (.slice A' (n + m) c') (l ++ l2) ∧ Below w.heap.size w w' := by
  have hbytes : (n + m) * bytes ≤ 1099511627776 * 128 := Nat.mul_le_mul hn hb64
  obtain ⟨v', w', hrun, h2, h3⟩ := run_append_arg_grows (P := P) w ts ty S.ty i0 z S.K bytes ht hi hz hsize hby hzs S.pos ⟨b, o, none⟩ n c (l.flatMap S.enc) (by rw [S.flat_len, hl.1]) (hl.cells rfl) ⟨b2, o2, none⟩ m c2 (l2.flatMap S.enc) (by rw [S.flat_len, hr.1]) (hr.cells rfl) hc (by unfold maxLen; omega) (by omega)
  rw [← List.flatMap_append] at h2
  have hO : OwnS S w' w.heap.size w'.heap.size v' (l ++ l2) := OwnS.here h2 (by simp [hl.1, hr.1])
  obtain ⟨A', c', hv, _⟩ := hO.form
  have hlen : (l ++ l2).length = n + m := by simp [hl.1, hr.1]
  rw [hlen] at hv
  subst hv
  exact ⟨A', c', w', hrun, hO, (Below.refl _ _).grown h3 (Nat.le_refl _) (by simp)⟩
end
theorem listOf {α : Type} (Q : Nat → α → Prop) : ∀ n, (∀ i, i < n → ∃ v, Q i v) → ∃ l : List α, l.length = n ∧ ∀ j x, l[j]? = some x → Q j x := by
  intro n
  induction n with
  | zero => intro _; exact ⟨[], rfl, fun j x h => by simp at h⟩
  | succ n ih =>
    intro h
    obtain ⟨l, hl, hq⟩ := ih fun i hi => h i (by omega)
    obtain ⟨v, hv⟩ := h n (by omega)
    refine ⟨l ++ [v], by simp [hl], fun j x hj => ?_⟩
    rcases Nat.lt_or_ge j l.length with hlt | hge
    · rw [List.getElem?_append_left hlt] at hj
      exact hq j x hj
    · rw [List.getElem?_append_right hge] at hj
      have h0 : j - l.length = 0 := by
        have := (List.getElem?_eq_some_iff.1 hj).1
        simp at this
        omega
      rw [h0] at hj
      injection hj with hj
      subst hj
      obtain rfl : j = n := by omega
      exact hv
theorem takeS_next {α : Type} (l : List α) (k : Nat) (x : α) (hx : l[k]? = some x) : l.take (k + 1) = l.take k ++ [x] := by
  rw [List.take_add_one, hx]
  rfl
theorem fillS_step {α : Type} (l : List α) (z x : α) (k n : Nat) (hl : l.length = n) (hx : l[k]? = some x) (hk : k < n) :
    (l.take k ++ List.replicate (n - k) z).set k x = l.take (k + 1) ++ List.replicate (n - (k + 1)) z := by
  rw [show n - k = (n - (k + 1)) + 1 from by omega, List.replicate_succ, takeS_next l k x hx, List.set_append_right _ _ (by simp; omega)]
  simp
  rw [show k - min k l.length = 0 from by omega]
  rfl
end Go.Proofs.Ytnfnmdeiaihgnaa
