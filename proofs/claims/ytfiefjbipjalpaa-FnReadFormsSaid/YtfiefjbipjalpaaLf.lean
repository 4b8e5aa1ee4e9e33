/- Rows of leaves in memory: four cells a leaf. -/
import Derived.Test.YtfiefjbipjalpaaIn
import Derived.Test.YtfiefjbipjalpaaPush
import Derived.Test.YtfiefjbipjalpaaFoMath
namespace Go.Proofs.Ytfiefjbipjalpaa
open Go.RowKit

/-- A leaf as a value. -/
structure Lv where
  x : Int
  y : Int
  fx : Bool
  fy : Bool
def Lv.enc (l : Lv) : List Value := [.int .i64 l.x, .int .i64 l.y, .bool l.fx, .bool l.fy]
abbrev Lv.agg (l : Lv) : Value := .agg #[.int .i64 l.x, .int .i64 l.y, .bool l.fx, .bool l.fy]
def Lv.down (l : Lv) : Bool := l.fx != l.fy
def Lv.flX (l : Lv) : Lv := ⟨l.x, l.y, !l.fx, l.fy⟩
def Lv.flY (l : Lv) : Lv := ⟨l.x, l.y, l.fx, !l.fy⟩
def Lv.fl (al : Bool) (l : Lv) : Lv := if al then l.flX else l.flY
def Fo.Lf.v (l : Fo.Lf) : Lv := ⟨l.x, l.y, l.fx, l.fy⟩

theorem infoLf : (Try.prog.info? 100).map (fun i => (i.zero, i.size, i.bytes)) = some (some (.agg #[.int .i64 0, .int .i64 0, .bool false, .bool false]), 4, 24) := by kernel_rfl

set_option maxRecDepth 100000 in
theorem specDown_any (l : Lv) (w : World) :
    Calls Try.prog 99 #[l.agg] w fun e w' => e = .returned (.bool l.down) ∧ Below w.heap.size w w' := by
  have HB : Below w.heap.size w (w.alloc (.cells #[.int .i64 l.x, .int .i64 l.y, .bool l.fx, .bool l.fy] 100)) := (Below.refl _ _).alloc (Nat.le_refl _) _
  go_enter Try.func99, Try.ntmps99
  go_wp2
  go_ret
  exact ⟨rfl, HB⟩
set_option maxRecDepth 100000 in
theorem implDown_any (l : Lv) (w : World) :
    Calls Try.prog 119 #[l.agg] w fun e w' => e = .returned (.bool l.down) ∧ Below w.heap.size w w' := by
  have HB : Below w.heap.size w (w.alloc (.cells #[.int .i64 l.x, .int .i64 l.y, .bool l.fx, .bool l.fy] 100)) := (Below.refl _ _).alloc (Nat.le_refl _) _
  go_enter Try.func119, Try.ntmps119
  go_wp2
  go_ret
  exact ⟨rfl, HB⟩

/-- The slice at A of n places reads as l; its cells lie below block B. -/
def RdV (w : World) (B : Nat) (A : Option Addr) (n : Nat) (l : List Lv) : Prop :=
  l.length = n ∧ (0 < n → ∃ b o, A = some ⟨b, o, none⟩ ∧ b < B ∧ ∀ j x, l[j]? = some x → ∀ i u, x.enc[i]? = some u → w.cell? ⟨b, o + (j * 4 + i), none⟩ = some u)
def four (w : World) (b o : Nat) (x : Lv) : Prop :=
  w.cell? ⟨b, o, none⟩ = some (.int .i64 x.x) ∧ w.cell? ⟨b, o + 1, none⟩ = some (.int .i64 x.y) ∧ w.cell? ⟨b, o + 2, none⟩ = some (.bool x.fx) ∧ w.cell? ⟨b, o + 3, none⟩ = some (.bool x.fy)

section
variable {w w' : World} {B B' lo hi lo' hi' n : Nat} {A : Option Addr} {l : List Lv} {v : Value}
theorem RdV.none_ : RdV w B A 0 [] := ⟨rfl, fun h => absurd h (by omega)⟩
theorem RdV.at_ {k : Nat} (h : RdV w B A n l) (hk : k < n) : ∃ b o x, A = some ⟨b, o, none⟩ ∧ b < B ∧ l[k]? = some x ∧ four w b (o + k * 4) x := by
  obtain ⟨b, o, e, hb, hc⟩ := h.2 (by omega)
  have hl : k < l.length := by have := h.1; omega
  have hx : l[k]? = some l[k] := List.getElem?_eq_getElem hl
  exact ⟨b, o, l[k], e, hb, hx, hc k _ hx 0 _ rfl, hc k _ hx 1 _ rfl, hc k _ hx 2 _ rfl, hc k _ hx 3 _ rfl⟩
theorem RdV.keep (h : RdV w B A n l) (hk : ∀ p : Addr, p.block < B → w'.cell? p = w.cell? p) : RdV w' B A n l :=
  ⟨h.1, fun hn => by
    obtain ⟨b, o, e, hb, hc⟩ := h.2 hn
    exact ⟨b, o, e, hb, fun j x hx i u hu => (hk _ hb).trans (hc j x hx i u hu)⟩⟩
theorem RdV.more (h : RdV w B A n l) (hB : B ≤ B') : RdV w B' A n l :=
  ⟨h.1, fun hn => by
    obtain ⟨b, o, e, hb, hc⟩ := h.2 hn
    exact ⟨b, o, e, by omega, hc⟩⟩
theorem RdV.below (h : RdV w B A n l) (hb : Below B' w w') (hB : B ≤ B') : RdV w' B A n l := h.keep fun _ hp => hb.cell (by omega)
theorem RdV.alloc (h : RdV w B A n l) (hB : B ≤ w.heap.size) (o : Obj) : RdV (w.alloc o) B A n l := h.keep fun p hp => World.cell?_alloc_lt w o p (by omega)
theorem RdV.q (h : RdV w B A n l) (hq : Q w w') : RdV w' B A n l := by
  obtain ⟨m, rfl⟩ := hq
  exact h
theorem RdV.drewN (h : RdV w B A n l) (m : Nat) : RdV (w.drewN m) B A n l := h

theorem enc_len (l : List Lv) : (l.flatMap Lv.enc).length = l.length * 4 := by
  induction l with
  | nil => rfl
  | cons a l ih => rw [List.flatMap_cons, List.length_append, ih, List.length_cons]; simp [Lv.enc]; omega
theorem enc_get (l : List Lv) : ∀ (j i : Nat) (x : Lv) (u : Value), l[j]? = some x → x.enc[i]? = some u → (l.flatMap Lv.enc)[j * 4 + i]? = some u := by
  induction l with
  | nil => intro j i x u h; simp at h
  | cons a l ih =>
    intro j i x u h hu
    have hi : i < 4 := by
      have := (List.getElem?_eq_some_iff.1 hu).1
      simpa [Lv.enc] using this
    have ha : a.enc.length = 4 := rfl
    rw [List.flatMap_cons]
    match j, h with
    | 0, h =>
      simp at h
      subst h
      rw [List.getElem?_append_left (by omega)]
      simpa using hu
    | j + 1, h =>
      rw [List.getElem?_append_right (by omega), ha, show (j + 1) * 4 + i - 4 = j * 4 + i from by omega]
      exact ih j i x u (by simpa using h) hu
theorem enc_set (l : List Lv) : ∀ (j i : Nat) (x y : Lv) (u : Value), l[j]? = some x → i < 4 → y.enc = x.enc.set i u → (l.flatMap Lv.enc).set (j * 4 + i) u = (l.set j y).flatMap Lv.enc := by
  induction l with
  | nil => intro j i x y u h; simp at h
  | cons a l ih =>
    intro j i x y u h hi hy
    have ha : a.enc.length = 4 := rfl
    match j, h with
    | 0, h =>
      simp at h
      subst h
      rw [List.flatMap_cons, List.set_cons_zero, List.flatMap_cons, List.set_append_left _ _ (by omega), hy]
      simp
    | j + 1, h =>
      rw [List.flatMap_cons, List.set_cons_succ, List.flatMap_cons, List.set_append_right _ _ (by omega), ha, show (j + 1) * 4 + i - 4 = j * 4 + i from by omega, ih j i x y u (by simpa using h) hi hy]
theorem enc_one (l : List Lv) : ∀ u ∈ l.flatMap Lv.enc, u.oneCell' = true := by
  intro u hu
  obtain ⟨x, _, hx⟩ := List.mem_flatMap.1 hu
  simp [Lv.enc] at hx
  rcases hx with rfl | rfl | rfl | rfl <;> rfl

/-- The slice v is the call's own and holds the leaves l. -/
def OwnV (w : World) (lo hi : Nat) (v : Value) (l : List Lv) : Prop :=
  w.ownsRow lo 100 4 v l.length (l.flatMap Lv.enc) ∧ ∀ k, v.ownBlock = some k → k < hi
theorem OwnV.nil_ : OwnV w lo hi (.slice none 0 0) [] := ⟨World.ownsRow_nil _ _ _ _, fun k hk => by simp [Value.ownBlock] at hk⟩
theorem OwnV.form (h : OwnV w lo hi v l) : ∃ A c, v = .slice A l.length c ∧ l.length ≤ c := by
  rcases h.1.2 with ⟨hv, hn⟩ | ⟨g, cap, cur, hv, _, _, hc, _⟩
  · exact ⟨none, 0, by rw [hv, hn], by omega⟩
  · exact ⟨_, cap, hv, hc⟩
theorem OwnV.mono (h : OwnV w lo hi v l) (h1 : lo' ≤ lo) (h2 : hi ≤ hi') : OwnV w lo' hi' v l := by
  refine ⟨⟨h.1.1, ?_⟩, fun k hk => Nat.lt_of_lt_of_le (h.2 k hk) h2⟩
  rcases h.1.2 with hn | ⟨g, cap, cur, hv, hb, r⟩
  · exact .inl hn
  · exact .inr ⟨g, cap, cur, hv, by omega, r⟩
theorem OwnV.lt (h : OwnV w lo hi v l) : ∀ k, v.ownBlock = some k → lo ≤ k ∧ k < hi ∧ k < w.heap.size :=
  fun k hk => ⟨(h.1.lt k hk).1, h.2 k hk, (h.1.lt k hk).2⟩
theorem OwnV.keep (h : OwnV w lo hi v l) (hk : ∀ g, v.ownBlock = some g → w'.heap[g]? = w.heap[g]?) : OwnV w' lo hi v l := by
  refine ⟨⟨h.1.1, ?_⟩, h.2⟩
  rcases h.1.2 with hn | ⟨g, cap, cur, hv, hb, hg, r⟩
  · exact .inl hn
  · exact .inr ⟨g, cap, cur, hv, hb, by rw [hk g (by rw [hv]; rfl)]; exact hg, r⟩
theorem OwnV.below (h : OwnV w lo hi v l) (hb : Below B w w') (hB : hi ≤ B) : OwnV w' lo hi v l :=
  h.keep fun g hg => hb.block g (by have := h.2 g hg; omega)
theorem OwnV.only (h : OwnV w lo hi v l) (ho : Only lo' hi' w w') (hB : hi ≤ lo' ∨ hi' ≤ lo) : OwnV w' lo hi v l :=
  h.keep fun g hg => by
    have := h.lt g hg
    exact ho.block g (by omega) (by omega)
theorem OwnV.q (h : OwnV w lo hi v l) (hq : Q w w') : OwnV w' lo hi v l := by
  obtain ⟨m, rfl⟩ := hq
  exact h
theorem OwnV.drewN (h : OwnV w lo hi v l) (m : Nat) : OwnV (w.drewN m) lo hi v l := h
theorem OwnV.here (h : w.ownsRow lo 100 4 v n (l.flatMap Lv.enc)) (hn : n = l.length) : OwnV w lo w.heap.size v l := by
  subst hn
  exact ⟨h, fun k hk => (h.lt k hk).2⟩
theorem OwnV.alloc (h : OwnV w lo hi v l) (o : Obj) : OwnV (w.alloc o) lo hi v l := ⟨h.1.alloc o, h.2⟩
theorem OwnV.rd {c : Nat} (h : OwnV w lo hi (.slice A n c) l) : RdV w hi A n l := by
  have hn : l.length = n := by
    obtain ⟨_, _, hv, _⟩ := h.form
    injection hv with _ h2 _
    exact h2.symm
  refine ⟨hn, fun hp => ?_⟩
  rcases h.1.2 with ⟨_, h0⟩ | ⟨g, cap, cur, hv, hb, hg, r⟩
  · omega
  · injection hv with hA _ _
    subst hA
    refine ⟨g, 0, rfl, h.2 g rfl, fun j x hx i u hu => ?_⟩
    have := h.1.cells (g := g) rfl (j * 4 + i) u (enc_get l j i x u hx hu)
    rw [addr_zero] at this
    simpa using this
theorem OwnV.at_ {c k : Nat} (h : OwnV w lo hi (.slice A n c) l) (hk : k < n) : ∃ g x, A = some ⟨g, 0, none⟩ ∧ lo ≤ g ∧ g < hi ∧ g < w.heap.size ∧ l[k]? = some x ∧ four w g (k * 4) x ∧ (∀ j, w.frozen? ⟨g, j, none⟩ = false) := by
  obtain ⟨b, o, x, hA, hb, hx, hc⟩ := h.rd.at_ hk
  have hn : l.length = n := h.rd.1
  rcases h.1.2 with ⟨_, h0⟩ | ⟨g, cap, cur, hv, hlo, hg, r⟩
  · omega
  · injection hv with hA' _ _
    subst hA'
    injection hA with hA
    injection hA with h1 h2 _
    subst h1 h2
    rw [Nat.zero_add] at hc
    exact ⟨g, x, rfl, hlo, hb, (h.lt g rfl).2.2, hx, hc, fun j => frozen_of_row w g j cur _ hg⟩
theorem OwnV.lit0 (w : World) : OwnV (w.alloc (.cells #[] 100)) w.heap.size (w.heap.size + 1) (.slice (some ⟨w.heap.size, 0, none⟩) 0 0) [] :=
  ⟨World.ownsRow_made w #[] 0 (Nat.le_refl _) (by unfold maxLen; omega) rfl, fun k hk => by simp [Value.ownBlock] at hk; omega⟩
theorem OwnV.lit1 (w : World) (x : Lv) : OwnV (w.alloc (.cells #[.int .i64 x.x, .int .i64 x.y, .bool x.fx, .bool x.fy] 100)) w.heap.size (w.heap.size + 1) (.slice (some ⟨w.heap.size, 0, none⟩) 1 1) [x] :=
  ⟨⟨rfl, .inr ⟨w.heap.size, 1, #[.int .i64 x.x, .int .i64 x.y, .bool x.fx, .bool x.fy], rfl, Nat.le_refl _, heap_alloc_new w _, Nat.le_refl _, by unfold maxLen; omega, rfl, rfl⟩⟩, fun k hk => by simp [Value.ownBlock] at hk; omega⟩
/-- One cell of one leaf is written. -/
theorem OwnV.set_ {c k g i : Nat} {x y : Lv} {u : Value} (h : OwnV w lo hi (.slice (some ⟨g, 0, none⟩) n c) l) (hx : l[k]? = some x) (hi' : i < 4) (hy : y.enc = x.enc.set i u) :
    OwnV (w.setCell ⟨g, k * 4 + i, none⟩ u) lo hi (.slice (some ⟨g, 0, none⟩) n c) (l.set k y) ∧ Only lo hi w (w.setCell ⟨g, k * 4 + i, none⟩ u) := by
  have hn : l.length = n := h.rd.1
  have h1 := h.1
  rw [hn] at h1
  have hs := h1.stored (k * 4 + i) u
  have hl := h.lt g rfl
  refine ⟨⟨by rw [List.length_set, hn, ← enc_set l k i x y u hx hi' hy]; exact hs.1, h.2⟩, Only.grown hs.2 fun g' hg' => ?_⟩
  injection hg' with hg'
  omega
/-- A row of leaves lies apart from a block of another type. -/
theorem OwnV.far {g : Nat} {t : TypeId} {cs : Array Value} {fr : Nat × Nat} (h : OwnV w lo hi v l) (hg : w.heap[g]? = some (.cells cs t fr)) (ht : t ≠ 100) : Far v g := by
  rcases h.1.2 with ⟨hv, _⟩ | ⟨g', c, cur, hv, _, hg', _⟩
  · rw [hv]
    exact Far.nil_ g
  · rw [hv]
    refine Far.of_lt fun e1 => ?_
    subst e1
    have h2 := hg.symm.trans hg'
    injection h2 with h2
    injection h2 with _ h2
    exact ht h2
theorem OwnV.keepT (h : OwnV w lo hi v l) (hk : ∀ b cs fr, b < hi → w.heap[b]? = some (.cells cs 100 fr) → w'.heap[b]? = w.heap[b]?) : OwnV w' lo hi v l :=
  h.keep fun g hg => by
    have hlt := h.lt g hg
    rcases h.1.2 with ⟨hv, _⟩ | ⟨g', cap, cur, hv, hlo, hgg, _⟩
    · rw [hv] at hg
      simp [Value.ownBlock] at hg
    · rw [hv] at hg
      simp only [Value.ownBlock, Option.some.injEq] at hg
      subst hg
      exact hk _ cur _ hlt.2.1 hgg
end

/-- 'append(out, leaf)': the leaf has been laid in a block of its own. -/
theorem wp_pushV (w : World) {ops : Array Oper} {rest : List Oper} {o : Oper} {a : Act} {Qx : Exit → Act → World → Prop} (hgd : o.guard = none) (s x : Operand)
    (ho : o.op = .call { callee := .builtin .append, args := #[s, x], argTypes := #[106, 106] })
    (A : Option Addr) (n c : Nat) (l : List Lv) (lo hi' : Nat) (hs : a.eval s = .slice A n c) (hown : OwnV w lo hi' (.slice A n c) l) (y : Lv) (G : Nat)
    (hx : a.eval x = .slice (some ⟨G, 0, none⟩) 1 1) (hG : w.heap.size = G) (hn : n ≤ 1099511627776) (hbase : lo ≤ w.heap.size)
    (h : ∀ A' c' w', OwnV w' lo w'.heap.size (.slice A' (n + 1) c') (l ++ [y]) → Only lo hi' w w' → wpList Try.prog ops Qx rest (a.put o.dst (.slice A' (n + 1) c')) w') :
    wpList Try.prog ops Qx (o :: rest) a (w.alloc (.cells #[.int .i64 y.x, .int .i64 y.y, .bool y.fx, .bool y.fy] 100)) := by
  subst hG
  obtain ⟨i0, hi0, hz0, hz1, hz2⟩ := info_parts infoLf
  have hl : l.length = n := hown.rd.1
  have hr := hown.1
  rw [hl] at hr
  refine wpList_append_own _ hgd s x _ ho lo 100 i0 _ 4 24 Try.underlying106 hi0 hz0 hz1 hz2 rfl (by omega) (.slice A n c) n (l.flatMap Lv.enc) hs (hr.alloc _) ⟨w.heap.size, 0, none⟩ 1 1 y.enc hx rfl ?_ ?_ (by unfold maxLen; omega) (by omega) (by simp; omega) ?_
  · intro j u hj
    rw [addr_zero, cell_of_row _ _ _ _ _ _ (heap_alloc_new w _)]
    simpa [Lv.enc] using hj
  · intro u hu
    exact enc_one [y] u (by simpa using hu)
  · intro v' w' hown' hg _
    have hmap : l.flatMap Lv.enc ++ y.enc = (l ++ [y]).flatMap Lv.enc := by simp
    rw [hmap] at hown'
    have hO : OwnV w' lo w'.heap.size v' (l ++ [y]) := OwnV.here hown' (by simp [hl])
    obtain ⟨A', c', hv, _⟩ := hO.form
    have hlen : (l ++ [y]).length = n + 1 := by simp [hl]
    rw [hlen] at hv
    subst hv
    refine h A' c' w' hO ?_
    refine (Only.of_below ((Below.refl _ _).alloc (Nat.le_refl _) _) lo hi').trans (Only.grown hg fun g hg' => ?_)
    have := hown.lt g hg'
    omega

/-- 'append(out, list...)'. -/
theorem run_spreadV (w : World) (ty : TypeId) (A : Option Addr) (n c : Nat) (l : List Lv) (lo hi' : Nat) (hown : OwnV w lo hi' (.slice A n c) l) (A2 : Option Addr) (m c2 B : Nat) (l2 : List Lv) (hr : RdV w B A2 m l2)
    (hn : n + m ≤ 1099511627776) (hbase : lo ≤ w.heap.size) (hm : 0 < m) :
    ∃ A' c' w', (Builtin.append_ #[106, 106] ty #[.slice A n c, .slice A2 m c2]).run Try.prog w = .ok (.slice A' (n + m) c') w' ∧ OwnV w' lo w'.heap.size (.slice A' (n + m) c') (l ++ l2) ∧ Only lo hi' w w' := by
  obtain ⟨i0, hi0, hz0, hz1, hz2⟩ := info_parts infoLf
  have hl : l.length = n := hown.rd.1
  have hl2 : l2.length = m := hr.1
  have hown1 := hown.1
  rw [hl] at hown1
  obtain ⟨b, o, hA, hbB, hc⟩ := hr.2 hm
  subst hA
  obtain ⟨v', w', hrun, h2, h3, _⟩ := run_append_own (P := Try.prog) w lo 106 ty 100 i0 _ 4 24 Try.underlying106 hi0 hz0 hz1 hz2 rfl (by omega) (.slice A n c) n (l.flatMap Lv.enc) hown1 ⟨b, o, none⟩ m c2 (l2.flatMap Lv.enc) (by rw [enc_len, hl2])
    (fun j u hu => by
      rw [addr_plain]
      have hj : j < l2.length * 4 := by
        have := (List.getElem?_eq_some_iff.1 hu).1
        rwa [enc_len] at this
      have hx : l2[j / 4]? = some l2[j / 4] := List.getElem?_eq_getElem (by omega)
      have hd : (l2[j / 4]'(by omega)).enc.length = 4 := rfl
      have hi : (l2[j / 4]'(by omega)).enc[j % 4]? = some ((l2[j / 4]'(by omega)).enc[j % 4]'(by omega)) := List.getElem?_eq_getElem (by omega)
      have h5 := enc_get l2 (j / 4) (j % 4) _ _ hx hi
      have h6 := hc (j / 4) _ hx (j % 4) _ hi
      rw [show j / 4 * 4 + j % 4 = j from by omega] at h5 h6
      rw [h6, ← h5, hu]) (enc_one l2) (by unfold maxLen; omega) (by omega) hbase
  rw [← List.flatMap_append] at h2
  have hO : OwnV w' lo w'.heap.size v' (l ++ l2) := OwnV.here h2 (by simp [hl, hl2])
  obtain ⟨A', c', hv, _⟩ := hO.form
  have hlen : (l ++ l2).length = n + m := by simp [hl, hl2]
  rw [hlen] at hv
  subst hv
  exact ⟨A', c', w', hrun, hO, Only.grown h3 fun g hg => by have := hown.lt g hg; omega⟩
theorem wpo_spreadV (w : World) {o : Oper} {a : Act} {K : Act → World → Prop} {Qx : Exit → Act → World → Prop} (s x : Operand)
    (ho : o.op = .call { callee := .builtin .append, args := #[s, x], argTypes := #[106, 106] })
    (A : Option Addr) (n c : Nat) (l : List Lv) (lo hi' : Nat) (hs : a.eval s = .slice A n c) (hown : OwnV w lo hi' (.slice A n c) l) (A2 : Option Addr) (m c2 B : Nat) (l2 : List Lv) (hx : a.eval x = .slice A2 m c2) (hr : RdV w B A2 m l2)
    (hn : n + m ≤ 1099511627776) (hbase : lo ≤ w.heap.size) (hm : 0 < m)
    (h : ∀ A' c' w', OwnV w' lo w'.heap.size (.slice A' (n + m) c') (l ++ l2) → Only lo hi' w w' → K (a.put o.dst (.slice A' (n + m) c')) w') : o.wp Try.prog a w K Qx := by
  obtain ⟨A', c', w', hrun, h2, h3⟩ := run_spreadV w o.type A n c l lo hi' hown A2 m c2 B l2 hr hn hbase hm
  unfold Oper.wp execOp
  simp only [ho, resolve, invoke, builtin, Sem.run_bind, Sem.run_pure, Result.andThen_ok, List.map_toArray, List.map_cons, List.map_nil, hs, hx, hrun]
  exact h A' c' w' h2 h3
theorem wp_spreadV (w : World) {ops : Array Oper} {rest : List Oper} {o : Oper} {a : Act} {Qx : Exit → Act → World → Prop} (hgd : o.guard = none) (s x : Operand)
    (ho : o.op = .call { callee := .builtin .append, args := #[s, x], argTypes := #[106, 106] })
    (A : Option Addr) (n c : Nat) (l : List Lv) (lo hi' : Nat) (hs : a.eval s = .slice A n c) (hown : OwnV w lo hi' (.slice A n c) l) (A2 : Option Addr) (m c2 B : Nat) (l2 : List Lv) (hx : a.eval x = .slice A2 m c2) (hr : RdV w B A2 m l2)
    (hn : n + m ≤ 1099511627776) (hbase : lo ≤ w.heap.size) (hm : 0 < m)
    (h : ∀ A' c' w', OwnV w' lo w'.heap.size (.slice A' (n + m) c') (l ++ l2) → Only lo hi' w w' → wpList Try.prog ops Qx rest (a.put o.dst (.slice A' (n + m) c')) w') : wpList Try.prog ops Qx (o :: rest) a w :=
  wpList_plain hgd fun _ hK => wpo_spreadV w s x ho A n c l lo hi' hs hown A2 m c2 B l2 hx hr hn hbase hm fun A' c' w' h2 h3 => hK _ _ (h A' c' w' h2 h3)
theorem step_spreadV (w : World) {ops : Array Oper} {o : Oper} {a : Act} {K : Act → World → Prop} {Qx : Exit → Act → World → Prop} {E : Prop} (hgd : o.guard = none) (s x : Operand)
    (ho : o.op = .call { callee := .builtin .append, args := #[s, x], argTypes := #[106, 106] })
    (A : Option Addr) (n c : Nat) (l : List Lv) (lo hi' : Nat) (hs : a.eval s = .slice A n c) (hown : OwnV w lo hi' (.slice A n c) l) (A2 : Option Addr) (m c2 B : Nat) (l2 : List Lv) (hx : a.eval x = .slice A2 m c2) (hr : RdV w B A2 m l2)
    (hn : n + m ≤ 1099511627776) (hbase : lo ≤ w.heap.size) (hm : 0 < m)
    (h : ∀ A' c' w', OwnV w' lo w'.heap.size (.slice A' (n + m) c') (l ++ l2) → Only lo hi' w w' → K (a.put o.dst (.slice A' (n + m) c')) w') :
    if Region.wanted o (yielded ops a.tmps) = true then Oper.wp Try.prog o a w K Qx else E := by
  have hw : Region.wanted o (yielded ops a.tmps) = true := by simp [Region.wanted, hgd]
  rw [if_pos hw]
  exact wpo_spreadV w s x ho A n c l lo hi' hs hown A2 m c2 B l2 hx hr hn hbase hm h
end Go.Proofs.Ytfiefjbipjalpaa
