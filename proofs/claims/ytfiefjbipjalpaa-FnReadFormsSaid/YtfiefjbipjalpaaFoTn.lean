/- The model's way of folding: rows of piles in memory, a pile turned over. -/
import Derived.Test.YtfiefjbipjalpaaBase
import Derived.Test.YtfiefjbipjalpaaLf
namespace Go.Proofs.Ytfiefjbipjalpaa
open Go.RowKit

theorem infoS : (Try.prog.info? 106).map (fun i => (i.zero, i.size, i.bytes)) = some (some (.slice none 0 0), 1, 24) := by kernel_rfl
theorem infoG : (Try.prog.info? 132).map (fun i => (i.zero, i.size, i.bytes)) = some (some (.slice none 0 0), 1, 24) := by kernel_rfl

/-- A handle: what a slice value says. -/
structure H3 where
  a : Option Addr
  n : Nat
  c : Nat
abbrev H3.v (h : H3) : Value := .slice h.a h.n h.c
theorem Own.keepT {w w' : World} {lo hi : Nat} {e : TypeId} {v : Value} {α : Type} {enc : α → Value} {l : List α} (h : Own enc w lo hi e v l) (hk : ∀ b cs fr, b < hi → w.heap[b]? = some (.cells cs e fr) → w'.heap[b]? = w.heap[b]?) : Own enc w' lo hi e v l :=
  h.keep fun g hg => by
    have hlt := h.lt g hg
    rcases h.1.2 with ⟨hv, _⟩ | ⟨g', cap, cur, hv, hlo, hgg, _⟩
    · rw [hv] at hg
      simp [Value.ownBlock] at hg
    · rw [hv] at hg
      simp only [Value.ownBlock, Option.some.injEq] at hg
      subst hg
      exact hk _ cur _ hlt.2.1 hgg

/-- A row of n piles. -/
def RowF (w : World) (lo B : Nat) (h : H3) (n : Nat) (S : Nat → List Lv) : Prop :=
  ∃ hs : List H3, hs.length = n ∧ Own H3.v w lo B 106 h.v hs ∧ ∀ (j : Nat) (p : H3), hs[j]? = some p → OwnV w lo B p.v (S j)
/-- m rows of n piles. -/
def GridF (w : World) (lo B : Nat) (h : H3) (m n : Nat) (S : Nat → Nat → List Lv) : Prop :=
  ∃ hs : List H3, hs.length = m ∧ Own H3.v w lo B 132 h.v hs ∧ ∀ (j : Nat) (p : H3), hs[j]? = some p → RowF w lo B p n (S j)

theorem neVS : (100 : TypeId) ≠ 106 := by decide
theorem ne_of {e : TypeId} (he : e = 100 ∨ e = 106) : e ≠ 132 := by rcases he with rfl | rfl <;> decide
section
variable {w w' : World} {lo lo' B B' n m : Nat} {h : H3} {S : Nat → List Lv} {G : Nat → Nat → List Lv}
theorem RowF.keepT (hr : RowF w lo B h n S) (hk : ∀ b cs e fr, b < B → (e = 100 ∨ e = 106) → w.heap[b]? = some (.cells cs e fr) → w'.heap[b]? = w.heap[b]?) : RowF w' lo B h n S := by
  obtain ⟨hs, h1, h2, h3⟩ := hr
  exact ⟨hs, h1, h2.keepT fun b cs fr hb hg => hk b cs _ fr hb (.inr rfl) hg, fun j p hj => (h3 j p hj).keepT fun b cs fr hb hg => hk b cs _ fr hb (.inl rfl) hg⟩
theorem RowF.mono (hr : RowF w lo B h n S) (h1 : lo' ≤ lo) (h2 : B ≤ B') : RowF w lo' B' h n S := by
  obtain ⟨hs, a1, a2, a3⟩ := hr
  exact ⟨hs, a1, a2.mono h1 h2, fun j p hj => (a3 j p hj).mono h1 h2⟩
theorem RowF.below (hr : RowF w lo B h n S) (hb : Below B' w w') (hB : B ≤ B') : RowF w' lo B h n S := hr.keepT fun b _ _ _ hlt _ _ => hb.block b (by omega)
theorem RowF.congr {S' : Nat → List Lv} (hr : RowF w lo B h n S) (he : ∀ j, j < n → S j = S' j) : RowF w lo B h n S' := by
  obtain ⟨hs, a1, a2, a3⟩ := hr
  exact ⟨hs, a1, a2, fun j p hj => by rw [← he j (by rw [← a1]; exact (List.getElem?_eq_some_iff.1 hj).1)]; exact a3 j p hj⟩
theorem GridF.mono (hr : GridF w lo B h m n G) (h1 : lo' ≤ lo) (h2 : B ≤ B') : GridF w lo' B' h m n G := by
  obtain ⟨hs, a1, a2, a3⟩ := hr
  exact ⟨hs, a1, a2.mono h1 h2, fun j p hj => (a3 j p hj).mono h1 h2⟩
theorem GridF.below (hr : GridF w lo B h m n G) (hb : Below B' w w') (hB : B ≤ B') : GridF w' lo B h m n G := by
  obtain ⟨hs, a1, a2, a3⟩ := hr
  exact ⟨hs, a1, a2.below hb hB, fun j p hj => (a3 j p hj).below hb hB⟩
theorem GridF.congr {G' : Nat → Nat → List Lv} (hr : GridF w lo B h m n G) (he : ∀ i j, i < m → j < n → G i j = G' i j) : GridF w lo B h m n G' := by
  obtain ⟨hs, a1, a2, a3⟩ := hr
  exact ⟨hs, a1, a2, fun j p hj => (a3 j p hj).congr fun i hi => he j i (by rw [← a1]; exact (List.getElem?_eq_some_iff.1 hj).1) hi⟩
theorem RowF.len (hr : RowF w lo B h n S) : h.n = n := by
  obtain ⟨hs, a1, a2, _⟩ := hr
  have := a2.rd.1
  omega
theorem GridF.len (hr : GridF w lo B h m n G) : h.n = m := by
  obtain ⟨hs, a1, a2, _⟩ := hr
  have := a2.rd.1
  omega
/-- The pile at place k of a row. -/
theorem RowF.at_ {k : Nat} (hr : RowF w lo B h n S) (hk : k < n) : ∃ g p, h.a = some ⟨g, 0, none⟩ ∧ g < B ∧ w.cell? ⟨g, k, none⟩ = some (H3.v p) ∧ OwnV w lo B p.v (S k) := by
  obtain ⟨hs, a1, a2, a3⟩ := hr
  have hn : h.n = n := by have := a2.rd.1; omega
  obtain ⟨g, p, h1, h2, h3, h4, h5, h6, _⟩ := a2.at_ (k := k) (by omega)
  exact ⟨g, p, h1, h3, h6, a3 k p h5⟩
theorem GridF.at_ {k : Nat} (hr : GridF w lo B h m n G) (hk : k < m) : ∃ g p, h.a = some ⟨g, 0, none⟩ ∧ g < B ∧ w.cell? ⟨g, k, none⟩ = some (H3.v p) ∧ RowF w lo B p n (G k) := by
  obtain ⟨hs, a1, a2, a3⟩ := hr
  have hn : h.n = m := by have := a2.rd.1; omega
  obtain ⟨g, p, h1, h2, h3, h4, h5, h6, _⟩ := a2.at_ (k := k) (by omega)
  exact ⟨g, p, h1, h3, h6, a3 k p h5⟩
/-- A pile more in a row that is being built. -/
theorem RowF.push {lo2 hi2 : Nat} {A A' : Option Addr} {c c' : Nat} {p : H3} {hs : List H3} {L : List Lv} (ho : Own H3.v w lo2 hi2 106 (.slice A n c) hs) (h3 : ∀ (j : Nat) (p : H3), hs[j]? = some p → OwnV w lo B p.v (S j)) (hp : OwnV w lo B p.v L) (hL : L = S n)
    (hk : Kept w w' (.slice A n c) (.slice A' (n + 1) c')) (hB : B ≤ w.heap.size) (h2 : lo ≤ lo2) (h4 : B ≤ B') (ho' : Own H3.v w' lo2 B' 106 (.slice A' (n + 1) c') (hs ++ [p])) : RowF w' lo B' ⟨A', n + 1, c'⟩ (n + 1) S := by
  have hn : hs.length = n := ho.rd.1
  have keep : ∀ {v : Value} {l : List Lv}, OwnV w lo B v l → OwnV w' lo B' v l := fun hv => (hv.keepT fun b cs fr hb hg => (hk b (by omega) (ho.far hg neVS)).1).mono (Nat.le_refl _) h4
  refine ⟨hs ++ [p], by simp [hn], ho'.mono h2 (Nat.le_refl _), fun j q hj => ?_⟩
  rw [List.getElem?_append] at hj
  by_cases hlt : j < hs.length
  · rw [if_pos hlt] at hj
    exact keep (h3 j q hj)
  · rw [if_neg hlt] at hj
    have hz : j - hs.length = 0 := by
      have := (List.getElem?_eq_some_iff.1 hj).1
      simp at this
      omega
    rw [hz] at hj
    injection hj with hj
    subst hj
    obtain rfl : j = n := by omega
    rw [← hL]
    exact keep hp
/-- A row more in a sheet that is being built. -/
theorem GridF.push {lo2 hi2 : Nat} {A A' : Option Addr} {c c' : Nat} {p : H3} {hs : List H3} (ho : Own H3.v w lo2 hi2 132 (.slice A m c) hs) (h3 : ∀ (j : Nat) (p : H3), hs[j]? = some p → RowF w lo B p n (G j)) (hp : RowF w lo B p n (G m))
    (hk : Kept w w' (.slice A m c) (.slice A' (m + 1) c')) (hB : B ≤ w.heap.size) (h2 : lo ≤ lo2) (h4 : B ≤ B') (ho' : Own H3.v w' lo2 B' 132 (.slice A' (m + 1) c') (hs ++ [p])) : GridF w' lo B' ⟨A', m + 1, c'⟩ (m + 1) n G := by
  have hn : hs.length = m := ho.rd.1
  have keep : ∀ {q : H3} {l : Nat → List Lv}, RowF w lo B q n l → RowF w' lo B' q n l := fun hv => (hv.keepT fun b cs e fr hb he hg => (hk b (by omega) (ho.far hg (ne_of he))).1).mono (Nat.le_refl _) h4
  refine ⟨hs ++ [p], by simp [hn], ho'.mono h2 (Nat.le_refl _), fun j q hj => ?_⟩
  rw [List.getElem?_append] at hj
  by_cases hlt : j < hs.length
  · rw [if_pos hlt] at hj
    exact keep (h3 j q hj)
  · rw [if_neg hlt] at hj
    have hz : j - hs.length = 0 := by
      have := (List.getElem?_eq_some_iff.1 hj).1
      simp at this
      omega
    rw [hz] at hj
    injection hj with hj
    subst hj
    obtain rfl : j = m := by omega
    exact keep hp
end

def turnV (al : Bool) (l : List Lv) : List Lv := (l.map (Lv.fl al)).reverse
theorem turnV_len (al : Bool) (l : List Lv) : (turnV al l).length = l.length := by simp [turnV]
theorem turnV_step (al : Bool) (l : List Lv) (k : Nat) (x : Lv) (hx : l[k]? = some x) : turnV al (l.drop k) = turnV al (l.drop (k + 1)) ++ [x.fl al] := by
  have hlt := (List.getElem?_eq_some_iff.1 hx).1
  have hd : l.drop k = x :: l.drop (k + 1) := by
    rw [List.drop_eq_getElem_cons hlt]
    congr 1
    rw [List.getElem?_eq_getElem hlt] at hx
    injection hx
  rw [hd]
  simp [turnV]

set_option maxRecDepth 100000 in
set_option maxHeartbeats 2000000 in
theorem turn_any (al : Bool) (A : Option Addr) (n c B : Nat) (l : List Lv) (w : World) (h : RdV w B A n l) (hB : B ≤ w.heap.size) (hn : n ≤ 1048576) :
    Calls Try.prog 130 #[.slice A n c, .bool al] w fun e w' => ∃ A' c', e = .returned (.slice A' n c') ∧ OwnV w' w.heap.size w'.heap.size (.slice A' n c') (turnV al l) ∧ Below w.heap.size w w' := by
  have HL : Hid (l.length = n) := h.1
  have hl0 := OwnV.lit0 w
  have hb3 : Below w.heap.size w (w.alloc (.cells #[] 100)) := (Below.refl _ _).alloc (Nat.le_refl _) _
  have e0 : IntKind.i64.wrap ((n : Int) - 1) = (n : Int) - 1 := IntWalk.i64_in _ (by omega)
  go_enter Try.func130, Try.ntmps130
  go_wp2_with fail
  go_loopw [5, 6] (fun v i wr => ∃ j m : Nat, j ≤ n ∧ m + j = n ∧ i = .int .i64 ((j : Int) - 1) ∧ (∃ A3 c3, v = .slice A3 m c3 ∧ OwnV wr w.heap.size wr.heap.size (.slice A3 m c3) (turnV al (l.drop j))) ∧ Below w.heap.size w wr) (fun _ i _ => (intOf i + 1).toNat)
  case atStart =>
    refine ⟨n, 0, Nat.le_refl _, by omega, rfl, ⟨_, _, rfl, ?_⟩, hb3⟩
    rw [List.drop_of_length_le (Nat.le_of_eq HL.out)]
    exact hl0.mono (Nat.le_refl _) (by simp)
  case round =>
    clear hl0 hb3
    obtain ⟨j, m, hj, hm, rfl, ⟨A3, c3, rfl, ho⟩, hb⟩ := hrel
    have hsz := hb.size
    by_cases h0 : j = 0
    · subst h0
      obtain rfl : m = n := by omega
      go_wp2_with fail
      go_ret
      exact ⟨_, _, rfl, by simpa using ho, hb⟩
    · obtain ⟨k, rfl⟩ : ∃ k, j = k + 1 := ⟨j - 1, by omega⟩
      have ej : ((k + 1 : Nat) : Int) - 1 = (k : Int) := by omega
      obtain ⟨b, o, x, rfl, hbB, hx, c0, c1, c2, c3'⟩ := (h.below hb hB).at_ (k := k) (by omega)
      have HT := Lib.hid (turnV_step al l k x hx)
      have e2 : IntKind.i64.wrap ((k : Int) - 1) = (k : Int) - 1 := IntWalk.i64_in _ (by omega)
      rw [ej]
      clear hx ej h0
      cases al
      · go_wp2_with (at_builtin; refine wp_pushV _ rfl _ _ rfl A3 m c3 _ _ _ rfl (ho.alloc _) x.flY _ rfl (by simp) (by omega) (by simp; omega) ?_; intro A4 c4 w4 ho4 hm4)
        go_roundw
        case rel => exact ⟨k, m + 1, by omega, by omega, rfl, ⟨_, _, rfl, by rw [HT.out]; exact ho4⟩, (hb.alloc hsz _).trans (hm4.below (Nat.le_refl _) (by simp; omega))⟩
        case measure => simp [intOf]
      · go_wp2_with (at_builtin; refine wp_pushV _ rfl _ _ rfl A3 m c3 _ _ _ rfl (ho.alloc _) x.flX _ rfl (by simp) (by omega) (by simp; omega) ?_; intro A4 c4 w4 ho4 hm4)
        go_roundw
        case rel => exact ⟨k, m + 1, by omega, by omega, rfl, ⟨_, _, rfl, by rw [HT.out]; exact ho4⟩, (hb.alloc hsz _).trans (hm4.below (Nat.le_refl _) (by simp; omega))⟩
        case measure => simp [intOf]
end Go.Proofs.Ytfiefjbipjalpaa
