/- Lists of lists: a row of handles, each of which reads as a list of integers; and the model's function that turns a stack over. -/
import Derived.Test.YtjpfbonnohodhaaDoorBase
import Derived.Test.YtjpfbonnohodhaaDoorPush
import Derived.Test.YtjpfbonnohodhaaDoorSpread
import Derived.Test.YtjpfbonnohodhaaDoorStMath
namespace Go.Proofs.YtjpfbonnohodhaaDoor
open Go.RowKit

theorem infoL : (Tryd.prog.info? 25).map (fun i => (i.zero, i.size, i.bytes)) = some (some (.slice none 0 0), 1, 24) := by kernel_rfl

/-- The slice at A is the call's own and holds l. -/
def RdT (w : World) (lo B : Nat) (A : Option Addr) (n c : Nat) (l : List Int) : Prop := Own I w lo B 2 (.slice A n c) l
theorem RdT.rd {w : World} {lo B n c : Nat} {A : Option Addr} {l : List Int} (h : RdT w lo B A n c l) : Rd I w B A n l := Own.rd h
theorem Own.keepT {w w' : World} {lo hi : Nat} {e : TypeId} {v : Value} {α : Type} {enc : α → Value} {l : List α} (h : Own enc w lo hi e v l) (hk : ∀ b cs fr, b < hi → w.heap[b]? = some (.cells cs e fr) → w'.heap[b]? = w.heap[b]?) : Own enc w' lo hi e v l :=
  h.keep fun g hg => by
    have hlt := h.lt g hg
    rcases h.1.2 with ⟨hv, _⟩ | ⟨g', cap, cur, hv, hlo, hgg, _⟩
    · rw [hv] at hg
      simp [Value.ownBlock] at hg
    · rw [hv] at hg
      simp only [Value.ownBlock, Option.some.injEq] at hg
      subst hg
      exact hk _ cur _ hlt.2.1 hgg
theorem RdT.keep {w w' : World} {lo B n c : Nat} {A : Option Addr} {l : List Int} (h : RdT w lo B A n c l) (hk : ∀ b cs fr, b < B → w.heap[b]? = some (.cells cs 2 fr) → w'.heap[b]? = w.heap[b]?) : RdT w' lo B A n c l := Own.keepT h hk
theorem RdT.more {w : World} {lo lo' B B' n c : Nat} {A : Option Addr} {l : List Int} (h : RdT w lo B A n c l) (hl : lo' ≤ lo) (hB : B ≤ B') : RdT w lo' B' A n c l := Own.mono h hl hB
theorem RdT.below {w w' : World} {lo B B' n c : Nat} {A : Option Addr} {l : List Int} (h : RdT w lo B A n c l) (hb : Below B' w w') (hB : B ≤ B') : RdT w' lo B A n c l :=
  h.keep fun b _ _ hlt _ => hb.block b (by omega)
theorem Own.lit1 (w : World) (x : Int) : Own I (w.alloc (.cells #[I x] 2)) w.heap.size (w.heap.size + 1) 2 (.slice (some ⟨w.heap.size, 0, none⟩) 1 1) [x] :=
  ⟨⟨rfl, .inr ⟨w.heap.size, 1, #[I x], rfl, Nat.le_refl _, heap_alloc_new w _, Nat.le_refl _, by unfold maxLen; omega, rfl, rfl⟩⟩, fun k hk => by simp [Value.ownBlock] at hk; omega⟩

/-- A handle: what a slice value says. -/
structure H3 where
  a : Option Addr
  n : Nat
  c : Nat
abbrev H3.v (h : H3) : Value := .slice h.a h.n h.c
/-- The handles hs read as the lists ls. -/
def Rows (w : World) (lo B : Nat) (hs : List H3) (ls : List (List Int)) : Prop :=
  hs.length = ls.length ∧ ∀ (j : Nat) (h : H3), hs[j]? = some h → ∃ l, ls[j]? = some l ∧ RdT w lo B h.a h.n h.c l
theorem Rows.nil_ (w : World) (lo B : Nat) : Rows w lo B [] [] := ⟨rfl, fun j h hj => by simp at hj⟩
theorem Rows.get {w : World} {lo B j : Nat} {hs : List H3} {ls : List (List Int)} {h : H3} (hr : Rows w lo B hs ls) (hj : hs[j]? = some h) : RdT w lo B h.a h.n h.c (ls.getD j []) := by
  obtain ⟨l, hl, hd⟩ := hr.2 j h hj
  rw [List.getD_eq_getElem?_getD, hl]
  exact hd
theorem Rows.keep {w w' : World} {lo B : Nat} {hs : List H3} {ls : List (List Int)} (hr : Rows w lo B hs ls) (hk : ∀ b cs fr, b < B → w.heap[b]? = some (.cells cs 2 fr) → w'.heap[b]? = w.heap[b]?) : Rows w' lo B hs ls :=
  ⟨hr.1, fun j h hj => by
    obtain ⟨l, hl, hd⟩ := hr.2 j h hj
    exact ⟨l, hl, hd.keep hk⟩⟩
theorem Rows.more {w : World} {lo lo' B B' : Nat} {hs : List H3} {ls : List (List Int)} (hr : Rows w lo B hs ls) (hl : lo' ≤ lo) (hB : B ≤ B') : Rows w lo' B' hs ls :=
  ⟨hr.1, fun j h hj => by
    obtain ⟨l, hl', hd⟩ := hr.2 j h hj
    exact ⟨l, hl', hd.more hl hB⟩⟩
theorem Rows.below {w w' : World} {lo B B' : Nat} {hs : List H3} {ls : List (List Int)} (hr : Rows w lo B hs ls) (hb : Below B' w w') (hB : B ≤ B') : Rows w' lo B hs ls :=
  hr.keep fun b _ _ hlt _ => hb.block b (by omega)
theorem neLI : (2 : TypeId) ≠ 25 := by decide
/-- A push onto a row of handles keeps what other handles read. -/
theorem Rows.kept {w w' : World} {lo B lo' hi' : Nat} {hs hs' : List H3} {ls : List (List Int)} {v v' : Value} (hr : Rows w lo B hs ls) (hB : B ≤ w.heap.size) (ho : Own H3.v w lo' hi' 25 v hs') (hk : Kept w w' v v') : Rows w' lo B hs ls :=
  hr.keep fun b _ _ hlt hg => (hk b (by omega) (ho.far hg neLI)).1
theorem RdT.kept {w w' : World} {lo B lo' hi' n c : Nat} {A : Option Addr} {l : List Int} {hs' : List H3} {v v' : Value} (hr : RdT w lo B A n c l) (hB : B ≤ w.heap.size) (ho : Own H3.v w lo' hi' 25 v hs') (hk : Kept w w' v v') : RdT w' lo B A n c l :=
  hr.keep fun b _ _ hlt hg => (hk b (by omega) (ho.far hg neLI)).1
theorem Rows.push {w : World} {lo B : Nat} {hs : List H3} {ls : List (List Int)} {h : H3} {l : List Int} (hr : Rows w lo B hs ls) (hd : RdT w lo B h.a h.n h.c l) : Rows w lo B (hs ++ [h]) (ls ++ [l]) := by
  refine ⟨by simp [hr.1], fun j h' hj => ?_⟩
  rw [List.getElem?_append] at hj
  by_cases hlt : j < hs.length
  · rw [if_pos hlt] at hj
    obtain ⟨l', hl', hd'⟩ := hr.2 j h' hj
    exact ⟨l', by rw [List.getElem?_append_left (by rw [← hr.1]; exact hlt)]; exact hl', hd'⟩
  · rw [if_neg hlt] at hj
    have hz : j - hs.length = 0 := by
      have := (List.getElem?_eq_some_iff.1 hj).1
      simp at this
      omega
    rw [hz] at hj
    injection hj with hj
    subst hj
    exact ⟨l, by rw [List.getElem?_append_right (by rw [← hr.1]; omega), ← hr.1, hz]; rfl, hd⟩

/-- Small numbers: a list of marks. -/
def inSm (l : List Int) : Prop := ∀ x ∈ l, -64 ≤ x ∧ x ≤ 64

theorem turn_step (l : List Int) (k : Nat) (x : Int) (hx : l[k]? = some x) : St.turn (l.drop k) = St.turn (l.drop (k + 1)) ++ [-x] := by
  have hlt := (List.getElem?_eq_some_iff.1 hx).1
  have hd : l.drop k = x :: l.drop (k + 1) := by
    rw [List.drop_eq_getElem_cons hlt]
    congr 1
    rw [List.getElem?_eq_getElem hlt] at hx
    injection hx
  rw [hd]
  simp [St.turn]
theorem turn_len (l : List Int) : (St.turn l).length = l.length := by simp [St.turn]

set_option maxRecDepth 100000 in
set_option maxHeartbeats 1000000 in
theorem turn_any (A : Option Addr) (n c B : Nat) (l : List Int) (w : World) (h : Rd I w B A n l) (hB : B ≤ w.heap.size) (hn : n ≤ 1048576) (hsm : inSm l) :
    Calls Tryd.prog 68 #[.slice A n c] w fun e w' => ∃ A' c', e = .returned (.slice A' n c') ∧ Own I w' w.heap.size w'.heap.size 2 (.slice A' n c') (St.turn l) ∧ Below w.heap.size w w' := by
  obtain ⟨i0, hi0, hz0, hz1, hz2⟩ := info_parts infoI
  have HL : Hid (l.length = n) := h.1
  have HS := Lib.hid hsm
  clear hsm
  have hl0 := Own.lit0 I w 2
  have hb3 : Below w.heap.size w (w.alloc (.cells #[] 2)) := (Below.refl _ _).alloc (Nat.le_refl _) _
  have e0 : IntKind.i64.wrap ((n : Int) - 1) = (n : Int) - 1 := IntWalk.i64_in _ (by omega)
  go_enter Tryd.func68, Tryd.ntmps68
  go_wp2_with fail
  go_loopw [3, 4] (fun v i wr => ∃ j m : Nat, j ≤ n ∧ m + j = n ∧ i = .int .i64 ((j : Int) - 1) ∧ (∃ A3 c3, v = .slice A3 m c3 ∧ Own I wr w.heap.size wr.heap.size 2 (.slice A3 m c3) (St.turn (l.drop j))) ∧ Below w.heap.size w wr) (fun _ i _ => (intOf i + 1).toNat)
  case atStart =>
    refine ⟨n, 0, Nat.le_refl _, by omega, rfl, ⟨_, _, rfl, ?_⟩, hb3⟩
    rw [List.drop_of_length_le (Nat.le_of_eq HL.out)]
    exact hl0.mono (Nat.le_refl _) (by simp)
  case round =>
    clear hl0 hb3
    obtain ⟨j, m, hj, hm, rfl, ⟨A3, c3, rfl, ho⟩, hb⟩ := hrel
    have hsz := hb.size
    by_cases h0 : j = 0
    · subst h0
      obtain rfl : m = n := by omega
      go_wp2_with fail
      go_ret
      exact ⟨_, _, rfl, by simpa using ho, hb⟩
    · obtain ⟨k, rfl⟩ : ∃ k, j = k + 1 := ⟨j - 1, by omega⟩
      have ej : ((k + 1 : Nat) : Int) - 1 = (k : Int) := by omega
      obtain ⟨b, o, x, rfl, hbB, hx, hcx⟩ := (h.below hb hB).at_ (k := k) (by omega)
      have hxs := HS.out x (List.mem_of_getElem? hx)
      have HT := Lib.hid (turn_step l k x hx)
      have e1 : IntKind.i64.wrap (-x) = -x := IntWalk.i64_in _ (by omega)
      have e2 : IntKind.i64.wrap ((k : Int) - 1) = (k : Int) - 1 := IntWalk.i64_in _ (by omega)
      rw [ej]
      clear hx ej h0
      go_wp2_with (at_builtin; refine wp_push _ rfl _ _ 25 rfl 2 i0 _ 8 Tryd.underlying25 hi0 hz0 hz1 hz2 rfl A3 m c3 _ _ _ rfl ho (-x) rfl rfl (by omega) (by omega) (by omega) ?_; intro A4 c4 w4 ho4 hm4)
      go_roundw
      case rel => exact ⟨k, m + 1, by omega, by omega, rfl, ⟨_, _, rfl, by rw [HT.out]; exact ho4⟩, hb.trans (hm4.below (Nat.le_refl _) hsz)⟩
      case measure => simp [intOf]
end Go.Proofs.YtjpfbonnohodhaaDoor
