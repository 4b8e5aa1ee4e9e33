/- Contracts of the draws' source: l01From, l01Next, l01Pick. -/
import Derived.Test.YtnfnmdeiaihgnaaIn
import Derived.BigRegion
namespace Go.Proofs.Ytnfnmdeiaihgnaa
open Go.RowKit

/-- Bytes as values. -/
abbrev U (x : Int) : Value := .int .u8 x
def inByte (l : List Int) : Prop := ∀ x ∈ l, 0 ≤ x ∧ x ≤ 255

/-- A source of draws lies in block g, over the code at A. -/
def Src (w : World) (g : Nat) (A : Option Addr) (N C : Nat) : Prop :=
  ∃ (a : Nat) (s : Int), w.heap[g]? = some (.cells #[.slice A N C, .int .i64 a, .int .i64 s] 114 (0, 0)) ∧ a ≤ N ∧ 0 ≤ s ∧ s ≤ 2147483646
theorem Src.lt {w : World} {g N C : Nat} {A : Option Addr} (h : Src w g A N C) : g < w.heap.size := by
  obtain ⟨a, s, hg, _⟩ := h
  exact (Array.getElem?_eq_some_iff.1 hg).1
theorem Src.q {w w' : World} {g N C : Nat} {A : Option Addr} (h : Src w g A N C) (hq : Q w w') : Src w' g A N C := by
  obtain ⟨m, rfl⟩ := hq
  exact h
theorem Src.below {w w' : World} {g N C B : Nat} {A : Option Addr} (h : Src w g A N C) (hb : Below B w w') (hg : g < B) : Src w' g A N C := by
  obtain ⟨a, s, h1, h2⟩ := h
  exact ⟨a, s, (hb.block g hg).trans h1, h2⟩
theorem Src.only {w w' : World} {g N C lo hi : Nat} {A : Option Addr} (h : Src w g A N C) (ho : Only lo hi w w') (hg : g < lo ∨ hi ≤ g) : Src w' g A N C := by
  have hlt := h.lt
  obtain ⟨a, s, h1, h2⟩ := h
  exact ⟨a, s, (ho.block g hlt hg).trans h1, h2⟩

def NextP (w : World) (g : Nat) (A : Option Addr) (N C : Nat) (n : Int) (e : Ending) (w' : World) : Prop :=
  ∃ v, e = .returned (.int .i64 v) ∧ 0 ≤ v ∧ (1 ≤ n → v < n) ∧ (n ≤ 1 → v = 0) ∧ Src w' g A N C ∧ Only g (g + 1) w w'
theorem NextP.mk_ {w w' : World} {g N C : Nat} {A : Option Addr} {n v : Int} (hn : 1 < n) (h0 : 0 ≤ v) (h1 : v < n) (hs : Src w' g A N C) (ho : Only g (g + 1) w w') : NextP w g A N C n (.returned (.int .i64 v)) w' :=
  ⟨v, rfl, h0, fun _ => h1, fun h => by omega, hs, ho⟩

set_option maxHeartbeats 4000000 in
theorem l01Next_any (g N C B : Nat) (A : Option Addr) (l : List Int) (n : Int) (w : World) (hs : Src w g A N C) (hc : Rd U w B A N l) (hl : inByte l) (hB : B ≤ g) (hN : N ≤ 1048576) (hn : n ≤ 1000000000000) :
    Calls Try.prog 60 #[.pointer (some ⟨g, 0, none⟩), .int .i64 n] w fun e w' => NextP w g A N C n e w' := by
  by_cases h1 : n ≤ 1
  · go_enter Try.func60, Try.ntmps60
    go_wp2
    go_ret
    exact ⟨0, rfl, by omega, fun h => by omega, fun _ => rfl, hs, Only.refl _ _ _⟩
  · have h1' : 1 < n := by omega
    obtain ⟨a, s, hg, ha, hs0, hs1⟩ := hs
    have c0 : w.cell? ⟨g, 0, none⟩ = some (.slice A N C) := cell_of_row w g 0 _ _ (0, 0) hg
    have c1 : w.cell? ⟨g, 1, none⟩ = some (.int .i64 a) := cell_of_row w g 1 _ _ (0, 0) hg
    have c2 : w.cell? ⟨g, 2, none⟩ = some (.int .i64 s) := cell_of_row w g 2 _ _ (0, 0) hg
    have f1 : w.frozen? ⟨g, 1, none⟩ = false := frozen_of_row w g 1 _ _ hg
    have f2 : w.frozen? ⟨g, 2, none⟩ = false := frozen_of_row w g 2 _ _ hg
    have ht0 : 0 ≤ (s * 48271 + 61) % 2147483647 := by omega
    have ht1 : (s * 48271 + 61) % 2147483647 ≤ 2147483646 := by omega
    have hset : Hid (∀ t, (w.setCell ⟨g, 2, none⟩ (.int .i64 t)).heap[g]? = some (.cells #[.slice A N C, .int .i64 a, .int .i64 t] 114 (0, 0))) := fun t => heap_setCell_same w g 2 _ _ (.int .i64 t) hg
    have hset2 : Hid (∀ t u k, (((w.setCell ⟨g, 2, none⟩ (.int .i64 t)).drewN k).setCell ⟨g, 1, none⟩ (.int .i64 u)).heap[g]? = some (.cells #[.slice A N C, .int .i64 u, .int .i64 t] 114 (0, 0))) := fun t u k => heap_setCell_same _ g 1 _ _ (.int .i64 u) (hset t)
    have hO1 : Hid (∀ t k, Only g (g + 1) w ((w.setCell ⟨g, 2, none⟩ t).drewN k)) := fun t k => (only_set (Only.refl _ _ _) _ (Nat.le_refl _) (Nat.lt_succ_self _)).drewN k
    have hO2 : Hid (∀ t u k j, Only g (g + 1) w ((((w.setCell ⟨g, 2, none⟩ t).drewN k).setCell ⟨g, 1, none⟩ u).drewN j)) := fun t u k j => (only_set (hO1 t k) _ (Nat.le_refl _) (Nat.lt_succ_self _)).drewN j
    have hO3 : Hid (∀ t u k, Only g (g + 1) w (((w.setCell ⟨g, 2, none⟩ t).drewN k).setCell ⟨g, 1, none⟩ u)) := fun t u k => only_set (hO1 t k) _ (Nat.le_refl _) (Nat.lt_succ_self _)
    have hm : ∀ z : Int, 0 ≤ z → 0 ≤ z % n ∧ z % n < n := fun z hz => ⟨Int.emod_nonneg _ (by omega), Int.emod_lt_of_pos _ (by omega)⟩
    have HM := Lib.hid hm
    clear hm hg
    by_cases hlt : a < N
    · obtain ⟨b, o, x, rfl, hbB, hx, hcx⟩ := hc.at_ hlt
      have hbg : ¬ b = g := by omega
      have hx0 := (hl x (List.mem_of_getElem? hx)).1
      have hx1 := (hl x (List.mem_of_getElem? hx)).2
      clear hx
      have e1 : IntKind.i64.wrap ((a : Int) + 1 - 1) = (a : Int) := by rw [show (a : Int) + 1 - 1 = a from by omega]; exact IntWalk.i64_in _ (by omega)
      go_enter Try.func60, Try.ntmps60
      go_wp2
      go_quiet (fail)
      go_wp2
      go_quiet (fail)
      go_wp2
      · go_quiet (fail)
        go_wp2
        go_ret
        obtain ⟨m0, m1⟩ := HM.out x (by omega)
        exact NextP.mk_ h1' m0 m1 ⟨a + 1, _, hset2 _ _ _, by omega, ht0, ht1⟩ (hO2 _ _ _ _)
      · go_ret
        obtain ⟨m0, m1⟩ := HM.out ((s * 48271 + 61) % 2147483647 / 31 + x) (by omega)
        exact NextP.mk_ h1' m0 m1 ⟨a + 1, _, hset2 _ _ _, by omega, ht0, ht1⟩ (hO3 _ _ _)
      · go_ret
        obtain ⟨m0, m1⟩ := HM.out ((s * 48271 + 61) % 2147483647 / 31 + x) (by omega)
        exact NextP.mk_ h1' m0 m1 ⟨a + 1, _, hset2 _ _ _, by omega, ht0, ht1⟩ (hO3 _ _ _)
    · have hge : N ≤ a := by omega
      have hge' : decide ((a : Int) < (N : Int)) = false := by simp; omega
      go_enter Try.func60, Try.ntmps60
      go_wp2
      go_quiet (fail)
      go_wp2
      go_ret
      obtain ⟨m0, m1⟩ := HM.out ((s * 48271 + 61) % 2147483647 / 31) (by omega)
      exact NextP.mk_ h1' m0 m1 ⟨a, _, hset _, ha, ht0, ht1⟩ (hO1 _ _)

set_option maxHeartbeats 4000000 in
theorem l01From_any (N C B : Nat) (A : Option Addr) (l : List Int) (w : World) (hc : Rd U w B A N l) (hl : inByte l) (hB : B ≤ w.heap.size) :
    Calls Try.prog 51 #[.slice A N C] w fun e w' => e = .returned (.pointer (some ⟨w.heap.size, 0, none⟩)) ∧ Src w' w.heap.size A N C ∧ Below w.heap.size w w' := by
  have hnew : Hid ((w.alloc (.cells #[.slice A N C, .int .i64 0, .int .i64 88007] 114)).heap[w.heap.size]? = some (.cells #[.slice A N C, .int .i64 0, .int .i64 88007] 114 (0, 0))) := heap_alloc_new w _
  have hb0 : Below w.heap.size w (w.alloc (.cells #[.slice A N C, .int .i64 0, .int .i64 88007] 114)) := (Below.refl _ _).alloc (Nat.le_refl _) _
  go_enter Try.func51, Try.ntmps51
  go_wp2
  go_loopw [4] (fun i wr => ∃ k : Nat, k ≤ N ∧ k ≤ 64 ∧ i = .int .i64 k ∧ (∃ s : Int, Hid (wr.heap[w.heap.size]? = some (.cells #[.slice A N C, .int .i64 0, .int .i64 s] 114 (0, 0))) ∧ 0 ≤ s ∧ s ≤ 2147483646) ∧ Below w.heap.size w wr) (fun i _ => N - (intOf i).toNat)
  case atStart => exact ⟨0, Nat.zero_le _, Nat.zero_le _, rfl, ⟨88007, hnew, by omega, by omega⟩, hb0⟩
  case round =>
    clear hnew hb0
    obtain ⟨k, hk, hk64, rfl, ⟨s, hg, hs0, hs1⟩, hb⟩ := hrel
    by_cases hlt : k < N
    · by_cases h64 : k < 64
      · obtain ⟨b, o, x, rfl, hbB, hx, hcx⟩ := (hc.below hb hB).at_ hlt
        have hx0 := (hl x (List.mem_of_getElem? hx)).1
        have hx1 := (hl x (List.mem_of_getElem? hx)).2
        have c2 : wr.cell? ⟨w.heap.size, 2, none⟩ = some (.int .i64 s) := cell_of_row wr _ 2 _ _ (0, 0) hg
        have f2 : wr.frozen? ⟨w.heap.size, 2, none⟩ = false := frozen_of_row wr _ 2 _ _ hg
        have hset : Hid (∀ t, (wr.drew.setCell ⟨w.heap.size, 2, none⟩ (.int .i64 t)).heap[w.heap.size]? = some (.cells #[.slice (some ⟨b, o, none⟩) N C, .int .i64 0, .int .i64 t] 114 (0, 0))) := fun t => heap_setCell_same wr _ 2 _ _ (.int .i64 t) hg
        clear hx
        go_wp2
        go_region
        all_goals
          go_wp2
          go_roundw
          case rel => exact ⟨k + 1, by omega, by omega, by go_num, ⟨_, hset _, by omega, by omega⟩, hb.drew.setCell (Nat.le_refl _) _⟩
          case measure => simp [intOf]; omega
      · have h64' : 64 ≤ k := by omega
        have h64'' : decide ((k : Int) < 64) = false := by simp; omega
        go_wp2
        go_ret
        exact ⟨rfl, ⟨0, s, hg, Nat.zero_le _, hs0, hs1⟩, hb⟩
    · have hge : N ≤ k := by omega
      go_wp2
      go_ret
      exact ⟨rfl, ⟨0, s, hg, Nat.zero_le _, hs0, hs1⟩, hb⟩

theorem l01From_ex (N C B : Nat) (A : Option Addr) (l : List Int) (w : World) (hc : Rd U w B A N l) (hl : inByte l) (hB : B ≤ w.heap.size) :
    Calls Try.prog 51 #[.slice A N C] w fun e w' => ∃ g, e = .returned (.pointer (some ⟨g, 0, none⟩)) ∧ w.heap.size ≤ g ∧ Src w' g A N C ∧ Below w.heap.size w w' :=
  (l01From_any N C B A l w hc hl hB).mono fun _ _ ⟨he, hs, hb⟩ => ⟨_, he, Nat.le_refl _, hs, hb⟩

/-- A list written out, in a block of its own. -/
theorem Rd.lit {α : Type} (enc : α → Value) (w : World) (e : TypeId) (l : List α) : Rd enc (w.alloc (.cells (l.map enc).toArray e)) (w.heap.size + 1) (some ⟨w.heap.size, 0, none⟩) l.length l := by
  refine ⟨rfl, fun _ => ⟨w.heap.size, 0, rfl, Nat.lt_succ_self _, fun j x hx => ?_⟩⟩
  rw [cell_of_row (w.alloc _) w.heap.size (0 + j) (l.map enc).toArray e (0, 0) (heap_alloc_new w _)]
  simp [hx]

def PickP (w : World) (g : Nat) (A : Option Addr) (N C : Nat) (l : List Int) (e : Ending) (w' : World) : Prop :=
  ∃ x, e = .returned (.int .i64 x) ∧ x ∈ l ∧ Src w' g A N C ∧ Only g (g + 1) w w'

set_option maxHeartbeats 1000000 in
theorem l01Pick_any (g N C B B' n c : Nat) (A A' : Option Addr) (l l' : List Int) (w : World) (hs : Src w g A N C) (hc : Rd U w B A N l) (hl : inByte l) (hB : B ≤ g) (hN : N ≤ 1048576) (h' : Rd I w B' A' n l') (hn : 1 ≤ n) (hn' : n ≤ 1048576) (hg : Rd I w B' A' n l' → ∀ w', Only g (g + 1) w w' → Rd I w' B' A' n l') :
    Calls Try.prog 97 #[.pointer (some ⟨g, 0, none⟩), .slice A' n c] w fun e w' => PickP w g A N C l' e w' := by
  go_enter Try.func97, Try.ntmps97
  go_wp2_with fail
  refine (l01Next_any g N C B A l _ _ hs hc hl hB hN (by omega)).mono ?_
  rintro e w1 ⟨v, rfl, h0, h1, _, hs1, ho1⟩
  have h1' := h1 (by omega)
  have hr := hg h' w1 ho1
  obtain ⟨k, rfl⟩ := Int.eq_ofNat_of_zero_le h0
  obtain ⟨b, o, x, rfl, _, hx, hcx⟩ := hr.at_ (k := k) (by omega)
  have HX := Lib.hid hx
  have hk : k < n := by omega
  clear hx h1 hs hg h'
  go_wp2_with fail
  go_ret
  exact ⟨x, rfl, List.mem_of_getElem? HX.out, hs1, ho1⟩

/-- A number picked out of a list that the call writes out. -/
theorem pick_lit (g N C B : Nat) (A : Option Addr) (l l' : List Int) (n : Nat) (cs : Array Value) (w0 : World) (hn : n = l'.length) (hcs : cs = (l'.map I).toArray) (hs : Src w0 g A N C) (hc : Rd U w0 B A N l) (hl : inByte l) (hB : B ≤ g) (hN : N ≤ 1048576) (h1 : 1 ≤ n) (h2 : n ≤ 1048576) :
    Calls Try.prog 97 #[.pointer (some ⟨g, 0, none⟩), .slice (some ⟨w0.heap.size, 0, none⟩) n n] (w0.alloc (.cells cs 2)) fun e w' => PickP w0 g A N C l' e w' := by
  subst hn hcs
  have hlt := hs.lt
  have hb : Below w0.heap.size w0 (w0.alloc (.cells (l'.map I).toArray 2)) := (Below.refl _ _).alloc (Nat.le_refl _) _
  have hr := Rd.lit I w0 2 l'
  refine (l01Pick_any g N C B _ _ _ A _ l l' _ (hs.below hb hlt) (hc.below hb (by omega)) hl hB hN hr h1 h2 (fun hr w' ho => ?_)).mono ?_
  · refine ⟨hr.1, fun hp => ?_⟩
    obtain ⟨b, o, e, hlb, hcell⟩ := hr.2 hp
    injection e with e
    injection e with e1 e2 _
    subst e1 e2
    exact ⟨_, _, rfl, hlb, fun j x hx => (World.cell?_of_block (ho.block w0.heap.size (by simp) (.inr (by omega)))).trans (hcell j x hx)⟩
  · rintro e w' ⟨x, he, hx, hs', ho⟩
    exact ⟨x, he, hx, hs', (Only.of_below hb _ _).trans ho⟩
end Go.Proofs.Ytnfnmdeiaihgnaa
