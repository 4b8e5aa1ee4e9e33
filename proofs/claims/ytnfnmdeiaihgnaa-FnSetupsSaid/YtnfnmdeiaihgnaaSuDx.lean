/- Contract of the draw of several set-ups. -/
import Derived.Test.YtnfnmdeiaihgnaaSuDw
import Derived.Test.YtnfnmdeiaihgnaaSuEf
import Derived.Test.YtnfnmdeiaihgnaaPush
namespace Go.Proofs.Ytnfnmdeiaihgnaa
open Go.RowKit
set_option linter.unusedVariables false

theorem infoLU : (Try.prog.info? 28).map (fun i => (i.zero, i.size, i.bytes)) = some (some (.slice none 0 0), 1, 24) := by kernel_rfl
theorem neUL : (83 : TypeId) ≠ 28 := by decide
theorem OwnS.keepTU {w w' : World} {lo hi : Nat} {v : Value} {l : List Un} (h : OwnS Un.S w lo hi v l) (hk : ∀ b cs fr, b < hi → w.heap[b]? = some (.cells cs 83 fr) → w'.heap[b]? = w.heap[b]?) : OwnS Un.S w' lo hi v l :=
  h.keep fun g hg => by
    have hlt := h.lt g hg
    rcases h.1.2 with ⟨hv, _⟩ | ⟨g', cap, cur, hv, hlo, hgg, _⟩
    · rw [hv] at hg
      simp [Value.ownBlock] at hg
    · rw [hv] at hg
      simp only [Value.ownBlock, Option.some.injEq] at hg
      subst hg
      exact hk _ cur _ hlt.2.1 hgg
/-- Several set-ups that are the call's own. -/
structure OwnU (w : World) (lo hi : Nat) (A : Option Addr) (n c : Nat) (us : List UB) : Prop where
  o : Own UB.v w lo hi 28 (.slice A n c) us
  r : ∀ q ∈ us, OwnS Un.S w lo hi (.slice q.a q.n q.c) q.l ∧ q.n ≤ 7
theorem OwnU.only {w w' : World} {lo hi lo' hi' n c : Nat} {A : Option Addr} {us : List UB} (h : OwnU w lo hi A n c us) (ho : Only lo' hi' w w') (hB : hi ≤ lo' ∨ hi' ≤ lo) : OwnU w' lo hi A n c us := ⟨h.o.only ho hB, fun q hq => ⟨(h.r q hq).1.only ho hB, (h.r q hq).2⟩⟩
theorem OwnU.below {w w' : World} {B lo hi n c : Nat} {A : Option Addr} {us : List UB} (h : OwnU w lo hi A n c us) (hb : Below B w w') (hB : hi ≤ B) : OwnU w' lo hi A n c us := ⟨h.o.below hb hB, fun q hq => ⟨(h.r q hq).1.below hb hB, (h.r q hq).2⟩⟩
theorem OwnU.mono {w : World} {lo hi lo' hi' n c : Nat} {A : Option Addr} {us : List UB} (h : OwnU w lo hi A n c us) (h1 : lo' ≤ lo) (h2 : hi ≤ hi') : OwnU w lo' hi' A n c us := ⟨h.o.mono h1 h2, fun q hq => ⟨(h.r q hq).1.mono h1 h2, (h.r q hq).2⟩⟩
theorem OwnU.rd {w : World} {lo hi n c : Nat} {A : Option Addr} {us : List UB} (h : OwnU w lo hi A n c us) : RdU w hi A n us := ⟨h.o.rd, fun q hq => ⟨(h.r q hq).1.rd, by have := (h.r q hq).2; omega⟩⟩
/-- The table has grown by a set-up. -/
theorem OwnU.push {w w' : World} {lo n c c' : Nat} {A A' : Option Addr} {us : List UB} {p : UB} (h : OwnU w lo w.heap.size A n c us) (hp : OwnS Un.S w lo w.heap.size (.slice p.a p.n p.c) p.l) (hp7 : p.n ≤ 7)
    (ho : Own UB.v w' lo w'.heap.size 28 (.slice A' (n + 1) c') (us ++ [p])) (hk : Kept w w' (.slice A n c) (.slice A' (n + 1) c')) (hs : w.heap.size ≤ w'.heap.size) : OwnU w' lo w'.heap.size A' (n + 1) c' (us ++ [p]) := by
  have kk : ∀ b cs fr, b < w.heap.size → w.heap[b]? = some (.cells cs 83 fr) → w'.heap[b]? = w.heap[b]? := fun b cs fr hb hg => (hk b hb (h.o.far hg neUL)).1
  refine ⟨ho, fun q hq => ?_⟩
  rcases List.mem_append.1 hq with hq | hq
  · have := h.r q hq
    exact ⟨(this.1.keepTU kk).mono (Nat.le_refl _) hs, this.2⟩
  · rw [List.mem_singleton] at hq
    subst hq
    exact ⟨(hp.keepTU kk).mono (Nat.le_refl _) hs, hp7⟩
/-- The state of the draw of several set-ups. -/
structure DzI (w : World) (g N C B : Nat) (A : Option Addr) (l : List Int) (A5 : Option Addr) (n5 c5 : Nat) (wr : World) : Prop where
  k : SrcG wr g N C B A l
  row : ∃ us, OwnU wr w.heap.size wr.heap.size A5 n5 c5 us
  o : Only g (g + 1) w wr
  hg : g < w.heap.size
def DrSs (w : World) (g N C B : Nat) (A : Option Addr) (l : List Int) (e' : Ending) (w' : World) : Prop := ∃ (A5 : Option Addr) (n c : Nat) (us : List UB), e' = .returned (.slice A5 n c) ∧ OwnU w' w.heap.size w'.heap.size A5 n c us ∧ n ≤ 8 ∧ SrcG w' g N C B A l ∧ Only g (g + 1) w w'
section
variable {w wr w' : World} {g N C B n5 c5 n6 c6 : Nat} {A A5 A6 : Option Addr} {l : List Int}
theorem DzI.src (h : DzI w g N C B A l A5 n5 c5 wr) (hk : SrcG w' g N C B A l) (hq : Only g (g + 1) wr w') : DzI w g N C B A l A5 n5 c5 w' := by
  have h1 := h.hg
  obtain ⟨us, hr⟩ := h.row
  exact ⟨hk, ⟨us, (hr.only hq (.inr (by omega))).mono (Nat.le_refl _) hq.size⟩, h.o.trans hq, h1⟩
theorem DzI.push {us : List UB} (h : DzI w g N C B A l A5 n5 c5 wr) (ho : OwnU w' w.heap.size w'.heap.size A6 n6 c6 us) (hm : Only w.heap.size wr.heap.size wr w') : DzI w g N C B A l A6 n6 c6 w' :=
  ⟨h.k.only hm h.hg, ⟨us, ho⟩, h.o.then_only hm (Nat.le_refl _), h.hg⟩
theorem DzI.new {us : List UB} {lo : Nat} (h : DzI w g N C B A l A5 n5 c5 wr) (hb : Below wr.heap.size wr w') (ho : OwnU w' lo w'.heap.size A6 n6 c6 us) (hlo : wr.heap.size ≤ lo) : DzI w g N C B A l A6 n6 c6 w' := by
  have h3 := h.o.size
  exact ⟨h.k.below hb, ⟨us, ho.mono (by omega) (Nat.le_refl _)⟩, h.o.then_below hb (by omega), h.hg⟩
theorem DrSs.mk_ (h : DzI w g N C B A l A5 n5 c5 wr) (hn : n5 ≤ 8) : DrSs w g N C B A l (.returned (.slice A5 n5 c5)) wr := by
  obtain ⟨us, ho⟩ := h.row
  exact ⟨A5, n5, c5, us, rfl, ho, hn, h.k, h.o⟩
end
set_option maxRecDepth 100000 in
set_option maxHeartbeats 8000000 in
theorem drawSs_any (g N C B : Nat) (A : Option Addr) (l : List Int) (w : World) (hs : SrcG w g N C B A l) (hl : inByte l) (hN : N ≤ 1048576) :
    Calls Try.prog 66 #[.pointer (some ⟨g, 0, none⟩)] w fun e' w' => DrSs w g N C B A l e' w' := by
  obtain ⟨iL, hiL, hzL0, hzL1, hzL2⟩ := info_parts infoLU
  have hlt := hs.lt
  have hI1 : DzI w g N C B A l (some ⟨w.heap.size, 0, none⟩) 0 0 (w.alloc (.cells #[] 28)) :=
    ⟨hs.alloc _, ⟨[], (Own.lit0 UB.v w 28).mono (Nat.le_refl _) (by simp), fun q hq => by simp at hq⟩, (Only.refl _ _ _).then_alloc _, hlt⟩
  clear hs
  go_enter Try.func66, Try.ntmps66
  go_wp2_with fail
  refine (nextG_ex g N C B A l 5 _ hI1.k hl hN (by decide) (by decide)).mono ?_
  rintro e w4 ⟨v, rfl, hv, hs4, hq4⟩
  have hI4 := hI1.src hs4 hq4
  obtain ⟨k0, rfl⟩ : ∃ k : Nat, v = (k : Int) := ⟨v.toNat, by omega⟩
  have hk0 : k0 ≤ 4 := by omega
  have hI5 : ∃ (A5 : Option Addr) (n5 c5 : Nat), (Value.slice (some ⟨w.heap.size, 0, none⟩) 0 0) = .slice A5 n5 c5 ∧ n5 + k0 ≤ 4 ∧ DzI w g N C B A l A5 n5 c5 w4 := ⟨_, _, _, rfl, by omega, hI4⟩
  clear hI1 hI4 hs4 hq4 hv
  go_wp2_with fail
  go_loopw [3, 4] (fun p i wr => ∃ (k : Nat) (A5 : Option Addr) (n5 c5 : Nat), i = .int .i64 k ∧ p = .slice A5 n5 c5 ∧ n5 + k ≤ 4 ∧ DzI w g N C B A l A5 n5 c5 wr) (fun _ i _ => (intOf i).toNat)
  case atStart =>
    obtain ⟨A5, n5, c5, h1, h2, h4⟩ := hI5
    exact ⟨k0, A5, n5, c5, rfl, h1, h2, h4⟩
  case round =>
    clear hI5
    obtain ⟨k, A5, n5, c5, rfl, rfl, hk, hI⟩ := hrel
    by_cases hkp : 0 < k
    · have yk : IntKind.i64.wrap ((k : Int) - 1) = ((k - 1 : Nat) : Int) := by rw [show ((k - 1 : Nat) : Int) = (k : Int) - 1 from by omega]; exact IntWalk.i64_in _ (by omega)
      have hkI : 0 < (k : Int) := by omega
      go_wp2_with fail
      refine (drawSu_any g N C B A l _ hI.k hl hN).mono ?_
      rintro e w5 ⟨A6, n6, c6, li, rfl, ho6, hn6, hs5, hq5⟩
      have hI5 := hI.src hs5 hq5
      have hz5 := hI.o.size
      have ho6' := ho6.mono (lo' := w.heap.size) (hi' := w5.heap.size) hz5 (Nat.le_refl _)
      obtain ⟨us, ho⟩ := hI5.row
      have hz6 := hI5.o.size
      clear hI hs5 hq5 ho6
      go_wp2_with (at_builtin; refine wp_push3 (enc := UB.v) w5 rfl (.tmp 12) (.tmp 15) 42 rfl 28 iL _ 24 Try.underlying42 hiL hzL0 hzL1 hzL2 rfl A5 n5 c5 _ _ _ (by rfl) ho.o ⟨A6, n6, c6, li⟩ (by rfl) rfl (by omega) (by omega) hz6 ?_; intro A8 c8 w8 ho8 hm8 hk8; have hI8 := Lib.hid (hI5.push (ho.push ho6' hn6 ho8 hk8 hm8.size) hm8); clear ho8 hm8 hk8)
      go_roundw
      case rel => exact ⟨k - 1, A8, n5 + 1, c8, rfl, rfl, by omega, hI8.out⟩
      case measure => simp [intOf]; omega
    · obtain rfl : k = 0 := by omega
      have hn5 : n5 ≤ 8 := by omega
      go_wp2_with fail
      refine (nextG_ex g N C B A l 40 _ hI.k hl hN (by decide) (by decide)).mono ?_
      rintro e w5 ⟨m, rfl, hm, hs5, hq5⟩
      have hI5 := hI.src hs5 hq5
      clear hI hs5 hq5
      by_cases m_0 : m = 0
      · subst m_0
        have hz5 := hI5.o.size
        have hml : (8 : Nat) ≤ maxLen := by unfold maxLen; omega
        go_wp2_with (at_make; refine wpList_make_full _ rfl _ _ 42 rfl w5.heap.size 28 iL (.slice none 0 0) 1 Try.underlying42 hiL hzL0 hzL1 .i64 .i64 _ _ 8 rfl rfl rfl rfl (by rw [hzL2]; omega) hml (Nat.le_refl _) ?_; intro w7 hown7 hg7; have hown : Own UB.v w7 w5.heap.size (w5.heap.size + 1) 28 (.slice (some ⟨w5.heap.size, 0, none⟩) 8 8) (List.replicate 8 (⟨none, 0, 0, []⟩ : UB)) := (by
          refine ⟨?_, fun k hk => by simp [Value.ownBlock] at hk; omega⟩
          have hz : (Value.slice none 0 0).cells = #[.slice none 0 0] := rfl
          rw [hz, toList_madeCells_one] at hown7
          simpa using hown7); have hs7 : w5.heap.size + 1 ≤ w7.heap.size := (by have := hown.lt w5.heap.size rfl; omega); have hI7 : DzI w g N C B A l (some ⟨w5.heap.size, 0, none⟩) 8 8 w7 := hI5.new ((Below.refl _ _).grown hg7 (Nat.le_refl _) (by simp)) ⟨hown.mono (Nat.le_refl _) hs7, fun q hq => by obtain ⟨_, rfl⟩ := List.mem_replicate.1 hq; exact ⟨OwnS.nil_, by show 0 ≤ 7; omega⟩⟩ (Nat.le_refl _); clear hown7 hg7 hown)
        go_ret
        exact DrSs.mk_ hI7 (by omega)
      · have m_0' : (m == 0) = false := by simpa using m_0
        have HE := Lib.hid (DrSs.mk_ hI5 hn5)
        clear hI5
        go_wp2_with fail
        go_ret
        exact HE.out
end Go.Proofs.Ytnfnmdeiaihgnaa
