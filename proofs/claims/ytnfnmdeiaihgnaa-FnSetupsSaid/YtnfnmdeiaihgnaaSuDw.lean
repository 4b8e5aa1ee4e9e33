/- Contract of the draw of a set-up. -/
import Derived.Test.YtnfnmdeiaihgnaaSrG
import Derived.Test.YtnfnmdeiaihgnaaUn
import Derived.Laws.MakeOwn
import Derived.OwnWalk
namespace Go.Proofs.Ytnfnmdeiaihgnaa
open Go.RowKit
set_option linter.unusedVariables false

/-- The state of the draw of a set-up: the source, the code, the units. -/
structure DsI (w : World) (g N C B : Nat) (A : Option Addr) (l : List Int) (A5 : Option Addr) (n5 c5 : Nat) (wr : World) : Prop where
  k : SrcG wr g N C B A l
  row : ∃ li, OwnS Un.S wr w.heap.size wr.heap.size (.slice A5 n5 c5) li
  o : Only g (g + 1) w wr
  hg : g < w.heap.size
section
variable {w wr w' : World} {g N C B n5 c5 n6 c6 : Nat} {A A5 A6 : Option Addr} {l : List Int}
theorem DsI.src (h : DsI w g N C B A l A5 n5 c5 wr) (hk : SrcG w' g N C B A l) (hq : Only g (g + 1) wr w') : DsI w g N C B A l A5 n5 c5 w' := by
  have h1 := h.hg
  obtain ⟨li, hr⟩ := h.row
  exact ⟨hk, ⟨li, (hr.only hq (.inr (by omega))).mono (Nat.le_refl _) hq.size⟩, h.o.trans hq, h1⟩
theorem DsI.push {li : List Un} (h : DsI w g N C B A l A5 n5 c5 wr) (ho : OwnS Un.S w' w.heap.size w'.heap.size (.slice A6 n6 c6) li) (hm : Only w.heap.size wr.heap.size wr w') : DsI w g N C B A l A6 n6 c6 w' :=
  ⟨h.k.only hm h.hg, ⟨li, ho⟩, h.o.then_only hm (Nat.le_refl _), h.hg⟩
theorem DsI.new {li : List Un} {lo : Nat} (h : DsI w g N C B A l A5 n5 c5 wr) (hb : Below wr.heap.size wr w') (ho : OwnS Un.S w' lo w'.heap.size (.slice A6 n6 c6) li) (hlo : wr.heap.size ≤ lo) : DsI w g N C B A l A6 n6 c6 w' := by
  have h3 := h.o.size
  exact ⟨h.k.below hb, ⟨li, ho.mono (by omega) (Nat.le_refl _)⟩, h.o.then_below hb (by omega), h.hg⟩
end
def DrSu (w : World) (g N C B : Nat) (A : Option Addr) (l : List Int) (e' : Ending) (w' : World) : Prop := ∃ (A5 : Option Addr) (n c : Nat) (li : List Un), e' = .returned (.slice A5 n c) ∧ OwnS Un.S w' w.heap.size w'.heap.size (.slice A5 n c) li ∧ n ≤ 7 ∧ SrcG w' g N C B A l ∧ Only g (g + 1) w w'
theorem DrSu.mk_ {w w' : World} {g N C B : Nat} {A : Option Addr} {l : List Int} {A5 : Option Addr} {n c : Nat} (h : DsI w g N C B A l A5 n c w') (hn : n ≤ 7) : DrSu w g N C B A l (.returned (.slice A5 n c)) w' := by
  obtain ⟨li, ho⟩ := h.row
  exact ⟨A5, n, c, li, rfl, ho, hn, h.k, h.o⟩
set_option maxRecDepth 100000 in
set_option maxHeartbeats 8000000 in
theorem drawSu_any (g N C B : Nat) (A : Option Addr) (l : List Int) (w : World) (hs : SrcG w g N C B A l) (hl : inByte l) (hN : N ≤ 1048576) :
    Calls Try.prog 62 #[.pointer (some ⟨g, 0, none⟩)] w fun e' w' => DrSu w g N C B A l e' w' := by
  obtain ⟨i0, hi0, hz0, hz1, hz2⟩ := info_parts infoUn
  have hlt := hs.lt
  have hI0 : DsI w g N C B A l none 0 0 w := ⟨hs, ⟨[], OwnS.nil_⟩, Only.refl _ _ _, hlt⟩
  have hI1 : DsI w g N C B A l (some ⟨w.heap.size, 0, none⟩) 0 0 (w.alloc (.cells #[] 83)) := hI0.new (below_newS w _) ((OwnS.lit0 Un.S w).mono (Nat.le_refl _) (by simp)) (Nat.le_refl _)
  clear hs hI0
  go_enter Try.func62, Try.ntmps62
  go_wp2_with fail
  refine (nextG_ex g N C B A l 5 _ hI1.k hl hN (by decide) (by decide)).mono ?_
  rintro e w4 ⟨v, rfl, hv, hs4, hq4⟩
  have hI4 := hI1.src hs4 hq4
  obtain ⟨k0, rfl⟩ : ∃ k : Nat, v = (k : Int) := ⟨v.toNat, by omega⟩
  have hk0 : k0 ≤ 4 := by omega
  have hI5 : ∃ (A5 : Option Addr) (n5 c5 : Nat), (Value.slice (some ⟨w.heap.size, 0, none⟩) 0 0) = .slice A5 n5 c5 ∧ n5 + k0 ≤ 4 ∧ DsI w g N C B A l A5 n5 c5 w4 := ⟨_, _, _, rfl, by omega, hI4⟩
  clear hI1 hI4 hs4 hq4 hv
  go_wp2_with fail
  go_loopw [3, 4] (fun p i wr => ∃ (k : Nat) (A5 : Option Addr) (n5 c5 : Nat), i = .int .i64 k ∧ p = .slice A5 n5 c5 ∧ n5 + k ≤ 4 ∧ DsI w g N C B A l A5 n5 c5 wr) (fun _ i _ => (intOf i).toNat)
  case atStart =>
    obtain ⟨A5, n5, c5, h1, h2, h4⟩ := hI5
    exact ⟨k0, A5, n5, c5, rfl, h1, h2, h4⟩
  case round =>
    clear hI5
    obtain ⟨k, A5, n5, c5, rfl, rfl, hk, hI⟩ := hrel
    by_cases hkp : 0 < k
    · have yk : IntKind.i64.wrap ((k : Int) - 1) = ((k - 1 : Nat) : Int) := by rw [show ((k - 1 : Nat) : Int) = (k : Int) - 1 from by omega]; exact IntWalk.i64_in _ (by omega)
      have hkI : 0 < (k : Int) := by omega
      go_wp2_with fail
      refine (nextG_ex g N C B A l 2 _ hI.k hl hN (by decide) (by decide)).mono ?_
      rintro e w5 ⟨a, rfl, ha, hs5, hq5⟩
      have hI5 := hI.src hs5 hq5
      clear hI hs5 hq5
      go_wp2_with fail
      refine (nextG_ex g N C B A l 3 _ hI5.k hl hN (by decide) (by decide)).mono ?_
      rintro e w6 ⟨b, rfl, hb, hs6, hq6⟩
      have hI6 := hI5.src hs6 hq6
      have yb : IntKind.i64.wrap (100 * b) = 100 * b := IntWalk.i64_in _ (by omega)
      clear hI5 hs6 hq6
      go_wp2_with fail
      refine (nextG_ex g N C B A l 2 _ hI6.k hl hN (by decide) (by decide)).mono ?_
      rintro e w7 ⟨d, rfl, hd, hs7, hq7⟩
      have hI7 := hI6.src hs7 hq7
      obtain ⟨li, ho⟩ := hI7.row
      have hz7 := hI7.o.size
      clear hI6 hs7 hq7
      go_wp2_with (at_builtin; refine wp_pushUn w7 rfl (.tmp 12) (.tmp 23) 28 rfl Try.underlying28 A5 n5 c5 _ _ _ (by rfl) ho ⟨a == 0, 100 * b, d == 0⟩ w7.heap.size (by rfl) rfl (by omega) hz7 ?_; intro A8 c8 w8 ho8 hm8; have hI8 := Lib.hid (hI7.push ho8 hm8); clear ho8 hm8)
      go_roundw
      case rel => exact ⟨k - 1, A8, n5 + 1, c8, rfl, rfl, by omega, hI8.out⟩
      case measure => simp [intOf]; omega
    · obtain rfl : k = 0 := by omega
      have hn5 : n5 ≤ 4 := by omega
      go_wp2_with fail
      refine (nextG_ex g N C B A l 60 _ hI.k hl hN (by decide) (by decide)).mono ?_
      rintro e w5 ⟨m, rfl, hm, hs5, hq5⟩
      have hI5 := hI.src hs5 hq5
      clear hI hs5 hq5
      by_cases m_0 : m = 0
      · subst m_0
        go_wp2_with fail
        refine (nextG_ex g N C B A l 2 _ hI5.k hl hN (by decide) (by decide)).mono ?_
        rintro e w6 ⟨x, rfl, hx, hs6, hq6⟩
        have hI6 := hI5.src hs6 hq6
        obtain ⟨q, hq⟩ : ∃ q : Nat, 6 + x = (q : Int) := ⟨(6 + x).toNat, by omega⟩
        have hq7 : q ≤ 7 := by omega
        have yq : IntKind.i64.wrap (6 + x) = (q : Int) := by rw [hq]; exact IntWalk.i64_in _ (by omega)
        have hml : q ≤ maxLen := by unfold maxLen; omega
        have hz6 := hI6.o.size
        clear hI5 hs6 hq6 hx hq
        go_wp2_with (at_make; refine wpList_make_full _ rfl _ _ 28 rfl w6.heap.size 83 i0 _ 3 Try.underlying28 hi0 hz0 hz1 .i64 .i64 _ _ q rfl rfl rfl rfl (by rw [hz2]; omega) hml (Nat.le_refl _) ?_; intro w7 hown7 hg7; have hown : OwnS Un.S w7 w6.heap.size (w6.heap.size + 1) (.slice (some ⟨w6.heap.size, 0, none⟩) q q) (List.replicate q Un.zero) := (by
          refine ⟨?_, fun k hk => by simp [Value.ownBlock] at hk; omega⟩
          have hmd := Shp.made Un.S #[.bool false, .int .i64 0, .bool false] rfl q
          rw [List.length_replicate, show (List.replicate q Un.zero).flatMap Un.S.enc = _ from hmd.symm]
          exact hown7); have hs7 : w6.heap.size + 1 ≤ w7.heap.size := (by have := hown.lt w6.heap.size rfl; omega); have hI7 : DsI w g N C B A l (some ⟨w6.heap.size, 0, none⟩) q q w7 := hI6.new ((Below.refl _ _).grown hg7 (Nat.le_refl _) (by simp)) (hown.mono (Nat.le_refl _) hs7) (Nat.le_refl _); clear hown7 hg7 hown)
        go_ret
        exact DrSu.mk_ hI7 hq7
      have m_0' : (m == 0) = false := by simpa using m_0
      by_cases m_1 : m = 1
      · subst m_1
        go_wp2_with fail
        refine (pick_lit g N C B A l [-1, 1000000000, 1000000001] _ _ w5 rfl rfl hI5.k.s hI5.k.c hl hI5.k.b hN (by simp) (by simp)).mono ?_
        rintro e w6 ⟨x, rfl, hx, hs6, hq6⟩
        have hI6 := hI5.src ⟨hs6, hI5.k.c.only hq6 (by have := hI5.k.b; omega) (by have := hI5.k.b; have := hI5.k.lt; omega), hI5.k.b⟩ hq6
        obtain ⟨li, ho⟩ := hI6.row
        have hz6 := hI6.o.size
        clear hI5 hs6 hq6 hx
        go_wp2_with (at_builtin; refine wp_pushUn w6 rfl (.tmp 35) (.tmp 40) 28 rfl Try.underlying28 A5 n5 c5 _ _ _ (by rfl) ho ⟨false, x, false⟩ w6.heap.size (by rfl) rfl (by omega) hz6 ?_; intro A8 c8 w8 ho8 hm8; have hI8 := Lib.hid (hI6.push ho8 hm8); clear ho8 hm8)
        go_ret
        exact DrSu.mk_ hI8.out (by omega)
      · have m_1' : (m == 1) = false := by simpa using m_1
        have HE := Lib.hid (DrSu.mk_ hI5 (by omega))
        clear hI5
        go_wp2_with fail
        go_ret
        exact HE.out
end Go.Proofs.Ytnfnmdeiaihgnaa
