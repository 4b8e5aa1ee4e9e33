/- Contract of the draw of a gang (the states and the walk are those of chapter 10's draw, for another function). -/
import Derived.Test.YtilfmnffdloneaaGaPc
import Derived.Test.YtilfmnffdloneaaSrc
import Derived.Test.YtilfmnffdloneaaSgDo
namespace Go.Proofs.Ytilfmnffdloneaa
open Go.RowKit
set_option linter.unusedVariables false

/-- The state of the draw of a task: the source, the code, the strips. -/
structure DgI (w : World) (g N C B : Nat) (A : Option Addr) (l : List Int) (A5 : Option Addr) (n5 c5 : Nat) (wr : World) : Prop where
  s : Src wr g A N C
  c : Rd U wr B A N l
  row : ∃ li, Own I wr w.heap.size wr.heap.size 2 (.slice A5 n5 c5) li
  o : Only g (g + 1) w wr
  hg : g < w.heap.size
  hB : B ≤ g
section
variable {w wr w' : World} {g N C B n5 c5 n6 c6 : Nat} {A A5 A6 : Option Addr} {l : List Int}
theorem DgI.src (h : DgI w g N C B A l A5 n5 c5 wr) (hs : Src w' g A N C) (hq : Only g (g + 1) wr w') : DgI w g N C B A l A5 n5 c5 w' := by
  have h1 := h.hg
  have h2 := h.hB
  have h3 := h.o.size
  obtain ⟨li, hr⟩ := h.row
  exact ⟨hs, h.c.only hq (by omega) (by omega), ⟨li, (hr.only hq (.inr (by omega))).mono (Nat.le_refl _) hq.size⟩, h.o.trans hq, h1, h2⟩
theorem DgI.below (h : DgI w g N C B A l A5 n5 c5 wr) (hb : Below wr.heap.size wr w') : DgI w g N C B A l A5 n5 c5 w' := by
  have h1 := h.hg
  have h2 := h.hB
  have h3 := h.o.size
  obtain ⟨li, hr⟩ := h.row
  exact ⟨h.s.below hb h.s.lt, h.c.below hb (by omega), ⟨li, (hr.below hb (Nat.le_refl _)).mono (Nat.le_refl _) hb.size⟩, h.o.then_below hb (by omega), h1, h2⟩
theorem DgI.push {li : List Int} (h : DgI w g N C B A l A5 n5 c5 wr) (ho : Own I w' w.heap.size w'.heap.size 2 (.slice A6 n6 c6) li) (hm : Only w.heap.size wr.heap.size wr w') : DgI w g N C B A l A6 n6 c6 w' := by
  have h1 := h.hg
  have h2 := h.hB
  have h3 := h.o.size
  exact ⟨h.s.only hm (.inl (by omega)), h.c.only hm (by omega) (by omega), ⟨li, ho⟩, h.o.then_only hm (by omega), h1, h2⟩
theorem DgI.new {li : List Int} {lo : Nat} (h : DgI w g N C B A l A5 n5 c5 wr) (hb : Below wr.heap.size wr w') (ho : Own I w' lo w'.heap.size 2 (.slice A6 n6 c6) li) (hlo : wr.heap.size ≤ lo) : DgI w g N C B A l A6 n6 c6 w' := by
  have k := h.below hb
  have h3 := h.o.size
  exact ⟨k.s, k.c, ⟨li, ho.mono (by omega) (Nat.le_refl _)⟩, k.o, k.hg, k.hB⟩
end
def DrGa (w : World) (g N C : Nat) (A : Option Addr) (e' : Ending) (w' : World) : Prop := ∃ (r : Int) (A5 : Option Addr) (n c : Nat) (li : List Int), e' = .returned (.tuple #[.int .i64 r, .slice A5 n c]) ∧ (0 ≤ r ∧ r ≤ 33) ∧ Own I w' w.heap.size w'.heap.size 2 (.slice A5 n c) li ∧ (1 ≤ n ∧ n ≤ 7) ∧ Src w' g A N C ∧ Only g (g + 1) w w'
theorem DrGa.mk_ {w w' : World} {g N C B : Nat} {A : Option Addr} {l : List Int} {A5 : Option Addr} {n c : Nat} {r : Int} (h : DgI w g N C B A l A5 n c w') (hr : 0 ≤ r ∧ r ≤ 33) (hn : 1 ≤ n ∧ n ≤ 7) : DrGa w g N C A (.returned (.tuple #[.int .i64 r, .slice A5 n c])) w' := by
  obtain ⟨li, ho⟩ := h.row
  exact ⟨r, A5, n, c, li, rfl, hr, ho, hn, h.s, h.o⟩
set_option maxRecDepth 100000 in
set_option maxHeartbeats 16000000 in
theorem drawGa_any (g N C B : Nat) (A : Option Addr) (l : List Int) (w : World) (hs : Src w g A N C) (hc : Rd U w B A N l) (hl : inByte l) (hB : B ≤ g) (hN : N ≤ 1048576) :
    Calls Try.prog 40 #[.pointer (some ⟨g, 0, none⟩)] w fun e' w' => DrGa w g N C A e' w' := by
  obtain ⟨i0, hi0, hz0, hz1, hz2⟩ := info_parts infoI
  have hlt := hs.lt
  have hD0 : DgI w g N C B A l (some ⟨w.heap.size, 0, none⟩) 0 0 (w.alloc (.cells #[] 2)) := by
    have hbA : Below w.heap.size w (w.alloc (.cells #[] 2)) := (Below.refl _ _).alloc (Nat.le_refl _) _
    have ho0 : Own I (w.alloc (.cells #[] 2)) w.heap.size (w.heap.size + 1) 2 (.slice (some ⟨w.heap.size, 0, none⟩) 0 0) ([] : List Int) := Own.lit0 I w 2
    have hD : DgI w g N C B A l none 0 0 w := ⟨hs, hc, ⟨[], Own.nil_⟩, Only.refl g (g + 1) w, hlt, hB⟩
    exact hD.new hbA (ho0.mono (Nat.le_refl _) (by simp)) (Nat.le_refl _)
  clear hs hc
  go_enter Try.func40, Try.ntmps40
  go_wp2_with fail
  refine (l01Next_any g N C B A l 5 _ hD0.s hD0.c hl hB hN (by omega)).mono ?_
  rintro e w2 ⟨v, rfl, v0, v1, v9, hs2, hq2⟩
  have v2 : v < 5 := v1 (by decide)
  have hD2 := hD0.src hs2 hq2
  obtain ⟨k0, hk⟩ : ∃ k : Nat, 1 + v = (k : Int) := ⟨(1 + v).toNat, by omega⟩
  have yv : IntKind.i64.wrap (1 + v) = (k0 : Int) := by rw [hk]; exact IntWalk.i64_in _ (by omega)
  have hk0 : 1 ≤ k0 ∧ k0 ≤ 5 := by omega
  have hD3 : ∃ (A5 : Option Addr) (n5 c5 : Nat), (Value.slice (some ⟨w.heap.size, 0, none⟩) 0 0) = .slice A5 n5 c5 ∧ n5 + k0 ≤ 5 ∧ 1 ≤ n5 + k0 ∧ DgI w g N C B A l A5 n5 c5 w2 := ⟨_, _, _, rfl, by omega, by omega, hD2⟩
  clear hD0 hD2 hs2 hq2 v0 v1 v2 v9 hk
  go_wp2_with fail
  go_loopw [4, 5] (fun p i wr => ∃ (k : Nat) (A5 : Option Addr) (n5 c5 : Nat), i = .int .i64 k ∧ p = .slice A5 n5 c5 ∧ n5 + k ≤ 5 ∧ 1 ≤ n5 + k ∧ DgI w g N C B A l A5 n5 c5 wr) (fun _ i _ => (intOf i).toNat)
  case atStart =>
    obtain ⟨A5, n5, c5, h1, h2, h3, h4⟩ := hD3
    exact ⟨k0, A5, n5, c5, rfl, h1, h2, h3, h4⟩
  case round =>
    clear hD3
    obtain ⟨k, A5, n5, c5, rfl, rfl, hk, hk1, hI⟩ := hrel
    by_cases hkp : 0 < k
    · have yk : IntKind.i64.wrap ((k : Int) - 1) = ((k - 1 : Nat) : Int) := by rw [show ((k - 1 : Nat) : Int) = (k : Int) - 1 from by omega]; exact IntWalk.i64_in _ (by omega)
      have hkI : 0 < (k : Int) := by omega
      have hzr := hI.o.size
      go_wp2_with fail
      refine (pick_lit g N C B A l [20, 1000, 5000] _ _ wr rfl rfl hI.s hI.c hl hB hN (by simp) (by simp)).mono ?_
      rintro e w5 ⟨x, rfl, hx, hs5, hq5⟩
      have hI5 := hI.src hs5 hq5
      have hx5 : 1 ≤ x ∧ x ≤ 5000 := by simp at hx; omega
      clear hI hs5 hq5 hx
      go_wp2_with fail
      refine (l01Next_any g N C B A l x _ hI5.s hI5.c hl hB hN (by omega)).mono ?_
      rintro e w6 ⟨y, rfl, y0, y1, y9, hs6, hq6⟩
      have hI6 := hI5.src hs6 hq6
      have hy6 : y ≤ 5000 := by have := y1 hx5.1; omega
      have ey : IntKind.i64.wrap (1 + y) = 1 + y := IntWalk.i64_in _ (by omega)
      have hz6 := hI6.o.size
      obtain ⟨li, ho6⟩ := hI6.row
      clear hI5 hs6 hq6 y1 y9
      go_wp2_with (at_builtin; refine wp_push (enc := I) w6 rfl (.tmp 16) (.tmp 23) 24 rfl 2 i0 _ 8 Try.underlying24 hi0 hz0 hz1 hz2 rfl A5 n5 c5 _ _ _ (by rfl) ho6 (1 + y) (by rfl) rfl (by omega) (by omega) hz6 ?_; intro A7 c7 w7 ho7 hm7; have hI7 := Lib.hid (hI6.push ho7 hm7); clear ho7 hm7)
      go_roundw
      case rel => exact ⟨k - 1, A7, n5 + 1, c7, rfl, rfl, by omega, by omega, hI7.out⟩
      case measure => simp [intOf]; omega
    · obtain rfl : k = 0 := by omega
      go_wp2_with fail
      refine (l01Next_any g N C B A l 12 _ hI.s hI.c hl hB hN (by omega)).mono ?_
      rintro e w4 ⟨u, rfl, u0, u1, u9, hs4, hq4⟩
      have u2 : u < 12 := u1 (by decide)
      have hI4 := hI.src hs4 hq4
      obtain ⟨r, hr⟩ : ∃ r, (n5 : Int) + u = r := ⟨_, rfl⟩
      have yr : IntKind.i64.wrap ((n5 : Int) + u) = r := by rw [← hr]; exact IntWalk.i64_in _ (by omega)
      have hrb : 1 ≤ r ∧ r ≤ 16 := by omega
      clear hI hs4 hq4 u0 u1 u2 u9 hr
      go_wp2_with fail
      refine (l01Next_any g N C B A l 40 _ hI4.s hI4.c hl hB hN (by omega)).mono ?_
      rintro e w5 ⟨m, rfl, m0, m1, m9, hs5, hq5⟩
      have hI5 := hI4.src hs5 hq5
      clear hI4 hs5 hq5 m1 m9
      by_cases m_0 : m = 0
      · subst m_0
        have en : IntKind.i64.wrap ((n5 : Int) - 1) = (n5 : Int) - 1 := IntWalk.i64_in _ (by omega)
        go_wp2_with fail
        refine (pick_lit g N C B A l [0, (n5 : Int) - 1, 32, 33] _ _ w5 rfl rfl hI5.s hI5.c hl hB hN (by simp) (by simp)).mono ?_
        rintro e w6 ⟨x, rfl, hx, hs6, hq6⟩
        have HE := Lib.hid (DrGa.mk_ (hI5.src hs6 hq6) (r := x) (by simp at hx; omega) (by omega))
        clear hI5 hs6 hq6 hx
        go_wp2_with fail
        go_ret2
        exact HE.out
      have m_0' : (m == 0) = false := by simpa using m_0
      by_cases m_1 : m = 1
      · subst m_1
        go_wp2_with fail
        refine (pick_lit g N C B A l [0, 1000000, 1000001] _ _ w5 rfl rfl hI5.s hI5.c hl hB hN (by simp) (by simp)).mono ?_
        rintro e w6 ⟨x, rfl, hx, hs6, hq6⟩
        have hI6 := hI5.src hs6 hq6
        obtain ⟨li, ho⟩ := hI6.row
        have hn0 : 0 < n5 := by omega
        obtain ⟨gq, z, rfl, hg1, hg2, hg3, hz, cz, fz⟩ := ho.at_ (k := 0) hn0
        have hst := ho.set_ (k := 0) x
        have HE := Lib.hid (DrGa.mk_ (hI6.push (hst.1.mono (Nat.le_refl _) (show w6.heap.size ≤ (w6.setCell ⟨gq, 0, none⟩ (I x)).heap.size by simp)) hst.2) (r := r) (by omega) (by omega))
        have hnI : (0 : Int) < n5 := by omega
        clear hI5 hI6 hs6 hq6 hx ho hst hz
        go_wp2_with fail
        go_ret2
        exact HE.out
      have m_1' : (m == 1) = false := by simpa using m_1
      by_cases m_2 : m = 2
      · subst m_2
        go_wp2_with fail
        refine (l01Next_any g N C B A l 2 _ hI5.s hI5.c hl hB hN (by omega)).mono ?_
        rintro e w6 ⟨t, rfl, t0, t1, t9, hs6, hq6⟩
        have t2 : t < 2 := t1 (by decide)
        have hI6 := hI5.src hs6 hq6
        obtain ⟨q, hq⟩ : ∃ q : Nat, (q : Int) = 6 + t := ⟨(6 + t).toNat, by omega⟩
        have yq : IntKind.i64.wrap (6 + t) = (q : Int) := by rw [hq]; exact IntWalk.i64_in _ (by omega)
        have hq7 : 1 ≤ q ∧ q ≤ 7 := by omega
        have hml : q ≤ maxLen := by unfold maxLen; omega
        have hz6 := hI6.o.size
        clear hI5 hs6 hq6 t1 t9 hq
        go_wp2_with (at_make; refine wpList_make_full _ rfl _ _ 24 rfl w6.heap.size 2 i0 (.int .i64 0) 1 Try.underlying24 hi0 hz0 hz1 .i64 .i64 _ _ q rfl rfl rfl rfl (by rw [hz2]; omega) hml (Nat.le_refl _) ?_; intro w7 hown7 hg7; have hown : Own I w7 w6.heap.size (w6.heap.size + 1) 2 (.slice (some ⟨w6.heap.size, 0, none⟩) q q) (List.replicate q 0) := (by
          refine ⟨?_, fun k hk => by simp [Value.ownBlock] at hk; omega⟩
          have hz : (Value.int IntKind.i64 0).cells = #[.int .i64 0] := rfl
          rw [hz, toList_madeCells_one] at hown7
          simpa using hown7); have hs7 : w6.heap.size + 1 ≤ w7.heap.size := (by have := hown.lt w6.heap.size rfl; omega); have hI7 : DgI w g N C B A l (some ⟨w6.heap.size, 0, none⟩) q q w7 := hI6.new ((Below.refl _ _).grown hg7 (Nat.le_refl _) (by simp)) (hown.mono (Nat.le_refl _) hs7) (Nat.le_refl _); clear hown7 hg7 hown hs7 hI6)
        go_loopw [7] (fun i wr => ∃ k : Nat, k ≤ q ∧ i = .int .i64 k ∧ DgI w g N C B A l (some ⟨w6.heap.size, 0, none⟩) q q wr) (fun i _ => q - (intOf i).toNat)
        case atStart => exact ⟨0, Nat.zero_le _, rfl, hI7⟩
        case round =>
          clear hI7
          obtain ⟨k, hk, rfl, hI⟩ := hrel
          by_cases hlt2 : k < q
          · obtain ⟨li, ho⟩ := hI.row
            obtain ⟨g7, z, eg, hg1, hg2, hg3, hz, cz, fz⟩ := ho.at_ (k := k) hlt2
            injection eg with eg
            injection eg with eg _ _
            subst eg
            have hst := ho.set_ (k := k) 3
            have HI7 := Lib.hid (hI.push (hst.1.mono (Nat.le_refl _) (show wr.heap.size ≤ (wr.setCell ⟨w6.heap.size, k, none⟩ (I 3)).heap.size by simp)) hst.2)
            clear hst hz
            go_wp2_with fail
            go_roundw
            case rel => exact ⟨k + 1, by omega, by go_num, HI7.out⟩
            case measure => simp [intOf]; omega
          · obtain rfl : k = q := by omega
            have HE := Lib.hid (DrGa.mk_ hI (r := 12) (by omega) hq7)
            clear hI
            go_wp2_with fail
            go_ret2
            exact HE.out
      · have m_2' : (m == 2) = false := by simpa using m_2
        have HE := Lib.hid (DrGa.mk_ hI5 (r := r) (by omega) (by omega))
        clear hI5
        go_wp2_with fail
        go_ret2
        exact HE.out
end Go.Proofs.Ytilfmnffdloneaa
