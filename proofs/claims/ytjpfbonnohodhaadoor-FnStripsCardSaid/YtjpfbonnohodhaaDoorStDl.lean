/- Contract of the draw of lists that are often stacks: l03DrawList. -/
import Derived.Test.YtjpfbonnohodhaaDoorStDraw
import Derived.Test.YtjpfbonnohodhaaDoorStCr2
import Derived.Test.YtjpfbonnohodhaaDoorStStMath
import Derived.Deep.RegionLaw
import Derived.Deep.DrawnRows
import Derived.Lib.SliceRun
namespace Go.Proofs.YtjpfbonnohodhaaDoor
open Go.RowKit Go.Shelf

def DrL (w : World) (g : Nat) (e : Ending) (w' : World) : Prop :=
  ∃ (A' : Option Addr) (n' c' : Nat) (L : List Int), e = .returned (.slice A' n' c') ∧ Rd I w' w'.heap.size A' n' L ∧ n' ≤ 1048576 ∧ (∀ x ∈ L, -1000 ≤ x ∧ x ≤ 1000) ∧ Only g (g + 1) w w'
theorem stack_small {l : List UInt8} (hf : St.foldsB l = true) : ∀ x ∈ St.stack l, -1000 ≤ x ∧ x ≤ 1000 := by
  intro x hx
  have := (St.cr_facts hf).range x hx
  have h6 : 2 ^ l.length ≤ 64 := pow_le6 (by
    unfold St.foldsB at hf
    simp only [Bool.and_eq_true, decide_eq_true_eq] at hf
    exact hf.2)
  unfold St.cellOf at this
  omega

theorem set_small {L : List Int} {k : Nat} {v : Int} (h : ∀ x ∈ L, -1000 ≤ x ∧ x ≤ 1000) (hv : -1000 ≤ v ∧ v ≤ 1000) : ∀ x ∈ L.set k v, -1000 ≤ x ∧ x ≤ 1000 := by
  intro x hx
  rcases List.mem_or_eq_of_mem_set hx with hx | rfl
  · exact h x hx
  · exact hv
theorem take_rd {w : World} {B n k : Nat} {A : Option Addr} {L : List Int} (h : Rd I w B A n L) (hk : k ≤ n) : Rd I w B A k (L.take k) := by
  refine ⟨by rw [List.length_take, h.1]; omega, fun h0 => ?_⟩
  obtain ⟨b, o, e, hb, hc⟩ := h.2 (by omega)
  refine ⟨b, o, e, hb, fun j x hx => hc j x ?_⟩
  rw [List.getElem?_take] at hx
  split at hx
  · exact hx
  · cases hx

set_option maxRecDepth 100000 in
set_option maxHeartbeats 4000000 in
theorem l03DrawList_any (g N C B : Nat) (A : Option Addr) (l : List Int) (w : World) (hs : Src w g A N C) (hc : Rd U w B A N l) (hl : inByte l) (hB : B ≤ g) (hN : N ≤ 1048576) :
    Calls Tryd.prog 37 #[.pointer (some ⟨g, 0, none⟩)] w fun e w' => DrL w g e w' := by
  have hlt := hs.lt
  go_enter Tryd.func37, Tryd.ntmps37
  go_wp2_with fail
  refine (l03Draw_any g N C B A l _ hs hc hl hB hN).mono ?_
  rintro e w1 ⟨t, rfl, ht, hs1, ho1⟩
  have hz1 := ho1.size
  have hb1 : Below g w w1 := ho1.below (Nat.le_refl _) (by omega)
  have hl1 := Own.lit1 w1 1
  have hbl : Below w1.heap.size w1 (w1.alloc (.cells #[I 1] 2)) := (Below.refl _ _).alloc (Nat.le_refl _) _
  have hs2 := hs1.below hbl (by omega)
  have hc2 := (hc.below hb1 hB).below hbl (by omega)
  have HO2 : Hid (Only g (g + 1) w (w1.alloc (.cells #[I 1] 2))) := Lib.hid (ho1.trans (Only.of_below hbl _ _))
  have hzz : (w1.alloc (.cells #[I 1] 2)).heap.size = w1.heap.size + 1 := by simp
  clear hbl hs1 ho1 hb1
  by_cases hf : St.foldsB t.data.toList = true
  · have HF := Lib.hid hf
    have hn2 := stack_len _ hf
    have h6 : t.size ≤ 6 := St.folds_len hf
    rw [toList_len] at hn2
    have hp := pow_le6 h6
    have hp0 : 0 < 2 ^ t.size := Nat.pow_pos (by omega)
    go_wp2_with fail
    refine (specIsFolds_any t _ (by omega)).mono ?_
    rintro e _ ⟨rfl, rfl⟩
    rw [HF.out]
    go_wp2_with fail
    refine (stack_any t _ HF.out).mono ?_
    rintro e w3 ⟨A1, n, c, rfl, own0, hb3⟩
    have hz3 : w1.heap.size + 1 ≤ w3.heap.size := by have := hb3.size; simpa using this
    have hn : n = 2 ^ t.size := own0.rd.1.symm.trans hn2
    have hn0 : 0 < n := by omega
    have hn64 : n ≤ 64 := by omega
    obtain ⟨L, hL⟩ : ∃ L, St.stack t.data.toList = L := ⟨_, rfl⟩
    have HLB : Hid (∀ x ∈ L, -1000 ≤ x ∧ x ≤ 1000) := by rw [← hL]; exact Lib.hid (stack_small hf)
    rw [hL] at own0
    clear hL hn hn2 hp hp0 hf
    obtain ⟨q, _, _, rfl, _, _, _⟩ : ∃ q x y, A1 = some ⟨q, 0, none⟩ ∧ x = 0 ∧ y = 0 ∧ True := by
      obtain ⟨q, _, h, _⟩ := own0.at_ hn0
      exact ⟨q, 0, 0, h, rfl, rfl, trivial⟩
    have own := own0.mono (lo' := w.heap.size) (by have h9 : (w1.alloc (.cells #[.int .i64 1] 2)).heap.size = w1.heap.size + 1 := hzz; exact Nat.le_trans (show w.heap.size ≤ w1.heap.size + 1 by omega) (Nat.le_of_eq h9.symm)) (Nat.le_refl _)
    have hsW := hs2.below hb3 (Nat.lt_of_lt_of_eq (show g < w1.heap.size + 1 by omega) hzz.symm)
    have hcW := hc2.below hb3 (Nat.le_trans (show B ≤ w1.heap.size + 1 by omega) (Nat.le_of_eq hzz.symm))
    have HOW : Hid (Only g (g + 1) w w3) := Lib.hid (HO2.out.trans (Only.of_below hb3 _ _))
    clear own0 hb3 hs2 hc2 hl1
    go_wp2_with fail
    refine (l01Next_any g N C B A l _ _ hsW hcW hl hB hN (by omega)).mono ?_
    rintro e w4 ⟨v, rfl, hv0, hv1, _, hs4, ho4⟩
    have hvn : v < (n : Int) := hv1 (by omega)
    obtain ⟨k, rfl⟩ : ∃ k : Nat, v = (k : Int) := ⟨v.toNat, by omega⟩
    have hkn : k < n := by omega
    have hkc : (k : Int) ≤ (c : Int) := by have := own.cap; omega
    have hz4 := ho4.size
    have own4 := own.only ho4 (.inr (by omega))
    have hO4 := HOW.out.trans ho4
    have hc4 := hcW.below (ho4.below (B := g) (Nat.le_refl _) (by omega)) hB
    clear hv1 hsW hcW own ho4
    go_wp2_with fail
    refine (l01Next_any g N C B A l _ _ hs4 hc4 hl hB hN (by omega)).mono ?_
    rintro e w5 ⟨z, rfl, hz0, hz1, _, hs5, ho5⟩
    have hz12 : z < 12 := hz1 (by omega)
    have hz5 := ho5.size
    have own5 := own4.only ho5 (.inr (by omega))
    have hO5 := hO4.trans ho5
    have hc5 := hc4.below (ho5.below (B := g) (Nat.le_refl _) (by omega)) hB
    clear hz1 hs4 hc4 own4 ho5 hO4
    obtain ⟨g', x, hg', _, _, _, hx, cx, fx⟩ := own5.at_ hkn
    injection hg' with hg'
    injection hg' with hg' _ _
    subst hg'
    have hxb := HLB.out x (List.mem_of_getElem? hx)
    clear hx
    have HO5 := Lib.hid hO5
    have HOWN := Lib.hid own5
    clear hO5 own5
    by_cases h0 : z = 0
    · subst h0
      have u1 : IntKind.i64.wrap (-x) = -x := IntWalk.i64_in _ (by omega)
      go_wp2_with fail
      go_ret
      exact ⟨_, _, _, L.set k (-x), rfl, (HOWN.out.set_ (-x)).1.rd.more (by simp; omega), by omega, set_small HLB.out (by omega), HO5.out.andNew (HOWN.out.set_ (-x)).2⟩
    · by_cases h1 : z = 1
      · subst h1
        go_wp2_with fail
        refine (l01Next_any g N C B A l _ _ hs5 hc5 hl hB hN (by omega)).mono ?_
        rintro e w6 ⟨v6, rfl, hv60, hv61, _, _, ho6⟩
        have hv62 : v6 < (n : Int) := hv61 (by omega)
        obtain ⟨j, rfl⟩ : ∃ j : Nat, v6 = (j : Int) := ⟨v6.toNat, by omega⟩
        have hjn : j < n := by omega
        have hz6 := ho6.size
        have own6 := HOWN.out.only ho6 (.inr (by omega))
        have HO6 := Lib.hid (HO5.out.trans ho6)
        clear hv61 ho6 cx fx
        obtain ⟨g6, x6, hg6, _, _, _, hx6, cx6, fx6⟩ := own6.at_ hkn
        injection hg6 with hg6
        injection hg6 with hg6 _ _
        subst hg6
        obtain ⟨g7, y6, hg7, _, _, _, hy6, cy6, fy6⟩ := own6.at_ hjn
        injection hg7 with hg7
        injection hg7 with hg7 _ _
        subst hg7
        have hxb6 := HLB.out x6 (List.mem_of_getElem? hx6)
        have hyb6 := HLB.out y6 (List.mem_of_getElem? hy6)
        have s1 := own6.set_ (k := k) y6
        obtain ⟨g8, y8, hg8, _, _, _, _, cy8, fy8⟩ := s1.1.at_ hjn
        injection hg8 with hg8
        injection hg8 with hg8 _ _
        subst hg8
        have s2 := s1.1.set_ (k := j) x6
        have HE : Hid (DrL w g (.returned (.slice (some ⟨q, 0, none⟩) n c)) ((w6.setCell ⟨q, k, none⟩ (I y6)).setCell ⟨q, j, none⟩ (I x6))) :=
          ⟨_, _, _, _, rfl, s2.1.rd.more (by simp; omega), by omega, set_small (set_small HLB.out (by omega)) (by omega), (HO6.out.andNew s1.2).andNew s2.2⟩
        clear s1 s2 hx6 hy6 own6
        go_wp2_with fail
        go_ret
        exact HE.out
      · by_cases h2 : z = 2
        · subst h2
          obtain ⟨g6, x6, hg6, _, _, _, hx6, cx6, fx6⟩ := HOWN.out.at_ (k := 0) (by omega)
          injection hg6 with hg6
          injection hg6 with hg6 _ _
          subst hg6
          have hxb6 := HLB.out x6 (List.mem_of_getElem? hx6)
          clear cx fx
          have e5 : IntKind.i64.wrap ((n : Int) + 1) = (n : Int) + 1 := IntWalk.i64_in _ (by omega)
          go_wp2_with fail
          refine (pick_lit g N C B A l [0, 65, -65, x6, (n : Int) + 1] _ _ w5 rfl rfl hs5 hc5 hl hB hN (by simp) (by simp)).mono ?_
          rintro e w6 ⟨y, rfl, hy, _, ho6⟩
          have hyb : -1000 ≤ y ∧ y ≤ 1000 := by simp at hy; omega
          have hz6 := ho6.size
          have own6 := HOWN.out.only ho6 (.inr (by omega))
          have HO6 := Lib.hid (HO5.out.trans ho6)
          clear hy ho6 cx6 fx6 hx6
          obtain ⟨g7, x7, hg7, _, _, _, _, cx7, fx7⟩ := own6.at_ hkn
          injection hg7 with hg7
          injection hg7 with hg7 _ _
          subst hg7
          have s1 := own6.set_ (k := k) y
          have HE : Hid (DrL w g (.returned (.slice (some ⟨q, 0, none⟩) n c)) (w6.setCell ⟨q, k, none⟩ (I y))) :=
            ⟨_, _, _, _, rfl, s1.1.rd.more (by simp; omega), by omega, set_small HLB.out hyb, HO6.out.andNew s1.2⟩
          clear s1 own6
          go_wp2_with fail
          go_ret
          exact HE.out
        · by_cases h3 : z = 3
          · subst h3
            go_wp2_with fail
            go_ret
            exact ⟨_, _, _, L.take k, rfl, (take_rd HOWN.out.rd (by omega)).more (by omega), by omega, fun x hx => HLB.out x (List.mem_of_mem_take hx), HO5.out⟩
          · go_wp2_with fail
            go_ret
            exact ⟨_, _, _, L, rfl, HOWN.out.rd.more (by omega), by omega, HLB.out, HO5.out⟩
  · have HF : Hid (St.foldsB t.data.toList = false) := Lib.hid (by simpa using hf)
    clear hf
    go_wp2_with fail
    refine (specIsFolds_any t _ (by omega)).mono ?_
    rintro e _ ⟨rfl, rfl⟩
    rw [HF.out]
    go_wp2_with fail
    obtain ⟨w3, hw3⟩ : ∃ W, W = w1.alloc (.cells #[.int .i64 1] 2) := ⟨_, rfl⟩
    have HLB : Hid (∀ x ∈ [(1 : Int)], -1000 ≤ x ∧ x ≤ 1000) := Lib.hid (by simp)
    have own : Own I w3 w.heap.size w3.heap.size 2 (.slice (some ⟨w1.heap.size, 0, none⟩) 1 1) [1] := by rw [hw3]; exact hl1.mono (by omega) (Nat.le_of_eq hzz.symm)
    have hsW : Src w3 g A N C := by rw [hw3]; exact hs2
    have hcW : Rd U w3 B A N l := by rw [hw3]; exact hc2
    have HOW : Hid (Only g (g + 1) w w3) := by rw [hw3]; exact HO2
    have hz3 : w1.heap.size + 1 ≤ w3.heap.size := by rw [hw3]; exact Nat.le_of_eq hzz.symm
    rw [← hw3]
    clear hw3 hl1 hs2 hc2 HO2 hzz
    refine (l01Next_any g N C B A l _ _ hsW hcW hl hB hN (by omega)).mono ?_
    rintro e w4 ⟨v, rfl, hv0, hv1, _, hs4, ho4⟩
    have hvn : v < ((1 : Nat) : Int) := hv1 (by omega)
    obtain ⟨k, rfl⟩ : ∃ k : Nat, v = (k : Int) := ⟨v.toNat, by omega⟩
    have hkn : k < 1 := by omega
    obtain rfl : k = 0 := by omega
    have hkc : ((0 : Nat) : Int) ≤ ((1 : Nat) : Int) := by have := own.cap; omega
    have hz4 := ho4.size
    have own4 := own.only ho4 (.inr (by omega))
    have hO4 := HOW.out.trans ho4
    have hc4 := hcW.below (ho4.below (B := g) (Nat.le_refl _) (by omega)) hB
    clear hv1 hsW hcW own ho4
    go_wp2_with fail
    refine (l01Next_any g N C B A l _ _ hs4 hc4 hl hB hN (by omega)).mono ?_
    rintro e w5 ⟨z, rfl, hz0, hz1, _, hs5, ho5⟩
    have hz12 : z < 12 := hz1 (by omega)
    have hz5 := ho5.size
    have own5 := own4.only ho5 (.inr (by omega))
    have hO5 := hO4.trans ho5
    have hc5 := hc4.below (ho5.below (B := g) (Nat.le_refl _) (by omega)) hB
    clear hz1 hs4 hc4 own4 ho5 hO4
    obtain ⟨g', x, hg', _, _, _, hx, cx, fx⟩ := own5.at_ hkn
    injection hg' with hg'
    injection hg' with hg' _ _
    subst hg'
    have hxb := HLB.out x (List.mem_of_getElem? hx)
    clear hx
    have HO5 := Lib.hid hO5
    have HOWN := Lib.hid own5
    clear hO5 own5
    by_cases h0 : z = 0
    · subst h0
      have u1 : IntKind.i64.wrap (-x) = -x := IntWalk.i64_in _ (by omega)
      go_wp2_with fail
      go_ret
      exact ⟨_, _, _, [(1 : Int)].set 0 (-x), rfl, (HOWN.out.set_ (-x)).1.rd.more (by simp; omega), by omega, set_small HLB.out (by omega), HO5.out.andNew (HOWN.out.set_ (-x)).2⟩
    · by_cases h1 : z = 1
      · subst h1
        go_wp2_with fail
        refine (l01Next_any g N C B A l _ _ hs5 hc5 hl hB hN (by omega)).mono ?_
        rintro e w6 ⟨v6, rfl, hv60, hv61, _, _, ho6⟩
        have hv62 : v6 < ((1 : Nat) : Int) := hv61 (by omega)
        obtain ⟨j, rfl⟩ : ∃ j : Nat, v6 = (j : Int) := ⟨v6.toNat, by omega⟩
        have hjn : j < 1 := by omega
        obtain rfl : j = 0 := by omega
        have hz6 := ho6.size
        have own6 := HOWN.out.only ho6 (.inr (by omega))
        have HO6 := Lib.hid (HO5.out.trans ho6)
        clear hv61 ho6 cx fx
        obtain ⟨g6, x6, hg6, _, _, _, hx6, cx6, fx6⟩ := own6.at_ hkn
        injection hg6 with hg6
        injection hg6 with hg6 _ _
        subst hg6
        obtain ⟨g7, y6, hg7, _, _, _, hy6, cy6, fy6⟩ := own6.at_ hjn
        injection hg7 with hg7
        injection hg7 with hg7 _ _
        subst hg7
        obtain rfl : x6 = y6 := Option.some.inj (hx6.symm.trans hy6)
        have hxb6 := HLB.out x6 (List.mem_of_getElem? hx6)
        have hyb6 := HLB.out x6 (List.mem_of_getElem? hy6)
        have s1 := own6.set_ (k := 0) x6
        obtain ⟨g8, y8, hg8, _, _, _, _, cy8, fy8⟩ := s1.1.at_ hjn
        injection hg8 with hg8
        injection hg8 with hg8 _ _
        subst hg8
        have s2 := s1.1.set_ (k := 0) x6
        have HE : Hid (DrL w g (.returned (.slice (some ⟨w1.heap.size, 0, none⟩) 1 1)) ((w6.setCell ⟨w1.heap.size, 0, none⟩ (I x6)).setCell ⟨w1.heap.size, 0, none⟩ (I x6))) :=
          ⟨_, _, _, _, rfl, s2.1.rd.more (by simp; omega), by omega, set_small (set_small HLB.out (by omega)) (by omega), (HO6.out.andNew s1.2).andNew s2.2⟩
        clear s1 s2 hx6 hy6 own6
        go_wp2_with fail
        go_ret
        exact HE.out
      · by_cases h2 : z = 2
        · subst h2
          obtain ⟨g6, x6, hg6, _, _, _, hx6, cx6, fx6⟩ := HOWN.out.at_ (k := 0) (by omega)
          injection hg6 with hg6
          injection hg6 with hg6 _ _
          subst hg6
          have hxb6 := HLB.out x6 (List.mem_of_getElem? hx6)
          clear cx fx
          have e5 : IntKind.i64.wrap (1 + 1) = 2 := IntWalk.i64_in _ (by omega)
          go_wp2_with fail
          refine (pick_lit g N C B A l [0, 65, -65, x6, 2] _ _ w5 rfl rfl hs5 hc5 hl hB hN (by simp) (by simp)).mono ?_
          rintro e w6 ⟨y, rfl, hy, _, ho6⟩
          have hyb : -1000 ≤ y ∧ y ≤ 1000 := by simp at hy; omega
          have hz6 := ho6.size
          have own6 := HOWN.out.only ho6 (.inr (by omega))
          have HO6 := Lib.hid (HO5.out.trans ho6)
          clear hy ho6 cx6 fx6 hx6
          obtain ⟨g7, x7, hg7, _, _, _, _, cx7, fx7⟩ := own6.at_ hkn
          injection hg7 with hg7
          injection hg7 with hg7 _ _
          subst hg7
          have s1 := own6.set_ (k := 0) y
          have HE : Hid (DrL w g (.returned (.slice (some ⟨w1.heap.size, 0, none⟩) 1 1)) (w6.setCell ⟨w1.heap.size, 0, none⟩ (I y))) :=
            ⟨_, _, _, _, rfl, s1.1.rd.more (by simp; omega), by omega, set_small HLB.out hyb, HO6.out.andNew s1.2⟩
          clear s1 own6
          go_wp2_with fail
          go_ret
          exact HE.out
        · by_cases h3 : z = 3
          · subst h3
            go_wp2_with fail
            go_ret
            exact ⟨_, _, _, [(1 : Int)].take 0, rfl, (take_rd HOWN.out.rd (by omega)).more (by omega), by omega, fun x hx => HLB.out x (List.mem_of_mem_take hx), HO5.out⟩
          · go_wp2_with fail
            go_ret
            exact ⟨_, _, _, [1], rfl, HOWN.out.rd.more (by omega), by omega, HLB.out, HO5.out⟩
end Go.Proofs.YtjpfbonnohodhaaDoor
