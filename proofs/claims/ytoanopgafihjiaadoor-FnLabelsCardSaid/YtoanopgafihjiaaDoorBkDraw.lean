/- Contracts of the draws of books: l02Draw. -/
import Derived.Test.YtoanopgafihjiaaDoorSrc
import Derived.Test.YtoanopgafihjiaaDoorPush
import Derived.Test.YtoanopgafihjiaaDoorStarts
import Derived.Deep.RegionLaw
import Derived.Deep.DrawnRows
namespace Go.Proofs.YtoanopgafihjiaaDoor
open Go.RowKit Pg

/-- A book as it is drawn: small numbers. -/
def tame (f : Int) (l : List Int) : Prop := -1 ≤ f ∧ f ≤ 41 ∧ l.length ≤ 21 ∧ ∀ c ∈ l, 0 ≤ c ∧ c ≤ 201
theorem tame_mild {f : Int} {l : List Int} (h : tame f l) : mild f l := ⟨h.1, by have := h.2.1; omega, by have := h.2.2.1; omega, fun c hc => by have := h.2.2.2 c hc; omega⟩
/-- A book is drawn. -/
def DrB (w : World) (g : Nat) (A : Option Addr) (N C : Nat) (e : Ending) (w' : World) : Prop :=
  ∃ f A' n' c' r l', e = .returned (BK f A' n' c' r) ∧ Own I w' w.heap.size w'.heap.size 2 (.slice A' n' c') l' ∧ tame f l' ∧ Src w' g A N C ∧ Only g (g + 1) w w'
theorem DrB.mk_ {w w' : World} {g N C n' c' lo : Nat} {A A' : Option Addr} {f : Int} {r : Bool} {l' : List Int} (h1 : Own I w' lo w'.heap.size 2 (.slice A' n' c') l') (h2 : w.heap.size ≤ lo) (h3 : tame f l') (h4 : Src w' g A N C) (h5 : Only g (g + 1) w w') :
    DrB w g A N C (.returned (BK f A' n' c' r)) w' := ⟨_, _, _, _, _, _, rfl, h1.mono h2 (Nat.le_refl _), h3, h4, h5⟩
theorem neBI : (26 : TypeId) ≠ 2 := by decide
theorem neSI : (88 : TypeId) ≠ 2 := by decide
theorem Src.other {w : World} {g N C : Nat} {A : Option Addr} (h : Src w g A N C) (p : Addr) (u : Value) (hp : g ≠ p.block) : Src (w.setCell p u) g A N C := by
  obtain ⟨a, s, h1, h2⟩ := h
  exact ⟨a, s, (heap_setCell_other w p g u hp).trans h1, h2⟩
theorem Src.kept {w w' : World} {g N C : Nat} {A : Option Addr} (h : Src w g A N C) (hk : w'.heap[g]? = w.heap[g]?) : Src w' g A N C := by
  obtain ⟨a, s, h1, h2⟩ := h
  exact ⟨a, s, hk.trans h1, h2⟩
theorem Src.far {α : Type} {enc : α → Value} {w : World} {g N C lo hi : Nat} {A : Option Addr} {v : Value} {l : List α} (h : Src w g A N C) (ho : Own enc w lo hi 2 v l) : Far v g := by
  obtain ⟨a, s, h1, h2⟩ := h
  exact ho.far h1 neSI
theorem Blk.kept {w w' : World} {g : Nat} {cs : Array Value} {t : TypeId} (h : Blk w g cs t) (hk : w'.heap[g]? = w.heap[g]?) : Blk w' g cs t := hk.trans h
theorem Only.plus {a b B : Nat} {w w1 w2 : World} (h : Only a b w w1) (k : Below B w1 w2) (hB : w.heap.size ≤ B) : Only a b w w2 :=
  ⟨k.os.trans h.os, k.tape.trans h.tape, k.output.trans h.output, Nat.le_trans h.size k.size, fun i hi' hne => (k.block i (by omega)).trans (h.block i hi' hne)⟩
theorem Only.plus_only {a b lo hi : Nat} {w w1 w2 : World} (h : Only a b w w1) (k : Only lo hi w1 w2) (hlo : w.heap.size ≤ lo) : Only a b w w2 :=
  ⟨k.os.trans h.os, k.tape.trans h.tape, k.output.trans h.output, Nat.le_trans h.size k.size, fun i hi' hne => (k.block i (Nat.lt_of_lt_of_le hi' h.size) (.inl (by omega))).trans (h.block i hi' hne)⟩
theorem two_step (k m : Nat) (h : k < m) : (List.replicate k (2 : Int) ++ List.replicate (m - k) 0).set k 2 = List.replicate (k + 1) 2 ++ List.replicate (m - (k + 1)) 0 := by
  rw [List.set_append_right _ _ (by simp), List.length_replicate, Nat.sub_self, show m - k = m - (k + 1) + 1 from by omega, List.replicate_succ, List.set_cons_zero, List.replicate_succ', List.append_assoc]
  rfl

set_option maxRecDepth 100000 in
set_option maxHeartbeats 8000000 in
theorem l02Draw_any (g N C B : Nat) (A : Option Addr) (lc : List Int) (w : World) (hs : Src w g A N C) (hc : Rd U w B A N lc) (hl : inByte lc) (hB : B ≤ g) (hN : N ≤ 1048576) :
    Calls Tryd.prog 51 #[.pointer (some ⟨g, 0, none⟩)] w fun e w' => DrB w g A N C e w' := by
  obtain ⟨i0, hi0, hz0, hz1, hz2⟩ := info_parts infoI
  have hlt := hs.lt
  have hsA := hs.below ((Below.refl w.heap.size w).alloc (Nat.le_refl _) (.cells #[.int .i64 0, .slice none 0 0, .bool false] 26)) hlt
  have hOA : Only g (g + 1) w (w.alloc (.cells #[.int .i64 0, .slice none 0 0, .bool false] 26)) := (Only.refl _ _ _).plus ((Below.refl w.heap.size w).alloc (Nat.le_refl _) _) (Nat.le_refl _)
  have hrA : Blk (w.alloc (.cells #[.int .i64 0, .slice none 0 0, .bool false] 26)) w.heap.size #[.int .i64 0, .slice none 0 0, .bool false] 26 := Blk.new _ _ rfl
  have hcA : ∀ W, Only g (g + 1) w W → Rd U W B A N lc := fun W hO => hc.only hO hB (by omega)
  have HCA := Lib.hid hcA
  clear hcA
  go_enter Tryd.func51, Tryd.ntmps51
  go_wp2_with fail
  refine (l01Next_any g N C B A lc _ _ hsA (HCA.out _ hOA) hl hB hN (by omega)).mono ?_
  rintro e w1 ⟨v1, rfl, hv0, hv1, _, hs1, ho1⟩
  have hv1' := hv1 (by omega)
  have hO1 := hOA.trans ho1
  have hr1 := hrA.only ho1 (.inr (by omega))
  have hz1' := ho1.size
  simp only [World.size_alloc] at hz1'
  have hsB := hs1.below ((Below.refl w1.heap.size w1).alloc (Nat.le_refl _) (.cells #[] 2)) hs1.lt
  have hOB := hO1.plus ((Below.refl w1.heap.size w1).alloc (Nat.le_refl _) (.cells #[] 2)) (by omega)
  have hlit := Own.lit0 I w1 2
  have hrB := hr1.alloc (.cells #[] 2)
  clear hv1 hsA hOA hrA
  go_wp2_with fail
  refine (l01Next_any g N C B A lc _ _ hsB (HCA.out _ hOB) hl hB hN (by omega)).mono ?_
  rintro e w2 ⟨v2, rfl, hw0, _, _, hs2, ho2⟩
  obtain ⟨rr, hrr⟩ : ∃ rr, (v2 == 0) = rr := ⟨_, rfl⟩
  have hO2 := hOB.trans ho2
  have hr2 := hrB.only ho2 (.inr (by omega))
  have hz2' := ho2.size
  simp only [World.size_alloc] at hz2'
  have how2 := hlit.only ho2 (.inr (by omega))
  have hOC := hO2.plus ((Below.refl w2.heap.size w2).alloc (Nat.le_refl _) (.cells #[.int .i64 v1, .slice (some ⟨w1.heap.size, 0, none⟩) 0 0, .bool rr] 26)) (by omega)
  have hsC := hs2.below ((Below.refl w2.heap.size w2).alloc (Nat.le_refl _) (.cells #[.int .i64 v1, .slice (some ⟨w1.heap.size, 0, none⟩) 0 0, .bool rr] 26)) hs2.lt
  have hrC := hr2.alloc (.cells #[.int .i64 v1, .slice (some ⟨w1.heap.size, 0, none⟩) 0 0, .bool rr] 26)
  have hbC : Blk (w2.alloc (.cells #[.int .i64 v1, .slice (some ⟨w1.heap.size, 0, none⟩) 0 0, .bool rr] 26)) w2.heap.size #[.int .i64 v1, .slice (some ⟨w1.heap.size, 0, none⟩) 0 0, .bool rr] 26 := Blk.new _ _ rfl
  have howC := how2.alloc (.cells #[.int .i64 v1, .slice (some ⟨w1.heap.size, 0, none⟩) 0 0, .bool rr] 26)
  clear hsB hOB hlit hrB hr1 hr2 how2
  go_wp2_with fail
  refine (l01Next_any g N C B A lc _ _ hsC (HCA.out _ hOC) hl hB hN (by omega)).mono ?_
  rintro e w3 ⟨v3, rfl, hx0, hx1, _, hs3, ho3⟩
  obtain ⟨q3, rfl⟩ := Int.eq_ofNat_of_zero_le hx0
  have hx1' := hx1 (by omega)
  have hO3 := hOC.trans ho3
  have hr3 := hrC.only ho3 (.inr (by omega))
  have hb3 := hbC.only ho3 (.inr (by omega))
  have how3 := howC.only ho3 (.inr (by omega))
  have hz3' := ho3.size
  simp only [World.size_alloc] at hz3'
  clear hx1 hsC hOC hrC hbC howC hrr hw0
  go_wp2_with fail
  go_loopw [4] (fun nn wr => ∃ (j : Nat) (A3 : Option Addr) (k c3 : Nat) (lst : List Int), nn = .int .i64 j ∧ j + k = 1 + q3 ∧ Blk wr w.heap.size #[.int .i64 0, .slice none 0 0, .bool false] 26 ∧ Blk wr w2.heap.size #[.int .i64 v1, .slice A3 k c3, .bool rr] 26 ∧
      Own I wr w.heap.size wr.heap.size 2 (.slice A3 k c3) lst ∧ Hid (∀ c ∈ lst, 1 ≤ c ∧ c ≤ 20) ∧ Src wr g A N C ∧ Only g (g + 1) w wr) (fun nn _ => (intOf nn).toNat)
  case atStart => exact ⟨1 + q3, _, 0, 0, [], by go_num, rfl, hr3, hb3, how3.mono (by omega) (by omega), fun c hc => by simp at hc, hs3, hO3⟩
  case round =>
    clear hr3 hb3 how3 hO3 hs3 hs2 hs1 hO2 hO1
    obtain ⟨j, A3, k, c3, lst, rfl, hjk, hbr, hbb, how, hlst, hsr, hO⟩ := hrel
    have hzr := hO.size
    have hlb := hbb.lt
    have hln := Lib.hid (show lst.length = k from how.rd.1)
    have HJK := Lib.hid hjk
    have hk6 : k ≤ 6 := by omega
    have hj6 : j ≤ 6 := by omega
    clear hjk
    by_cases hj : 0 < j
    · have t1 := hbb.cell 1 (v := .slice A3 k c3) rfl
      have HK : Hid (k ≤ 1099511627776) := show k ≤ 1099511627776 by omega
      go_wp2_with fail
      go_region_law (first
        | (refine step_push3 _ rfl (.tmp 21) (.tmp 25) 24 rfl 2 i0 (.int .i64 0) 8 Tryd.underlying24 hi0 hz0 hz1 hz2 rfl A3 k c3 lst _ _ (by rfl) how5 (1 + v) (by rfl) rfl HK.out (by omega) (by omega) ?_; intro A4 c4 w4 ho4 hm4 hk4; have hbb4 := hbb5.kept (hk4 _ hbb5.lt (how5.far hbb5 neBI)).1; have x1 := hbb4.cell 1 (v := .slice A3 k c3) rfl; have y1 := hbb4.free 1)
        | (go_simp; go_at_call 36; refine (l01Next_any g N C B A lc _ wr.drew hsr (HCA.out wr hO) hl hB hN (by omega)).mono ?_; rintro e w5 ⟨v, rfl, hv0, hv1, _, hs5, ho5⟩; have hv1 := hv1 (by omega); have hsum : IntKind.i64.wrap (1 + v) = 1 + v := IntWalk.i64_in _ (by omega); have hbb5 := (show Blk wr.drew w2.heap.size #[.int .i64 v1, .slice A3 k c3, .bool rr] 26 from hbb).only ho5 (.inr (by omega)); have how5 := (show Own I wr.drew w.heap.size wr.heap.size 2 (.slice A3 k c3) lst from how).only ho5 (.inr (by omega)); have t5 := hbb5.cell 1 (v := .slice A3 k c3) rfl; have t5' := (hbb5.alloc (.cells #[.int .i64 (1 + v)] 2)).cell 1 (v := .slice A3 k c3) rfl; have hl5 := hbb5.lt; have hz5 : wr.heap.size ≤ w5.heap.size := ho5.size))
      all_goals
        have hbr5 := (show Blk wr.drew w.heap.size #[.int .i64 0, .slice none 0 0, .bool false] 26 from hbr).only ho5 (.inr (by omega))
        have hbr4 := hbr5.kept (hk4 _ hbr5.lt (how5.far hbr5 neBI)).1
        have hs4 := hs5.kept (hk4 _ hs5.lt (hs5.far how5)).1
        have hO5 : Only g (g + 1) w w5 := hO.drew.trans ho5
        have hO4 := hO5.plus_only hm4 (Nat.le_refl _)
        have hf4 := ho4.far hbb4 neBI
        have hz4 := hm4.size
        have HL2 : Hid (∀ c ∈ lst ++ [1 + v], 1 ≤ c ∧ c ≤ 20) := by
          intro c hc
          rcases List.mem_append.1 hc with hc | hc
          · exact hlst.out c hc
          · simp at hc; omega
        clear hbr5 hbb5 how5 hO5 ho5 hm4 hk4 hs5 t5 t5' hbr hbb how hsr hO hlst hln hsum
        go_wp2_with fail
        go_roundw
        case rel => exact ⟨j - 1, _, k + 1, c4, _, (by congr 1; omega), by have := HJK.out; omega, hbr4.other _ _ (by simp; omega), hbb4.set 1 _, (ho4.other _ _ hf4).mono (Nat.le_refl _) (by simp), HL2, hs4.other _ _ (by simp; omega), hO4.new _ _ (by simp; omega)⟩
        case measure => simp [intOf]; omega
    · obtain rfl : j = 0 := by omega
      have hk1 : 1 ≤ k := by have := HJK.out; omega
      have hln2 : lst.length ≤ 6 := by have := hln.out; omega
      have HT : Hid (∀ f, -1 ≤ f → f ≤ 41 → tame f lst) := fun f h0 h1 => ⟨h0, h1, by omega, fun c hc => by have := hlst.out c hc; omega⟩
      go_wp2_with fail
      refine (l01Next_any g N C B A lc _ _ hsr (HCA.out _ hO) hl hB hN (by omega)).mono ?_
      rintro e w4 ⟨v, rfl, hv0, hv1, _, hs4, ho4⟩
      have hO4 := hO.trans ho4
      have hbr4 := hbr.only ho4 (.inr (by omega))
      have hbb4 := hbb.only ho4 (.inr (by omega))
      have how4 := (how.only ho4 (.inr (by omega))).mono (Nat.le_refl _) ho4.size
      have hz4 := ho4.size
      clear hbr hbb how hsr hO hv1
      by_cases h0 : v = 0
      · subst h0
        go_wp2_with fail
        refine (pick_lit g N C B A lc [-1, 40, 41] _ _ w4 rfl rfl hs4 (HCA.out _ hO4) hl hB hN (by decide) (by decide)).mono ?_
        rintro e w5 ⟨x, rfl, hx, hs5, ho5⟩
        have hxb : -1 ≤ x ∧ x ≤ 41 := by simp at hx; omega
        have hO5 := hO4.trans ho5
        have hbr5 := hbr4.only ho5 (.inr (by omega))
        have hbb5 := hbb4.only ho5 (.inr (by omega))
        have how5 := (how4.only ho5 (.inr (by omega))).mono (Nat.le_refl _) ho5.size
        have x0 := hbb5.cell 0 (v := .int .i64 v1) rfl
        have y0' := hbb5.free 0
        have hfb := how5.far hbb5 neBI
        have HTX := Lib.hid (HT.out x hxb.1 hxb.2)
        have hbb := hbb5.set 0 (.int .i64 x)
        have hbr := hbr5.other ⟨w2.heap.size, 0, none⟩ (.int .i64 x) (by simp; omega)
        have how := (how5.other ⟨w2.heap.size, 0, none⟩ (.int .i64 x) hfb).mono (Nat.le_refl _) (show _ ≤ (w5.setCell ⟨w2.heap.size, 0, none⟩ (.int .i64 x)).heap.size by simp)
        have hsr := hs5.other ⟨w2.heap.size, 0, none⟩ (.int .i64 x) (by simp; omega)
        have hO := hO5.new ⟨w2.heap.size, 0, none⟩ (.int .i64 x) (by simp; omega)
        clear hx hO4 hbr4 hbb4 how4 hs4 hO5 hbr5 hbb5 how5 hs5 hfb
        have t0 := hbb.cell 0 (v := .int .i64 (x)) rfl
        have t1 := hbb.cell 1 (v := .slice (A3) k c3) rfl
        have t2 := hbb.cell 2 (v := .bool rr) rfl
        have u0 := hbr.cell 0 (v := .int .i64 0) rfl
        have u1 := hbr.cell 1 (v := .slice none 0 0) rfl
        have u2 := hbr.cell 2 (v := .bool false) rfl
        have y0 := hbr.free 0
        have y1 := hbr.free 1
        have y2 := hbr.free 2
        have s0 := hbr.set 0 (.int .i64 (x))
        have s1 := s0.set 1 (.slice (A3) k c3)
        have d0 := s0.cell 0 (v := .int .i64 (x)) rfl
        have d1 := s1.cell 1 (v := .slice (A3) k c3) rfl
        have d2 := (s1.set 2 (.bool rr)).cell 2 (v := .bool rr) rfl
        have hfr := how.far hbr neBI
        have HEND : Hid (DrB w g A N C (.returned (BK (x) ((A3)) k c3 rr)) ((((w5.setCell ⟨w2.heap.size, 0, none⟩ (.int .i64 x)).setCell ⟨w.heap.size, 0, none⟩ (.int .i64 (x))).setCell ⟨w.heap.size, 1, none⟩ (.slice (A3) k c3)).setCell ⟨w.heap.size, 2, none⟩ (.bool rr))) := by
          have z1 := how.other ⟨w.heap.size, 0, none⟩ (.int .i64 (x)) hfr
          have z2 := z1.other ⟨w.heap.size, 1, none⟩ (.slice (A3) k c3) hfr
          have z3 := z2.other ⟨w.heap.size, 2, none⟩ (.bool rr) hfr
          exact DrB.mk_ (z3.mono (Nat.le_refl _) (by simp)) (Nat.le_refl _) HTX.out (((hsr.other ⟨w.heap.size, 0, none⟩ _ (by simp; omega)).other ⟨w.heap.size, 1, none⟩ _ (by simp; omega)).other ⟨w.heap.size, 2, none⟩ _ (by simp; omega)) (((hO.new ⟨w.heap.size, 0, none⟩ _ (by simp)).new ⟨w.heap.size, 1, none⟩ _ (by simp)).new ⟨w.heap.size, 2, none⟩ _ (by simp))
        clear hbb hbr how hO hfr s0 s1
        go_wp2_with fail
        exact bodyPost_ret (v := BK (x) ((A3)) k c3 rr) (by simp [results, Tryd.results51, go_sem, d0, d1, d2]) rfl HEND.out
      · by_cases h1 : v = 1
        · subst h1
          obtain ⟨q, y, rfl, hq0, hq1, hq2, hy, hcy, hfy⟩ := how4.at_ (k := 0) (by omega)
          have t1 := hbb4.cell 1 (v := .slice (some ⟨q, 0, none⟩) k c3) rfl
          have hqb : w2.heap.size ≠ q := fun e => by
            have := how4.far hbb4 neBI
            exact this (by simp [Value.ownBlock, e])
          have hqr : w.heap.size ≠ q := fun e => by
            have := how4.far hbr4 neBI
            exact this (by simp [Value.ownBlock, e])
          clear hy
          have hl4 := hbb4.lt
          have k0 : 0 < k := by omega
          have k0' : (0 : Int) < (k : Int) := by omega
          go_wp2_with fail
          go_region_law ((go_simp; go_at_call 41; refine (pick_lit g N C B A lc [0, 200, 201] _ _ w4.drew rfl rfl hs4 (HCA.out w4 hO4) hl hB hN (by decide) (by decide)).mono ?_; rintro e w5 ⟨x, rfl, hx, hs5, ho5⟩; have hxb : 0 ≤ x ∧ x ≤ 201 := (by simp at hx; omega); clear hx; have how5 := (show Own I w4.drew w.heap.size w4.heap.size 2 (.slice (some ⟨q, 0, none⟩) k c3) lst from how4).only ho5 (.inr (by omega)); have hbb5 := (show Blk w4.drew w2.heap.size #[.int .i64 v1, .slice (some ⟨q, 0, none⟩) k c3, .bool rr] 26 from hbb4).only ho5 (.inr (by omega)); have t5 := hbb5.cell 1 (v := .slice (some ⟨q, 0, none⟩) k c3) rfl; have hl5 := hbb5.lt; have hcf : ∃ y', w5.cell? ⟨q, 0, none⟩ = some (I y') ∧ w5.frozen? ⟨q, 0, none⟩ = false := (by obtain ⟨q', y', hA', _, _, _, _, hc', hf'⟩ := how5.at_ (k := 0) (by omega); injection hA' with hA'; injection hA' with hA'; subst hA'; exact ⟨y', hc', hf'⟩); obtain ⟨y5, hcy5, hfy5⟩ := hcf; have hz5 : w4.heap.size ≤ w5.heap.size := ho5.size))
          all_goals
            have hbr5 := (show Blk w4.drew w.heap.size #[.int .i64 0, .slice none 0 0, .bool false] 26 from hbr4).only ho5 (.inr (by omega))
            have hO5 : Only g (g + 1) w w5 := hO4.drew.trans ho5
            have hst := how5.set_ (k := 0) x
            have how := hst.1.mono (Nat.le_refl _) (show _ ≤ (w5.setCell ⟨q, 0, none⟩ (.int .i64 x)).heap.size by simp; omega)
            have hbb := hbb5.other ⟨q, 0, none⟩ (.int .i64 x) hqb
            have hbr := hbr5.other ⟨q, 0, none⟩ (.int .i64 x) hqr
            have hsr := hs5.other ⟨q, 0, none⟩ (.int .i64 x) (by simp; omega)
            have hO := hO5.new ⟨q, 0, none⟩ (.int .i64 x) hq0
            have HTX : Hid (tame v1 (lst.set 0 x)) := ⟨by omega, by omega, by rw [List.length_set]; omega, fun c hc => by
              rcases List.mem_or_eq_of_mem_set hc with hc | hc
              · have := hlst.out c hc; omega
              · omega⟩
            clear hbr5 hbb5 how5 hO5 hst hs5 hbr4 hbb4 how4 hs4 hO4 t5 hcy5 hfy5
            have t0 := hbb.cell 0 (v := .int .i64 (v1)) rfl
            have t1 := hbb.cell 1 (v := .slice (some ⟨q, 0, none⟩) k c3) rfl
            have t2 := hbb.cell 2 (v := .bool rr) rfl
            have u0 := hbr.cell 0 (v := .int .i64 0) rfl
            have u1 := hbr.cell 1 (v := .slice none 0 0) rfl
            have u2 := hbr.cell 2 (v := .bool false) rfl
            have y0 := hbr.free 0
            have y1 := hbr.free 1
            have y2 := hbr.free 2
            have s0 := hbr.set 0 (.int .i64 (v1))
            have s1 := s0.set 1 (.slice (some ⟨q, 0, none⟩) k c3)
            have d0 := s0.cell 0 (v := .int .i64 (v1)) rfl
            have d1 := s1.cell 1 (v := .slice (some ⟨q, 0, none⟩) k c3) rfl
            have d2 := (s1.set 2 (.bool rr)).cell 2 (v := .bool rr) rfl
            have hfr := how.far hbr neBI
            have HEND : Hid (DrB w g A N C (.returned (BK (v1) ((some ⟨q, 0, none⟩)) k c3 rr)) ((((w5.setCell ⟨q, 0, none⟩ (.int .i64 x)).setCell ⟨w.heap.size, 0, none⟩ (.int .i64 (v1))).setCell ⟨w.heap.size, 1, none⟩ (.slice (some ⟨q, 0, none⟩) k c3)).setCell ⟨w.heap.size, 2, none⟩ (.bool rr))) := by
              have z1 := how.other ⟨w.heap.size, 0, none⟩ (.int .i64 (v1)) hfr
              have z2 := z1.other ⟨w.heap.size, 1, none⟩ (.slice (some ⟨q, 0, none⟩) k c3) hfr
              have z3 := z2.other ⟨w.heap.size, 2, none⟩ (.bool rr) hfr
              exact DrB.mk_ (z3.mono (Nat.le_refl _) (by simp)) (Nat.le_refl _) HTX.out (((hsr.other ⟨w.heap.size, 0, none⟩ _ (by simp; omega)).other ⟨w.heap.size, 1, none⟩ _ (by simp; omega)).other ⟨w.heap.size, 2, none⟩ _ (by simp; omega)) (((hO.new ⟨w.heap.size, 0, none⟩ _ (by simp)).new ⟨w.heap.size, 1, none⟩ _ (by simp)).new ⟨w.heap.size, 2, none⟩ _ (by simp))
            clear hbb hbr how hO hfr s0 s1
            go_wp2_with fail
            exact bodyPost_ret (v := BK (v1) ((some ⟨q, 0, none⟩)) k c3 rr) (by simp [results, Tryd.results51, go_sem, d0, d1, d2]) rfl HEND.out
        · by_cases h2 : v = 2
          · subst h2
            go_wp2_with fail
            refine (pick_lit g N C B A lc [0, 20, 21] _ _ w4 rfl rfl hs4 (HCA.out _ hO4) hl hB hN (by decide) (by decide)).mono ?_
            rintro e w5 ⟨x, rfl, hx, hs5, ho5⟩
            have hxb : 0 ≤ x ∧ x ≤ 21 := by simp at hx; omega
            obtain ⟨m, rfl⟩ := Int.eq_ofNat_of_zero_le hxb.1
            have hm21 : m ≤ 21 := by omega
            have hO5 := hO4.trans ho5
            have hbr5 := hbr4.only ho5 (.inr (by omega))
            have hbb5 := hbb4.only ho5 (.inr (by omega))
            have HB2 : i0.bytes * m ≤ 281474976710656 := by rw [hz2]; omega
            have HN2 : m ≤ maxLen := by unfold maxLen; omega
            have hz5 : w4.heap.size ≤ w5.heap.size := ho5.size
            clear hx hO4 hbr4 hbb4 how4 hs4
            go_wp2_with (at_make; refine wpList_make_full _ rfl _ _ 24 rfl w5.heap.size 2 i0 _ 1 Tryd.underlying24 hi0 hz0 hz1 .i64 .i64 _ _ m rfl rfl rfl rfl HB2 HN2 (Nat.le_refl _) ?_; intro w6 hown6 hg6; have hbb6 := hbb5.below ((Below.refl w5.heap.size w5).grown hg6 (Nat.le_refl _) (by simp)) hbb5.lt; have z1' := hbb6.cell 1 (v := .slice A3 k c3) rfl; have zf := hbb6.free 1)
            have hb6 : Below w5.heap.size w5 w6 := (Below.refl _ _).grown hg6 (Nat.le_refl _) (by simp)
            have how6 : Own I w6 w5.heap.size w6.heap.size 2 (.slice (some ⟨w5.heap.size, 0, none⟩) m m) (List.replicate m 0) := by
              refine Own.here (n := m) ?_ (by simp)
              rw [show (Value.int IntKind.i64 0).cells = #[.int .i64 0] from rfl, toList_madeCells_one] at hown6
              simpa using hown6
            have hbr6 := hbr5.below hb6 hbr5.lt
            have hs6 := hs5.below hb6 hs5.lt
            have hO6 := hO5.plus hb6 (by omega)
            have hz6 := hb6.size
            have hbb := hbb6.set 1 (.slice (some ⟨w5.heap.size, 0, none⟩) m m)
            have hbr := hbr6.other ⟨w2.heap.size, 1, none⟩ (.slice (some ⟨w5.heap.size, 0, none⟩) m m) (by simp; omega)
            have how := how6.other ⟨w2.heap.size, 1, none⟩ (.slice (some ⟨w5.heap.size, 0, none⟩) m m) (how6.far hbb6 neBI)
            have hsr := hs6.other ⟨w2.heap.size, 1, none⟩ (.slice (some ⟨w5.heap.size, 0, none⟩) m m) (by simp; omega)
            have hO := hO6.new ⟨w2.heap.size, 1, none⟩ (.slice (some ⟨w5.heap.size, 0, none⟩) m m) (by simp; omega)
            clear hown6 hg6 hbb6 z1' zf how6 hbr6 hs6 hO6 hb6 hO5 hbr5 hbb5 hs5 hlst HT
            go_wp2_with fail
            go_loopw [5] (fun i wr => ∃ k : Nat, k ≤ m ∧ i = .int .i64 k ∧ Blk wr w2.heap.size #[.int .i64 v1, .slice (some ⟨w5.heap.size, 0, none⟩) m m, .bool rr] 26 ∧ Blk wr w.heap.size #[.int .i64 0, .slice none 0 0, .bool false] 26 ∧ Own I wr w5.heap.size wr.heap.size 2 (.slice (some ⟨w5.heap.size, 0, none⟩) m m) (List.replicate k 2 ++ List.replicate (m - k) 0) ∧ Src wr g A N C ∧ Only g (g + 1) w wr) (fun i _ => m - (intOf i).toNat)
            case atStart => exact ⟨0, by omega, rfl, hbb, hbr, by simpa using how.mono (Nat.le_refl _) (by simp), hsr, hO⟩
            case round =>
              clear hbb hbr how hsr hO
              obtain ⟨k, hk, rfl, hbb, hbr, how, hsr, hO⟩ := hrel
              have z1' := hbb.cell 1 (v := .slice (some ⟨w5.heap.size, 0, none⟩) m m) rfl
              by_cases hkm : k < m
              · obtain ⟨q, y, hqe, _, _, _, _, hcy, hfy⟩ := how.at_ hkm
                injection hqe with hqe
                injection hqe with hqe
                subst hqe
                have hst := how.set_ (k := k) 2
                go_wp2_with fail
                go_roundw
                case rel => exact ⟨k + 1, by omega, by go_num, hbb.other _ _ (by simp; omega), hbr.other _ _ (by simp; omega), by have := hst.1.mono (Nat.le_refl _) (show _ ≤ (wr.setCell ⟨w5.heap.size, k, none⟩ (.int .i64 2)).heap.size by simp); rwa [two_step k m hkm] at this, hsr.other _ _ (by simp; omega), hO.new _ _ (by simp; omega)⟩
                case measure => simp [intOf]; omega
              · obtain rfl : k = m := by omega
                have HTX : Hid (tame v1 (List.replicate k 2 ++ List.replicate (k - k) 0)) := ⟨by omega, by omega, by simp; omega, fun c hc => by simp at hc; omega⟩
                have t0 := hbb.cell 0 (v := .int .i64 (v1)) rfl
                have t1 := hbb.cell 1 (v := .slice (some ⟨w5.heap.size, 0, none⟩) k k) rfl
                have t2 := hbb.cell 2 (v := .bool rr) rfl
                have u0 := hbr.cell 0 (v := .int .i64 0) rfl
                have u1 := hbr.cell 1 (v := .slice none 0 0) rfl
                have u2 := hbr.cell 2 (v := .bool false) rfl
                have y0 := hbr.free 0
                have y1 := hbr.free 1
                have y2 := hbr.free 2
                have s0 := hbr.set 0 (.int .i64 (v1))
                have s1 := s0.set 1 (.slice (some ⟨w5.heap.size, 0, none⟩) k k)
                have d0 := s0.cell 0 (v := .int .i64 (v1)) rfl
                have d1 := s1.cell 1 (v := .slice (some ⟨w5.heap.size, 0, none⟩) k k) rfl
                have d2 := (s1.set 2 (.bool rr)).cell 2 (v := .bool rr) rfl
                have hfr := how.far hbr neBI
                have HEND : Hid (DrB w g A N C (.returned (BK (v1) ((some ⟨w5.heap.size, 0, none⟩)) k k rr)) (((wr.setCell ⟨w.heap.size, 0, none⟩ (.int .i64 (v1))).setCell ⟨w.heap.size, 1, none⟩ (.slice (some ⟨w5.heap.size, 0, none⟩) k k)).setCell ⟨w.heap.size, 2, none⟩ (.bool rr))) := by
                  have z1 := how.other ⟨w.heap.size, 0, none⟩ (.int .i64 (v1)) hfr
                  have z2 := z1.other ⟨w.heap.size, 1, none⟩ (.slice (some ⟨w5.heap.size, 0, none⟩) k k) hfr
                  have z3 := z2.other ⟨w.heap.size, 2, none⟩ (.bool rr) hfr
                  exact DrB.mk_ (z3.mono (Nat.le_refl _) (by simp)) (by omega) HTX.out (((hsr.other ⟨w.heap.size, 0, none⟩ _ (by simp; omega)).other ⟨w.heap.size, 1, none⟩ _ (by simp; omega)).other ⟨w.heap.size, 2, none⟩ _ (by simp; omega)) (((hO.new ⟨w.heap.size, 0, none⟩ _ (by simp)).new ⟨w.heap.size, 1, none⟩ _ (by simp)).new ⟨w.heap.size, 2, none⟩ _ (by simp))
                clear hbb hbr how hO hfr s0 s1
                go_wp2_with fail
                exact bodyPost_ret (v := BK (v1) ((some ⟨w5.heap.size, 0, none⟩)) k k rr) (by simp [results, Tryd.results51, go_sem, d0, d1, d2]) rfl HEND.out
          · have n0 : (v == 0) = false := by simpa using h0
            have n1 : (v == 1) = false := by simpa using h1
            have n2 : (v == 2) = false := by simpa using h2
            have HTX := Lib.hid (HT.out v1 (by omega) (by omega))
            have hbb := hbb4
            have hbr := hbr4
            have how := how4
            have hsr := hs4
            have hO := hO4
            clear hbb4 hbr4 how4 hs4 hO4
            have t0 := hbb.cell 0 (v := .int .i64 (v1)) rfl
            have t1 := hbb.cell 1 (v := .slice (A3) k c3) rfl
            have t2 := hbb.cell 2 (v := .bool rr) rfl
            have u0 := hbr.cell 0 (v := .int .i64 0) rfl
            have u1 := hbr.cell 1 (v := .slice none 0 0) rfl
            have u2 := hbr.cell 2 (v := .bool false) rfl
            have y0 := hbr.free 0
            have y1 := hbr.free 1
            have y2 := hbr.free 2
            have s0 := hbr.set 0 (.int .i64 (v1))
            have s1 := s0.set 1 (.slice (A3) k c3)
            have d0 := s0.cell 0 (v := .int .i64 (v1)) rfl
            have d1 := s1.cell 1 (v := .slice (A3) k c3) rfl
            have d2 := (s1.set 2 (.bool rr)).cell 2 (v := .bool rr) rfl
            have hfr := how.far hbr neBI
            have HEND : Hid (DrB w g A N C (.returned (BK (v1) ((A3)) k c3 rr)) (((w4.setCell ⟨w.heap.size, 0, none⟩ (.int .i64 (v1))).setCell ⟨w.heap.size, 1, none⟩ (.slice (A3) k c3)).setCell ⟨w.heap.size, 2, none⟩ (.bool rr))) := by
              have z1 := how.other ⟨w.heap.size, 0, none⟩ (.int .i64 (v1)) hfr
              have z2 := z1.other ⟨w.heap.size, 1, none⟩ (.slice (A3) k c3) hfr
              have z3 := z2.other ⟨w.heap.size, 2, none⟩ (.bool rr) hfr
              exact DrB.mk_ (z3.mono (Nat.le_refl _) (by simp)) (Nat.le_refl _) HTX.out (((hsr.other ⟨w.heap.size, 0, none⟩ _ (by simp; omega)).other ⟨w.heap.size, 1, none⟩ _ (by simp; omega)).other ⟨w.heap.size, 2, none⟩ _ (by simp; omega)) (((hO.new ⟨w.heap.size, 0, none⟩ _ (by simp)).new ⟨w.heap.size, 1, none⟩ _ (by simp)).new ⟨w.heap.size, 2, none⟩ _ (by simp))
            clear hbb hbr how hO hfr s0 s1
            go_wp2_with fail
            exact bodyPost_ret (v := BK (v1) ((A3)) k c3 rr) (by simp [results, Tryd.results51, go_sem, d0, d1, d2]) rfl HEND.out
end Go.Proofs.YtoanopgafihjiaaDoor
