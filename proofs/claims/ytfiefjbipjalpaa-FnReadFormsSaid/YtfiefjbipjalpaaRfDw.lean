/- The contract of ImposeSheet, the model's, and of the draw of a form. -/
import Derived.Test.YtfiefjbipjalpaaFmIq
import Derived.Test.YtfiefjbipjalpaaFmSh
import Derived.Test.YtfiefjbipjalpaaFoDw
import Derived.Deep.RegionLaw
namespace Go.Proofs.Ytfiefjbipjalpaa
open Go.RowKit

set_option maxRecDepth 100000 in
set_option maxHeartbeats 2000000 in
theorem specIp_any (a b : Int) (s : ByteArray) (u0 u1 C : Int) (L1 L2 L3 : List Int) (hR : Fm.ipR a b s.data.toList = (u0, u1, L1, L2, L3, C)) (hs : s.size ≤ 1048577) (w : World) :
    Calls Try.prog 64 #[.int .i64 a, .int .i64 b, .string s] w fun e w' => SC5 w u0 u1 L1 L2 L3 C e w' := by
  have HR := Lib.hid hR
  obtain ⟨D, hD⟩ : ∃ D, Fo.code a b s.data.toList = D := ⟨_, rfl⟩
  have hch : ∀ W, Calls Try.prog 102 #[.int .i64 a, .int .i64 b, .string s] W fun e w' => e = .returned (.int .i64 D) ∧ W = w' := fun W => by rw [← hD]; exact specCode_any a b s W hs
  have bR := Blk.new (w := w) (g := w.heap.size) (Fv.cs fv0) 26 rfl
  have hB0 := below_alloc w (.cells (Fv.cs fv0) 26)
  have HD := Lib.hid hD
  clear hR hD
  go_enter Try.func64, Try.ntmps64
  go_wp2_with fail
  generalize hW : w.alloc (.cells (Fv.cs fv0) 26) = W0 at bR hB0 ⊢
  have zW : W0.heap.size = w.heap.size + 1 := by rw [← hW]; simp
  clear hW
  refine (hch _).mono ?_
  rintro e _ ⟨rfl, rfl⟩
  by_cases h0 : D = 0
  rotate_left
  · have hD12 : D = 1 ∨ D = 2 := by
      have := HD.out
      unfold Fo.code at this
      split at this
      · split at this <;> omega
      · omega
    clear h0 hch
    rcases hD12 with rfl | rfl
    · skip
      obtain ⟨rfl, rfl, rfl, rfl, rfl, rfl⟩ := Fm.ip_bad HR.out HD.out (by decide)
      have s4 := bR.put5 fv0
      obtain ⟨x0, x1, x2, x3, x4⟩ := bR.lcell
      simp only at x0 x1 x2 x3 x4
      obtain ⟨y0, y1, y2, y3, y4⟩ := bR.freeF
      have HS4 := Lib.hid s4
      have HBW := Lib.hid (hB0)
      clear s4
      go_wp2_with fail
      obtain ⟨e0, e1, e2, e3, e4⟩ := HS4.out.lcell
      exact bodyPost_ret (v := .tuple #[Fv.v fv0, .int .i64 1]) (by simp [results, Try.results64, go_sem, e0, e1, e2, e3, e4]) rfl (SC5.mk_ fv0 rfl rfl (SF.zero _ w.heap.size w.heap.size) (Nat.le_refl _) (by have := HBW.out.size; simpa using this) fv0_le (below_put5 HBW.out fv0 (Nat.le_refl _)))
    · skip
      obtain ⟨rfl, rfl, rfl, rfl, rfl, rfl⟩ := Fm.ip_bad HR.out HD.out (by decide)
      have s4 := bR.put5 fv0
      obtain ⟨x0, x1, x2, x3, x4⟩ := bR.lcell
      simp only at x0 x1 x2 x3 x4
      obtain ⟨y0, y1, y2, y3, y4⟩ := bR.freeF
      have HS4 := Lib.hid s4
      have HBW := Lib.hid (hB0)
      clear s4
      go_wp2_with fail
      obtain ⟨e0, e1, e2, e3, e4⟩ := HS4.out.lcell
      exact bodyPost_ret (v := .tuple #[Fv.v fv0, .int .i64 2]) (by simp [results, Try.results64, go_sem, e0, e1, e2, e3, e4]) rfl (SC5.mk_ fv0 rfl rfl (SF.zero _ w.heap.size w.heap.size) (Nat.le_refl _) (by have := HBW.out.size; simpa using this) fv0_le (below_put5 HBW.out fv0 (Nat.le_refl _)))
  subst h0
  have hsc := Fo.code_zero HD.out
  obtain ⟨N, hN⟩ : ∃ N : Nat, 2 ^ s.size = N := ⟨_, rfl⟩
  have h6 := (Fo.scheme_len hsc).1
  rw [toList_len] at h6
  have N64 : N ≤ 64 := by rw [← hN]; exact pow_le6' h6
  have hg := Fm.ip_good HR.out HD.out
  rw [toList_len, hN] at hg
  obtain ⟨hu0, hu1, hL1, hL2, hL3, rfl⟩ := hg
  obtain rfl : a = u0 := hu0.symm
  obtain rfl : b = u1 := hu1.symm
  subst hL1 hL2 hL3
  have hcall := l05Form_any a b s W0 hsc N hN
  have HBR := Lib.hid bR
  have HB0 := Lib.hid hB0
  clear hsc hN bR hB0 hch h6
  go_wp2_with fail
  refine hcall.mono ?_
  rintro e w1 ⟨g1, g2, g3, rfl, oF, hb1⟩
  have z1 := hb1.size
  have bR1 := HBR.out.below hb1 (by omega)
  have HB1 := Lib.hid (HB0.out.trans (hb1.mono (by omega)))
  have HOF := Lib.hid oF
  have s4 := bR1.put5 ⟨a, b, some ⟨g1, 0, none⟩, N, N, some ⟨g2, 0, none⟩, N, N, some ⟨g3, 0, none⟩, N, N⟩
  obtain ⟨x0, x1, x2, x3, x4⟩ := bR1.lcell
  simp only at x0 x1 x2 x3 x4
  obtain ⟨y0, y1, y2, y3, y4⟩ := bR1.freeF
  have HS4 := Lib.hid s4
  clear s4 bR1 oF hb1 hcall
  go_wp2_with fail
  obtain ⟨e0, e1, e2, e3, e4⟩ := HS4.out.lcell
  simp only at e0 e1 e2 e3 e4
  exact bodyPost_ret (v := .tuple #[Fv.v ⟨a, b, some ⟨g1, 0, none⟩, N, N, some ⟨g2, 0, none⟩, N, N, some ⟨g3, 0, none⟩, N, N⟩, .int .i64 0]) (by simp [results, Try.results64, go_sem, e0, e1, e2, e3, e4]) rfl (SC5.mk_ ⟨a, b, some ⟨g1, 0, none⟩, N, N, some ⟨g2, 0, none⟩, N, N, some ⟨g3, 0, none⟩, N, N⟩ rfl rfl (HOF.out.put5 ⟨a, b, some ⟨g1, 0, none⟩, N, N, some ⟨g2, 0, none⟩, N, N, some ⟨g3, 0, none⟩, N, N⟩ (.inl (by omega))) (by omega) (by simp) ⟨show N ≤ _ by omega, show N ≤ _ by omega, show N ≤ _ by omega⟩ (below_put5 HB1.out ⟨a, b, some ⟨g1, 0, none⟩, N, N, some ⟨g2, 0, none⟩, N, N, some ⟨g3, 0, none⟩, N, N⟩ (Nat.le_refl _)))
end Go.Proofs.Ytfiefjbipjalpaa

namespace Go.Proofs.Ytfiefjbipjalpaa
open Go.RowKit

namespace Fm
/-- No number is far off. -/
def near (L : List Int) : Prop := ∀ x ∈ L, -1000 ≤ x ∧ x ≤ 1000000300
theorem near.set {L : List Int} (h : near L) (k : Nat) {x : Int} (hx : -1000 ≤ x ∧ x ≤ 1000000300) : near (L.set k x) := by
  intro y hy
  rcases List.mem_or_eq_of_mem_set hy with hy | rfl
  · exact h y hy
  · exact hx
theorem near.i64 {L : List Int} (h : near L) : i64s L := fun x hx => by have := h x hx; omega
theorem near.at_ {L : List Int} (h : near L) {k : Nat} {x : Int} (hx : L[k]? = some x) : -1000 ≤ x ∧ x ≤ 1000000300 := h x (List.mem_of_getElem? hx)
theorem imF_small (w : Int) (n : Nat) (lv : List Lv) (k : Nat) : ∀ x ∈ imF w n lv k, 0 ≤ x ∧ x ≤ 2 * (k : Int) := by
  induction k with
  | zero => intro x hx; simp [imF] at hx; omega
  | succ k ih =>
    intro x hx
    rw [imF] at hx
    split at hx
    · rcases List.mem_or_eq_of_mem_set hx with hx | rfl
      · have := ih x hx; omega
      · unfold up; split <;> omega
    · have := ih x hx; omega
theorem imB_small (w : Int) (n : Nat) (lv : List Lv) (k : Nat) : ∀ x ∈ imB w n lv k, 0 ≤ x ∧ x ≤ 2 * (k : Int) := by
  induction k with
  | zero => intro x hx; simp [imB] at hx; omega
  | succ k ih =>
    intro x hx
    rw [imB] at hx
    split at hx
    · rcases List.mem_or_eq_of_mem_set hx with hx | rfl
      · have := ih x hx; omega
      · unfold dn; split <;> omega
    · have := ih x hx; omega
theorem imH_small (w : Int) (n : Nat) (lv : List Lv) (k : Nat) : ∀ x ∈ imH w n lv k, 0 ≤ x ∧ x ≤ 1 := by
  induction k with
  | zero => intro x hx; simp [imH] at hx; omega
  | succ k ih =>
    intro x hx
    rw [imH] at hx
    split at hx
    · split at hx
      · rcases List.mem_or_eq_of_mem_set hx with hx | rfl
        · exact ih x hx
        · omega
      · exact ih x hx
    · exact ih x hx
theorem near_map {L : List Int} {y : Int} (h : ∀ x ∈ L, 0 ≤ x ∧ x ≤ 128) (hy : 0 ≤ y ∧ y ≤ 200) : near (L.map (· + y)) := by
  intro x hx
  obtain ⟨z, hz, rfl⟩ := List.mem_map.1 hx
  have := h z hz
  omega
end Fm
theorem Own.lit1 (w : World) (x : Int) : Own I (w.alloc (.cells #[I x] 2)) w.heap.size (w.heap.size + 1) 2 (.slice (some ⟨w.heap.size, 0, none⟩) 1 1) [x] := by
  refine ⟨⟨by simp, .inr ⟨w.heap.size, 1, #[I x], rfl, Nat.le_refl _, heap_alloc_new w _, Nat.le_refl _, by unfold maxLen; omega, rfl, rfl⟩⟩, fun k hk => by simp [Value.ownBlock] at hk; omega⟩
/-- What the draw of a form gives. -/
def Dr5 (w : World) (g N C : Nat) (A : Option Addr) (e : Ending) (w' : World) : Prop :=
  ∃ (f : Fv) (F G H : List Int) (t : ByteArray), e = .returned (.tuple #[f.v, .string t]) ∧ (-1 ≤ f.a ∧ f.a ≤ 16 ∧ -1 ≤ f.b ∧ f.b ≤ 16) ∧ t.size ≤ 7 ∧ (1 ≤ f.n1 ∧ f.n1 ≤ 64 ∧ f.n2 = f.n1 ∧ f.n3 ≤ 65) ∧ (Fm.near F ∧ Fm.near G ∧ Fm.near H) ∧ SF w' (g + 1) w'.heap.size f F G H ∧ Src w' g A N C ∧ Only g (g + 1) w w'
theorem only_put5 (V : World) (f : Fv) {g : Nat} : Only g (g + 1) V (put5w V g f) :=
  only_set (only_set (only_set (only_set (only_set (Only.refl _ _ _) _ (Nat.le_refl _) (Nat.lt_succ_self _)) _ (Nat.le_refl _) (Nat.lt_succ_self _)) _ (Nat.le_refl _) (Nat.lt_succ_self _)) _ (Nat.le_refl _) (Nat.lt_succ_self _)) _ (Nat.le_refl _) (Nat.lt_succ_self _)
theorem only_undrew {w w' : World} {lo hi : Nat} (h : Only lo hi w.drew w') : Only lo hi w w' := ⟨h.os, h.tape, h.output, h.size, h.block⟩
theorem Dr5.drew {w w' : World} {g N C : Nat} {A : Option Addr} {e : Ending} (h : Dr5 w g N C A e w') : Dr5 w g N C A e w'.drew := by
  obtain ⟨f, F, G, H, t, he, h1, h2, h3, h4, h5, h6, h7⟩ := h
  exact ⟨f, F, G, H, t, he, h1, h2, h3, h4, ⟨h5.o1.drewN 1, h5.o2.drewN 1, h5.o3.drewN 1⟩, h6.q (Q.drewN w' 1), h7.drewN 1⟩
theorem own_box {V : World} {lo hi g n c : Nat} {A : Option Addr} {L : List Int} {f : Fv} (ho : Own I V lo hi 2 (.slice A n c) L) (hb : FBx V g f) (i : Nat) (u : Value) : Own I (V.setCell ⟨g, i, none⟩ u) lo hi 2 (.slice A n c) L := by
  refine ho.keep fun k hk => heap_setCell_other V ⟨g, i, none⟩ k u fun e => ?_
  have e' : k = g := e
  subst e'
  rcases ho.1.2 with ⟨hn1, _⟩ | ⟨g', cap, cur, hv, _, hg, _⟩
  · rw [hn1] at hk
    simp [Value.ownBlock] at hk
  · rw [hv] at hk
    simp only [Value.ownBlock, Option.some.injEq] at hk
    subst hk
    have h2 := hg.symm.trans (show V.heap[g']? = _ from hb)
    injection h2 with h2
    injection h2 with _ h2 _
    exact absurd h2 (by decide)
theorem keep_set {V : World} {g1 k g2 i : Nat} {u v : Value} (hne : g2 ≠ g1) (h : V.cell? ⟨g2, i, none⟩ = some v) : (V.setCell ⟨g1, k, none⟩ u).cell? ⟨g2, i, none⟩ = some v :=
  (World.cell?_setCell_other (w := V) (v := u) (a := ⟨g1, k, none⟩) _ (fun he => hne (congrArg Addr.block he).symm)).trans h
set_option maxRecDepth 100000 in
set_option maxHeartbeats 8000000 in
theorem draw5_any (g N C B : Nat) (A : Option Addr) (l : List Int) (w : World) (hs : Src w g A N C) (hc : Rd U w B A N l) (hl : inByte l) (hB : B ≤ g) (hN : N ≤ 1048576) :
    Calls Try.prog 53 #[.pointer (some ⟨g, 0, none⟩)] w fun e w' => Dr5 w g N C A e w' := by
  obtain ⟨i0, hi0, hz0, hz1, hz2⟩ := info_parts infoI
  have hlt := hs.lt
  go_enter Try.func53, Try.ntmps53
  go_wp2_with fail
  generalize hW : w.alloc (.cells (Fv.cs fv0) 26) = W0
  have bR : FBx W0 w.heap.size fv0 := by rw [← hW]; exact Blk.new _ _ rfl
  have hb0 : Below w.heap.size w W0 := by rw [← hW]; exact below_alloc _ _
  have z0 : W0.heap.size = w.heap.size + 1 := by rw [← hW]; simp
  have hs0 := hs.below hb0 hlt
  have hc0 := hc.below hb0 (by omega)
  have hO0 : Only g (g + 1) w W0 := Only.of_below hb0 _ _
  clear hW hs hc
  refine (draw_any g N C B A l _ hs0 hc0 hl hB hN).mono ?_
  rintro e w1 ⟨a, b, t, rfl, a1, a2, b1, b2, ht, hs1, ho1⟩
  have z1 := ho1.size
  have hO1 := hO0.trans ho1
  have bR1 := bR.only ho1 (.inr (by omega))
  have hc1 := hc0.below (ho1.below (Nat.le_refl g) (by omega)) (by omega)
  have hlt1 := hs1.lt
  clear hs0 hc0 ho1 hO0 bR
  go_wp2_with fail
  obtain ⟨u0, u1, L1, L2, L3, D, hR⟩ : ∃ u0 u1 L1 L2 L3 D, Fm.ipR a b t.data.toList = (u0, u1, L1, L2, L3, D) := ⟨_, _, _, _, _, _, rfl⟩
  refine (specIp_any a b t u0 u1 D L1 L2 L3 hR (by omega) w1).mono ?_
  rintro e w2 ⟨f, ⟨fa, fb⟩, rfl, hsf, hle, hb2⟩
  have z2 := hb2.size
  obtain ⟨E, hE⟩ : ∃ E, Fo.code a b t.data.toList = E := ⟨_, rfl⟩
  have hs2 := (hs1.below hb2 hlt1)
  have hc2 := hc1.below hb2 (by omega)
  have hO2 := hO1.andNew (Only.of_below hb2 w.heap.size w.heap.size)
  have hlt2 := hs2.lt
  clear hs1 hO1
  have h012 : E = 0 ∨ E = 1 ∨ E = 2 := by
    rw [← hE]
    unfold Fo.code
    split
    · split
      · exact .inl rfl
      · exact .inr (.inr rfl)
    · exact .inr (.inl rfl)
  rcases h012 with h0 | h0 | h0
  rotate_left
  · subst h0
    obtain ⟨_, _, _, _, _, hD⟩ := Fm.ip_bad hR hE (by omega)
    subst hD
    have bf := FBx.new w2 f
    have bR2 := bR1.below hb2 (by omega)
    obtain ⟨f0, f1, A1, n1, c1, A2, n2, c2, A3, n3, c3⟩ := f
    clear hR hE hsf hle fa fb
    obtain ⟨W5, hW5⟩ : ∃ W5, (((w2.alloc (.cells (Fv.cs ⟨f0, f1, A1, n1, c1, A2, n2, c2, A3, n3, c3⟩) 26)).alloc (.cells #[I 1] 2)).alloc (.cells #[I 2] 2)).alloc (.cells #[I 0] 2) = W5 := ⟨_, rfl⟩
    have o1 : Own I W5 (w2.heap.size + 1) (w2.heap.size + 2) 2 (.slice (some ⟨w2.heap.size + 1, 0, none⟩) 1 1) [1] := by
      have := ((Own.lit1 (w2.alloc (.cells (Fv.cs ⟨f0, f1, A1, n1, c1, A2, n2, c2, A3, n3, c3⟩) 26)) 1).alloc (.cells #[I 2] 2)).alloc (.cells #[I 0] 2)
      rw [hW5] at this
      simpa using this
    have o2 : Own I W5 (w2.heap.size + 2) (w2.heap.size + 3) 2 (.slice (some ⟨w2.heap.size + 1 + 1, 0, none⟩) 1 1) [2] := by
      have := ((Own.lit1 ((w2.alloc (.cells (Fv.cs ⟨f0, f1, A1, n1, c1, A2, n2, c2, A3, n3, c3⟩) 26)).alloc (.cells #[I 1] 2)) 2).alloc (.cells #[I 0] 2))
      rw [hW5] at this
      simpa using this
    have o3 : Own I W5 (w2.heap.size + 3) (w2.heap.size + 4) 2 (.slice (some ⟨w2.heap.size + 1 + 1 + 1, 0, none⟩) 1 1) [0] := by
      have := (Own.lit1 (((w2.alloc (.cells (Fv.cs ⟨f0, f1, A1, n1, c1, A2, n2, c2, A3, n3, c3⟩) 26)).alloc (.cells #[I 1] 2)).alloc (.cells #[I 2] 2)) 0)
      rw [hW5] at this
      simpa using this
    have zW5 : W5.heap.size = w2.heap.size + 4 := by rw [← hW5]; simp
    have hbW5 : Below w2.heap.size w2 W5 := by rw [← hW5]; exact (((below_alloc _ _).alloc (by simp) _).alloc (by simp; omega) _).alloc (by simp; omega) _
    have HX := bf
    have HRs := bR2.below hbW5 (by omega)
    have hs5 := hs2.below hbW5 hlt2
    have hO5 := hO2.andNew (Only.of_below hbW5 w.heap.size w.heap.size)
    have nr : Fm.near [1] ∧ Fm.near [2] ∧ Fm.near [0] := by refine ⟨?_, ?_, ?_⟩ <;> (intro x hx; simp at hx; omega)
    clear hbW5 bf bR2
    obtain ⟨xx0, xx1, xx2, xx3, xx4⟩ := HRs.lcell
    simp only at xx0 xx1 xx2 xx3 xx4
    obtain ⟨yy0, yy1, yy2, yy3, yy4⟩ := HRs.freeF
    have hSF : SF W5 w1.heap.size W5.heap.size ⟨a, b, some ⟨w2.heap.size + 1, 0, none⟩, 1, 1, some ⟨w2.heap.size + 1 + 1, 0, none⟩, 1, 1, some ⟨w2.heap.size + 1 + 1 + 1, 0, none⟩, 1, 1⟩ [1] [2] [0] := ⟨o1.mono (by omega) (by omega), o2.mono (by omega) (by omega), o3.mono (by omega) (by omega)⟩
    have HS4 := Lib.hid (HRs.put5 ⟨a, b, some ⟨w2.heap.size + 1, 0, none⟩, 1, 1, some ⟨w2.heap.size + 1 + 1, 0, none⟩, 1, 1, some ⟨w2.heap.size + 1 + 1 + 1, 0, none⟩, 1, 1⟩)
    have HEND : Hid (Dr5 w g N C A (.returned (.tuple #[Fv.v ⟨a, b, some ⟨w2.heap.size + 1, 0, none⟩, 1, 1, some ⟨w2.heap.size + 1 + 1, 0, none⟩, 1, 1, some ⟨w2.heap.size + 1 + 1 + 1, 0, none⟩, 1, 1⟩, .string t])) (put5w W5 w.heap.size ⟨a, b, some ⟨w2.heap.size + 1, 0, none⟩, 1, 1, some ⟨w2.heap.size + 1 + 1, 0, none⟩, 1, 1, some ⟨w2.heap.size + 1 + 1 + 1, 0, none⟩, 1, 1⟩)) := Lib.hid ⟨⟨a, b, some ⟨w2.heap.size + 1, 0, none⟩, 1, 1, some ⟨w2.heap.size + 1 + 1, 0, none⟩, 1, 1, some ⟨w2.heap.size + 1 + 1 + 1, 0, none⟩, 1, 1⟩, [1], [2], [0], t, rfl, ⟨a1, a2, b1, b2⟩, ht, ⟨show 1 ≤ 1 by omega, show 1 ≤ 64 by omega, show 1 = 1 by rfl, show 1 ≤ 65 by omega⟩, nr, (hSF.put5 _ (.inl (by omega))).mono (by omega) (by simp), hs5.only (only_put5 W5 _) (.inl (by omega)), hO5.andNew (only_put5 W5 _)⟩
    clear hSF HRs o1 o2 o3 hs5 hO5 HX
    subst hW5
    go_wp2_with fail
    obtain ⟨ee0, ee1, ee2, ee3, ee4⟩ := HS4.out.lcell
    simp only at ee0 ee1 ee2 ee3 ee4
    exact bodyPost_ret (v := .tuple #[Fv.v ⟨a, b, some ⟨w2.heap.size + 1, 0, none⟩, 1, 1, some ⟨w2.heap.size + 1 + 1, 0, none⟩, 1, 1, some ⟨w2.heap.size + 1 + 1 + 1, 0, none⟩, 1, 1⟩, .string t]) (by simp [results, Try.results53, go_sem, ee0, ee1, ee2, ee3, ee4]) rfl HEND.out
  · subst h0
    obtain ⟨_, _, _, _, _, hD⟩ := Fm.ip_bad hR hE (by omega)
    subst hD
    have bf := FBx.new w2 f
    have bR2 := bR1.below hb2 (by omega)
    obtain ⟨f0, f1, A1, n1, c1, A2, n2, c2, A3, n3, c3⟩ := f
    clear hR hE hsf hle fa fb
    obtain ⟨W5, hW5⟩ : ∃ W5, (((w2.alloc (.cells (Fv.cs ⟨f0, f1, A1, n1, c1, A2, n2, c2, A3, n3, c3⟩) 26)).alloc (.cells #[I 1] 2)).alloc (.cells #[I 2] 2)).alloc (.cells #[I 0] 2) = W5 := ⟨_, rfl⟩
    have o1 : Own I W5 (w2.heap.size + 1) (w2.heap.size + 2) 2 (.slice (some ⟨w2.heap.size + 1, 0, none⟩) 1 1) [1] := by
      have := ((Own.lit1 (w2.alloc (.cells (Fv.cs ⟨f0, f1, A1, n1, c1, A2, n2, c2, A3, n3, c3⟩) 26)) 1).alloc (.cells #[I 2] 2)).alloc (.cells #[I 0] 2)
      rw [hW5] at this
      simpa using this
    have o2 : Own I W5 (w2.heap.size + 2) (w2.heap.size + 3) 2 (.slice (some ⟨w2.heap.size + 1 + 1, 0, none⟩) 1 1) [2] := by
      have := ((Own.lit1 ((w2.alloc (.cells (Fv.cs ⟨f0, f1, A1, n1, c1, A2, n2, c2, A3, n3, c3⟩) 26)).alloc (.cells #[I 1] 2)) 2).alloc (.cells #[I 0] 2))
      rw [hW5] at this
      simpa using this
    have o3 : Own I W5 (w2.heap.size + 3) (w2.heap.size + 4) 2 (.slice (some ⟨w2.heap.size + 1 + 1 + 1, 0, none⟩) 1 1) [0] := by
      have := (Own.lit1 (((w2.alloc (.cells (Fv.cs ⟨f0, f1, A1, n1, c1, A2, n2, c2, A3, n3, c3⟩) 26)).alloc (.cells #[I 1] 2)).alloc (.cells #[I 2] 2)) 0)
      rw [hW5] at this
      simpa using this
    have zW5 : W5.heap.size = w2.heap.size + 4 := by rw [← hW5]; simp
    have hbW5 : Below w2.heap.size w2 W5 := by rw [← hW5]; exact (((below_alloc _ _).alloc (by simp) _).alloc (by simp; omega) _).alloc (by simp; omega) _
    have HX := bf
    have HRs := bR2.below hbW5 (by omega)
    have hs5 := hs2.below hbW5 hlt2
    have hO5 := hO2.andNew (Only.of_below hbW5 w.heap.size w.heap.size)
    have nr : Fm.near [1] ∧ Fm.near [2] ∧ Fm.near [0] := by refine ⟨?_, ?_, ?_⟩ <;> (intro x hx; simp at hx; omega)
    clear hbW5 bf bR2
    obtain ⟨xx0, xx1, xx2, xx3, xx4⟩ := HRs.lcell
    simp only at xx0 xx1 xx2 xx3 xx4
    obtain ⟨yy0, yy1, yy2, yy3, yy4⟩ := HRs.freeF
    have hSF : SF W5 w1.heap.size W5.heap.size ⟨a, b, some ⟨w2.heap.size + 1, 0, none⟩, 1, 1, some ⟨w2.heap.size + 1 + 1, 0, none⟩, 1, 1, some ⟨w2.heap.size + 1 + 1 + 1, 0, none⟩, 1, 1⟩ [1] [2] [0] := ⟨o1.mono (by omega) (by omega), o2.mono (by omega) (by omega), o3.mono (by omega) (by omega)⟩
    have HS4 := Lib.hid (HRs.put5 ⟨a, b, some ⟨w2.heap.size + 1, 0, none⟩, 1, 1, some ⟨w2.heap.size + 1 + 1, 0, none⟩, 1, 1, some ⟨w2.heap.size + 1 + 1 + 1, 0, none⟩, 1, 1⟩)
    have HEND : Hid (Dr5 w g N C A (.returned (.tuple #[Fv.v ⟨a, b, some ⟨w2.heap.size + 1, 0, none⟩, 1, 1, some ⟨w2.heap.size + 1 + 1, 0, none⟩, 1, 1, some ⟨w2.heap.size + 1 + 1 + 1, 0, none⟩, 1, 1⟩, .string t])) (put5w W5 w.heap.size ⟨a, b, some ⟨w2.heap.size + 1, 0, none⟩, 1, 1, some ⟨w2.heap.size + 1 + 1, 0, none⟩, 1, 1, some ⟨w2.heap.size + 1 + 1 + 1, 0, none⟩, 1, 1⟩)) := Lib.hid ⟨⟨a, b, some ⟨w2.heap.size + 1, 0, none⟩, 1, 1, some ⟨w2.heap.size + 1 + 1, 0, none⟩, 1, 1, some ⟨w2.heap.size + 1 + 1 + 1, 0, none⟩, 1, 1⟩, [1], [2], [0], t, rfl, ⟨a1, a2, b1, b2⟩, ht, ⟨show 1 ≤ 1 by omega, show 1 ≤ 64 by omega, show 1 = 1 by rfl, show 1 ≤ 65 by omega⟩, nr, (hSF.put5 _ (.inl (by omega))).mono (by omega) (by simp), hs5.only (only_put5 W5 _) (.inl (by omega)), hO5.andNew (only_put5 W5 _)⟩
    clear hSF HRs o1 o2 o3 hs5 hO5 HX
    subst hW5
    go_wp2_with fail
    obtain ⟨ee0, ee1, ee2, ee3, ee4⟩ := HS4.out.lcell
    simp only at ee0 ee1 ee2 ee3 ee4
    exact bodyPost_ret (v := .tuple #[Fv.v ⟨a, b, some ⟨w2.heap.size + 1, 0, none⟩, 1, 1, some ⟨w2.heap.size + 1 + 1, 0, none⟩, 1, 1, some ⟨w2.heap.size + 1 + 1 + 1, 0, none⟩, 1, 1⟩, .string t]) (by simp [results, Try.results53, go_sem, ee0, ee1, ee2, ee3, ee4]) rfl HEND.out
  · subst h0
    obtain ⟨eu0, eu1, eL1, eL2, eL3, eD⟩ := Fm.ip_good hR hE
    have hsl := (Fo.scheme_len (Fo.code_zero hE)).1
    obtain ⟨M, hM⟩ : ∃ M, 2 ^ t.data.toList.length = M := ⟨_, rfl⟩
    have hM64 : M ≤ 64 := by rw [← hM]; exact pow_le6' hsl
    have hM1 : 1 ≤ M := by rw [← hM]; exact Nat.two_pow_pos _
    rw [hM] at eL1 eL2 eL3
    have hF1 : ∀ x ∈ L1, 0 ≤ x ∧ x ≤ 128 := fun x hx => by rw [eL1] at hx; have := Fm.imF_small _ _ _ _ x hx; omega
    have hF2 : ∀ x ∈ L2, 0 ≤ x ∧ x ≤ 128 := fun x hx => by rw [eL2] at hx; have := Fm.imB_small _ _ _ _ x hx; omega
    have hF3 : ∀ x ∈ L3, 0 ≤ x ∧ x ≤ 1 := fun x hx => by rw [eL3] at hx; exact Fm.imH_small _ _ _ _ x hx
    have hl1 : L1.length = M := by rw [eL1]; exact Fm.imF_len _ _ _ _
    have hl2 : L2.length = M := by rw [eL2]; exact Fm.imB_len _ _ _ _
    have hl3 : L3.length = M := by rw [eL3]; exact Fm.imH_len _ _ _ _
    subst eD
    obtain ⟨f0, f1, A1, n1, c1, A2, n2, c2, A3, n3, c3⟩ := f
    simp only at fa fb
    obtain rfl : f0 = a := fa.trans eu0
    obtain rfl : f1 = b := fb.trans eu1
    clear hR hE eL1 eL2 eL3 eu0 eu1 fa fb hM hle
    obtain ⟨o1, o2, o3⟩ := hsf
    simp only at o1 o2 o3
    obtain rfl : n1 = M := by have := o1.rd.1; omega
    obtain rfl : n2 = n1 := by have := o2.rd.1; omega
    obtain rfl : n3 = n2 := by have := o3.rd.1; omega
    obtain ⟨FF, hFF⟩ : ∃ FF, (⟨f0, f1, A1, n3, c1, A2, n3, c2, A3, n3, c3⟩ : Fv) = FF := ⟨_, rfl⟩
    have bE := FBx.new w2 ⟨f0, f1, A1, n3, c1, A2, n3, c2, A3, n3, c3⟩
    have bR2 := (bR1.below hb2 (by omega)).alloc (.cells (Fv.cs ⟨f0, f1, A1, n3, c1, A2, n3, c2, A3, n3, c3⟩) 26)
    have hbv := below_alloc w2 (.cells (Fv.cs ⟨f0, f1, A1, n3, c1, A2, n3, c2, A3, n3, c3⟩) 26)
    have o1a := o1.alloc (.cells (Fv.cs ⟨f0, f1, A1, n3, c1, A2, n3, c2, A3, n3, c3⟩) 26)
    have o2a := o2.alloc (.cells (Fv.cs ⟨f0, f1, A1, n3, c1, A2, n3, c2, A3, n3, c3⟩) 26)
    have o3a := o3.alloc (.cells (Fv.cs ⟨f0, f1, A1, n3, c1, A2, n3, c2, A3, n3, c3⟩) 26)
    have hsv := hs2.below hbv hlt2
    have hcv := hc2.below hbv (by omega)
    have hOv := hO2.andNew (Only.of_below hbv w.heap.size w.heap.size)
    clear hFF o1 o2 o3 hs2 hc2 hO2 hb2 bR1 hc1
    go_wp2_with fail
    generalize hV : w2.alloc (.cells (Fv.cs ⟨f0, f1, A1, n3, c1, A2, n3, c2, A3, n3, c3⟩) 26) = v2 at bE bR2 hbv o1a o2a o3a hsv hcv hOv ⊢
    have zv2 : v2.heap.size = w2.heap.size + 1 := by rw [← hV]; simp
    clear hV hbv
    refine (l01Next_any g N C B A l _ _ hsv hcv hl hB hN (by omega)).mono ?_
    rintro e w3 ⟨v, rfl, v0, v1, _, hs3, ho3⟩
    have hv200 : v < 200 := v1 (by omega)
    have z3 := ho3.size
    have hc3 := hcv.below (ho3.below (Nat.le_refl g) (by omega)) (by omega)
    have hO3 := hOv.trans ho3
    have bE3 := bE.only ho3 (.inr (by omega))
    have bR3 := bR2.only ho3 (.inr (by omega))
    have o1b := o1a.only ho3 (.inr (by omega))
    have o2b := o2a.only ho3 (.inr (by omega))
    have o3b := o3a.only ho3 (.inr (by omega))
    clear v1 hsv hcv hOv bE bR2 o1a o2a o3a ho3
    go_wp2_with fail
    refine (pick_lit g N C B A l [0, 0, 16, v] _ _ w3 rfl rfl hs3 hc3 hl hB hN (by simp) (by simp)).mono ?_
    rintro e w4 ⟨y, rfl, hy, hs4, ho4⟩
    have hy2 : 0 ≤ y ∧ y ≤ 200 := by simp at hy; omega
    have z4 := ho4.size
    have hc4 := hc3.below (ho4.below (Nat.le_refl g) (by have := hs3.lt; omega)) (by omega)
    have hO4 := hO3.trans ho4
    have bE4 := bE3.only ho4 (.inr (by omega))
    have bR4 := bR3.only ho4 (.inr (by omega))
    have o1c := o1b.only ho4 (.inr (by omega))
    have o2c := o2b.only ho4 (.inr (by omega))
    have o3c := o3b.only ho4 (.inr (by omega))
    clear hy hs3 hc3 hO3 bE3 bR3 o1b o2b o3b ho4
    obtain ⟨j0, j1, j2, j3, j4⟩ := bE4.lcell
    simp only at j0 j1 j2 j3 j4
    obtain ⟨F', hF'⟩ : ∃ F', L1.map (· + y) = F' := ⟨_, rfl⟩
    obtain ⟨G', hG'⟩ : ∃ G', L2.map (· + y) = G' := ⟨_, rfl⟩
    have nF : Fm.near F' := by rw [← hF']; exact Fm.near_map hF1 hy2
    have nG : Fm.near G' := by rw [← hG']; exact Fm.near_map hF2 hy2
    have nH : Fm.near L3 := fun x hx => by have := hF3 x hx; omega
    have hsm1 : smallL L1 := fun x hx => by have := hF1 x hx; omega
    have hsm2 : smallL L2 := fun x hx => by have := hF2 x hx; omega
    clear hF1 hF2
    go_wp2_with fail
    refine (shift_any A1 n3 c1 w2.heap.size y L1 w4 o1c.rd (by omega) (by omega) hsm1 (by omega) F' hF').mono ?_
    rintro e w5 ⟨A5, c5, rfl, o5, hb5⟩
    have z5 := hb5.size
    have bE5 := (bE4.below hb5 (by omega)).set 2 (.slice A5 n3 c5)
    have hO5s : Only w2.heap.size (w2.heap.size + 1) w5 (w5.setCell ⟨w2.heap.size, 2, none⟩ (.slice A5 n3 c5)) := only_set (Only.refl _ _ _) _ (Nat.le_refl _) (Nat.lt_succ_self _)
    have hk5 := (bE4.below hb5 (by omega))
    obtain ⟨k0, k1, k2, k3, k4⟩ := hk5.lcell
    obtain ⟨_, _, ff2, _, _⟩ := hk5.freeF
    simp only at k0 k1 k2 k3 k4
    have bR5 := (bR4.below hb5 (by omega)).only hO5s (.inl (by omega))
    have o5a := o5.only hO5s (.inr (by omega))
    have o2d := (o2c.below hb5 (by omega)).only hO5s (.inl (by omega))
    have o3d := (o3c.below hb5 (by omega)).only hO5s (.inl (by omega))
    have hs5 := (hs4.below hb5 (by have := hs4.lt; omega)).only hO5s (.inl (by omega))
    have hc5 := (hc4.below hb5 (by omega)).below (hO5s.below (B := B) (by omega) (by omega)) (Nat.le_refl _)
    have hO5 := (hO4.andNew (Only.of_below hb5 w.heap.size (w2.heap.size + 1))).andNew (hi' := w2.heap.size + 1) (only_wide hO5s (by omega) (Nat.le_refl _))
    have zz5 : (w5.setCell ⟨w2.heap.size, 2, none⟩ (.slice A5 n3 c5)).heap.size = w5.heap.size := by simp
    clear hb5 hk5 bE4 bR4 hs4 hc4 hO4 o1c o2c o3c hO5s o5 j0 j1 j2 j3 j4
    obtain ⟨j0, j1, j2, j3, j4⟩ := (show FBx _ w2.heap.size ⟨f0, f1, A5, n3, c5, A2, n3, c2, A3, n3, c3⟩ from bE5).lcell
    simp only at j0 j1 j2 j3 j4
    go_wp2_with fail
    generalize hV : w5.setCell ⟨w2.heap.size, 2, none⟩ (.slice A5 n3 c5) = v5 at bE5 bR5 o5a o2d o3d hs5 hc5 hO5 zz5 j0 j1 j2 j3 j4 ⊢
    clear hV k0 k1 k2 k3 k4 ff2
    refine (shift_any A2 n3 c2 w2.heap.size y L2 v5 o2d.rd (by omega) (by omega) hsm2 (by omega) G' hG').mono ?_
    rintro e w6 ⟨A6, c6, rfl, o6, hb6⟩
    have z6 := hb6.size
    have bE5' : FBx v5 w2.heap.size ⟨f0, f1, A5, n3, c5, A2, n3, c2, A3, n3, c3⟩ := bE5
    have bE6 := (bE5'.below hb6 (by omega)).set 3 (.slice A6 n3 c6)
    have hO6s : Only w2.heap.size (w2.heap.size + 1) w6 (w6.setCell ⟨w2.heap.size, 3, none⟩ (.slice A6 n3 c6)) := only_set (Only.refl _ _ _) _ (Nat.le_refl _) (Nat.lt_succ_self _)
    have hk6 := (bE5'.below hb6 (by omega))
    obtain ⟨k0, k1, k2, k3, k4⟩ := hk6.lcell
    obtain ⟨_, _, _, ff3, _⟩ := hk6.freeF
    simp only at k0 k1 k2 k3 k4
    have bR6 := (bR5.below hb6 (by omega)).only hO6s (.inl (by omega))
    have o5b := (o5a.below hb6 (by omega)).only hO6s (.inr (by omega))
    have o6a := o6.only hO6s (.inr (by omega))
    have o3e := (o3d.below hb6 (by omega)).only hO6s (.inl (by omega))
    have hs6 := (hs5.below hb6 (by have := hs5.lt; omega)).only hO6s (.inl (by omega))
    have hc6 := (hc5.below hb6 (by omega)).below (hO6s.below (B := B) (by omega) (by omega)) (Nat.le_refl _)
    have hO6 := (hO5.andNew (Only.of_below hb6 w.heap.size (w2.heap.size + 1))).andNew (hi' := w2.heap.size + 1) (only_wide hO6s (by omega) (Nat.le_refl _))
    have zz6 : (w6.setCell ⟨w2.heap.size, 3, none⟩ (.slice A6 n3 c6)).heap.size = w6.heap.size := by simp
    clear hb6 hk6 bE5 bE5' bR5 hs5 hc5 hO5 o5a o2d o3d hO6s o6 j0 j1 j2 j3 j4
    have bE6' : FBx (w6.setCell ⟨w2.heap.size, 3, none⟩ (.slice A6 n3 c6)) w2.heap.size ⟨f0, f1, A5, n3, c5, A6, n3, c6, A3, n3, c3⟩ := bE6
    clear bE6
    obtain ⟨j0, j1, j2, j3, j4⟩ := bE6'.lcell
    simp only at j0 j1 j2 j3 j4
    go_wp2_with fail
    generalize hV : w6.setCell ⟨w2.heap.size, 3, none⟩ (.slice A6 n3 c6) = v6 at bE6' bR6 o5b o6a o3e hs6 hc6 hO6 zz6 j0 j1 j2 j3 j4 ⊢
    clear hV k0 k1 k2 k3 k4 ff3
    refine (l01Next_any g N C B A l _ _ hs6 hc6 hl hB hN (by omega)).mono ?_
    rintro e w7 ⟨kk, rfl, kk0, kk1, _, hs7, ho7⟩
    have kk2 : kk < (n3 : Int) := kk1 (by omega)
    obtain ⟨k, rfl⟩ := Int.eq_ofNat_of_zero_le kk0
    have hk : k < n3 := by omega
    have z7 := ho7.size
    have hc7 := hc6.below (ho7.below (Nat.le_refl g) (by omega)) (by omega)
    have hlt7 := hs7.lt
    go_wp2_with fail
    refine (l01Next_any g N C B A l _ _ hs7 hc7 hl hB hN (by omega)).mono ?_
    rintro e w8 ⟨z, rfl, hz0', hz16, _, hs8, ho8⟩
    have z8 := ho8.size
    have ho78 := ho7.trans ho8
    have hc8 := hc7.below (ho8.below (Nat.le_refl g) (by omega)) (by omega)
    have hO8 := hO6.trans ho78
    have HX := bE6'.only ho78 (.inr (by omega))
    have HRs := bR6.only ho78 (.inr (by omega))
    have o1 := o5b.only ho78 (.inr (by omega))
    have o2 := o6a.only ho78 (.inr (by omega))
    have o3 := o3e.only ho78 (.inr (by omega))
    have hlt8 := hs8.lt
    clear kk1 kk0 kk2 hz16 hs6 hc6 hO6 ho7 hs7 hc7 ho8 ho78 bE6' bR6 o5b o6a o3e j0 j1 j2 j3 j4
    by_cases hA0 : z = 0
    · subst hA0
      obtain ⟨gH, x, hgH, _, _, _, hx, cx, fx⟩ := o3.at_ hk
      subst hgH
      have bx := hF3 x (List.mem_of_getElem? hx)
      have wx : IntKind.i64.wrap (1 - x) = 1 - x := IntWalk.i64_in _ (by omega)
      have nH2 : Fm.near (L3.set k (1 - x)) := nH.set k (by omega)
      have S := o3.set_ (k := k) (1 - x)
      obtain ⟨S1, S2⟩ := S
      obtain ⟨j0, j1, j2, j3, j4⟩ := HX.lcell
      simp only at j0 j1 j2 j3 j4
      clear hF' hG' hF3 hl1 hl2 hl3 hsm1 hsm2 hx hc8
      go_wp2_with fail
      go_region
      generalize hV : w8.setCell ⟨gH, k, none⟩ (I (1 - x)) = v9 at S1 S2 ⊢
      have z9 := S2.size
      have HX9 := HX.only S2 (.inr (by omega))
      have HR9 := HRs.only S2 (.inl (by omega))
      have o19 := o1.only S2 (.inr (by omega))
      have o29 := o2.only S2 (.inr (by omega))
      have hs9 := hs8.only S2 (.inl (by omega))
      have hO9 := hO8.andNew (only_wide S2 (by omega) (Nat.le_refl _))
      clear hV j0 j1 j2 j3 j4 cx fx HX HRs o1 o2 o3 hs8 hO8
      have eX := HX9.lcell
      obtain ⟨jj0, jj1, jj2, jj3, jj4⟩ := eX
      obtain ⟨xx0, xx1, xx2, xx3, xx4⟩ := HR9.lcell
      simp only at jj0 jj1 jj2 jj3 jj4 xx0 xx1 xx2 xx3 xx4
      obtain ⟨yy0, yy1, yy2, yy3, yy4⟩ := HR9.freeF
      have HS4 := Lib.hid (HR9.put5 ⟨f0, f1, A5, n3, c5, A6, n3, c6, some ⟨gH, 0, none⟩, n3, c3⟩)
      have hSF : SF v9 w1.heap.size (v9).heap.size ⟨f0, f1, A5, n3, c5, A6, n3, c6, some ⟨gH, 0, none⟩, n3, c3⟩ F' G' (L3.set k (1 - x)) := ⟨o19.mono (by omega) (by omega), o29.mono (by omega) (by omega), S1.mono (by omega) (by omega)⟩
      have HEND : Hid (Dr5 w g N C A (.returned (.tuple #[Fv.v ⟨f0, f1, A5, n3, c5, A6, n3, c6, some ⟨gH, 0, none⟩, n3, c3⟩, .string t])) (put5w v9 w.heap.size ⟨f0, f1, A5, n3, c5, A6, n3, c6, some ⟨gH, 0, none⟩, n3, c3⟩)) := Lib.hid ⟨⟨f0, f1, A5, n3, c5, A6, n3, c6, some ⟨gH, 0, none⟩, n3, c3⟩, F', G', (L3.set k (1 - x)), t, rfl, ⟨a1, a2, b1, b2⟩, ht, ⟨show 1 ≤ n3 by omega, show n3 ≤ 64 by omega, show n3 = n3 by omega, show n3 ≤ 65 by omega⟩, ⟨nF, nG, nH2⟩, (hSF.put5 ⟨f0, f1, A5, n3, c5, A6, n3, c6, some ⟨gH, 0, none⟩, n3, c3⟩ (.inl (by omega))).mono (by omega) (by simp), hs9.only (only_put5 v9 ⟨f0, f1, A5, n3, c5, A6, n3, c6, some ⟨gH, 0, none⟩, n3, c3⟩) (.inl (by omega)), hO9.andNew (only_put5 v9 ⟨f0, f1, A5, n3, c5, A6, n3, c6, some ⟨gH, 0, none⟩, n3, c3⟩)⟩
      clear nF nG nH nH2
      clear hSF HX9 HR9 o19 o29 S1 hs9 hO9
      go_wp2_with fail
      obtain ⟨ee0, ee1, ee2, ee3, ee4⟩ := HS4.out.lcell
      simp only at ee0 ee1 ee2 ee3 ee4
      exact bodyPost_ret (v := .tuple #[Fv.v ⟨f0, f1, A5, n3, c5, A6, n3, c6, some ⟨gH, 0, none⟩, n3, c3⟩, .string t]) (by simp [results, Try.results53, go_sem, ee0, ee1, ee2, ee3, ee4]) rfl HEND.out.drew
    by_cases hA1 : z = 1
    · subst hA1
      obtain ⟨gF, x, hgF, _, _, _, hx, cx, fx⟩ := o1.at_ hk
      subst hgF
      obtain ⟨gG, y', hgG, _, _, _, hy', cy, fy⟩ := o2.at_ hk
      subst hgG
      have bx := nF.at_ hx
      have by' := nG.at_ hy'
      have nF2 : Fm.near (F'.set k y') := nF.set k (by omega)
      have nG2 : Fm.near (G'.set k x) := nG.set k (by omega)
      have S := o1.set_ (k := k) y'
      obtain ⟨S1, S2⟩ := S
      obtain ⟨j0, j1, j2, j3, j4⟩ := HX.lcell
      simp only at j0 j1 j2 j3 j4
      clear hF' hG' hF3 hl1 hl2 hl3 hsm1 hsm2 hx hy' hc8
      go_wp2_with fail
      go_region
      generalize hV : w8.setCell ⟨gF, k, none⟩ (I y') = v9 at S1 S2 ⊢
      have z9 := S2.size
      have HX9 := HX.only S2 (.inl (by omega))
      have HR9 := HRs.only S2 (.inl (by omega))
      have o29 := o2.only S2 (.inr (by omega))
      have o39 := o3.only S2 (.inl (by omega))
      have hs9 := hs8.only S2 (.inl (by omega))
      have hO9 := hO8.andNew (only_wide S2 (by omega) (Nat.le_refl _))
      clear hV j0 j1 j2 j3 j4 cx fx cy fy HX HRs o1 o2 o3 hs8 hO8
      obtain ⟨y2, cy, fy, _, _⟩ := o29.cellAt hk
      obtain ⟨j0, j1, j2, j3, j4⟩ := HX9.lcell
      simp only at j0 j1 j2 j3 j4
      have T := o29.set_ (k := k) x
      obtain ⟨T1, T2⟩ := T
      have z10 : (v9.setCell ⟨gG, k, none⟩ (I x)).heap.size = v9.heap.size := by simp
      have HXa := HX9.only T2 (.inl (by omega))
      have HRa := HR9.only T2 (.inl (by omega))
      have o1a := S1.only T2 (.inl (by omega))
      have o3a := o39.only T2 (.inl (by omega))
      have hsa := hs9.only T2 (.inl (by omega))
      have hOa := hO9.andNew (only_wide T2 (by omega) (Nat.le_refl _))
      clear HX9 HR9 S1 S2 o29 o39 hs9 hO9 T2
      have eX := HXa.lcell
      obtain ⟨jj0, jj1, jj2, jj3, jj4⟩ := eX
      obtain ⟨xx0, xx1, xx2, xx3, xx4⟩ := HRa.lcell
      simp only at jj0 jj1 jj2 jj3 jj4 xx0 xx1 xx2 xx3 xx4
      obtain ⟨yy0, yy1, yy2, yy3, yy4⟩ := HRa.freeF
      have HS4 := Lib.hid (HRa.put5 ⟨f0, f1, some ⟨gF, 0, none⟩, n3, c5, some ⟨gG, 0, none⟩, n3, c6, A3, n3, c3⟩)
      have hSF : SF (v9.setCell ⟨gG, k, none⟩ (I x)) w1.heap.size ((v9.setCell ⟨gG, k, none⟩ (I x))).heap.size ⟨f0, f1, some ⟨gF, 0, none⟩, n3, c5, some ⟨gG, 0, none⟩, n3, c6, A3, n3, c3⟩ (F'.set k y') (G'.set k x) L3 := ⟨o1a.mono (by omega) (by omega), T1.mono (by omega) (by omega), o3a.mono (by omega) (by omega)⟩
      have HEND : Hid (Dr5 w g N C A (.returned (.tuple #[Fv.v ⟨f0, f1, some ⟨gF, 0, none⟩, n3, c5, some ⟨gG, 0, none⟩, n3, c6, A3, n3, c3⟩, .string t])) (put5w (v9.setCell ⟨gG, k, none⟩ (I x)) w.heap.size ⟨f0, f1, some ⟨gF, 0, none⟩, n3, c5, some ⟨gG, 0, none⟩, n3, c6, A3, n3, c3⟩)) := Lib.hid ⟨⟨f0, f1, some ⟨gF, 0, none⟩, n3, c5, some ⟨gG, 0, none⟩, n3, c6, A3, n3, c3⟩, (F'.set k y'), (G'.set k x), L3, t, rfl, ⟨a1, a2, b1, b2⟩, ht, ⟨show 1 ≤ n3 by omega, show n3 ≤ 64 by omega, show n3 = n3 by omega, show n3 ≤ 65 by omega⟩, ⟨nF2, nG2, nH⟩, (hSF.put5 ⟨f0, f1, some ⟨gF, 0, none⟩, n3, c5, some ⟨gG, 0, none⟩, n3, c6, A3, n3, c3⟩ (.inl (by omega))).mono (by omega) (by simp), hsa.only (only_put5 (v9.setCell ⟨gG, k, none⟩ (I x)) ⟨f0, f1, some ⟨gF, 0, none⟩, n3, c5, some ⟨gG, 0, none⟩, n3, c6, A3, n3, c3⟩) (.inl (by omega)), hOa.andNew (only_put5 (v9.setCell ⟨gG, k, none⟩ (I x)) ⟨f0, f1, some ⟨gF, 0, none⟩, n3, c5, some ⟨gG, 0, none⟩, n3, c6, A3, n3, c3⟩)⟩
      clear nF nG nH nF2 nG2
      clear hSF HXa HRa o1a T1 o3a hsa hOa
      go_wp2_with fail
      obtain ⟨ee0, ee1, ee2, ee3, ee4⟩ := HS4.out.lcell
      simp only at ee0 ee1 ee2 ee3 ee4
      exact bodyPost_ret (v := .tuple #[Fv.v ⟨f0, f1, some ⟨gF, 0, none⟩, n3, c5, some ⟨gG, 0, none⟩, n3, c6, A3, n3, c3⟩, .string t]) (by simp [results, Try.results53, go_sem, ee0, ee1, ee2, ee3, ee4]) rfl HEND.out.drew
    by_cases hA2 : z = 2
    · subst hA2
      obtain ⟨gF, x, hgF, lo1, _, _, hx, cx, fx⟩ := o1.at_ hk
      subst hgF
      have hne7 : w2.heap.size ≠ gF := by omega
      obtain ⟨x0, c0, f0', _, _⟩ := o1.cellAt (k := 0) (by omega)
      have hx0 : F'[0]? = some x0 := by
        obtain ⟨g'', x'', hg'', _, _, _, hx'', cx'', _⟩ := o1.at_ (k := 0) (by omega)
        injection hg'' with hg''
        injection hg'' with hg'' _ _
        subst hg''
        rw [cx''] at c0
        injection c0 with c0
        injection c0 with _ c0
        rw [hx'', c0]
      have bx0 := nF.at_ hx0
      obtain ⟨j0, j1, j2, j3, j4⟩ := HX.lcell
      simp only at j0 j1 j2 j3 j4
      have hn0 : (0 : Int) < (n3 : Int) := by omega
      have hn0' : 0 < n3 := by omega
      have ja2 : (w8.alloc (.cells #[.int .i64 0, .int .i64 1, I x0, .int .i64 1000000000] 2)).drew.cell? ⟨w2.heap.size, 2, none⟩ = some (.slice (some ⟨gF, 0, none⟩) n3 c5) := (HX.alloc _).lcell.k2
      have c0d : w8.drew.cell? ⟨gF, 0, none⟩ = some (I x0) := c0
      have hpk : Calls Try.prog 72 #[.pointer (some ⟨g, 0, none⟩), .slice (some ⟨w8.heap.size, 0, none⟩) 4 4] (w8.alloc (.cells #[.int .i64 0, .int .i64 1, .int .i64 x0, .int .i64 1000000000] 2)).drew fun e w' => ∃ r, e = .returned (.int .i64 r) ∧ r ∈ [0, 1, x0, 1000000000] ∧ Src w' g A N C ∧ Only g (g + 1) w8 w' :=
        (pick_lit g N C B A l [0, 1, x0, 1000000000] 4 _ w8.drew rfl rfl (hs8.q (Q.drewN w8 1)) (hc8.drewN 1) hl hB hN (by omega) (by omega)).mono fun e w' ⟨r, h1, h2, h3, h4⟩ => ⟨r, h1, h2, h3, only_undrew h4⟩
      clear hF' hG' hF3 hl1 hl2 hl3 hsm1 hsm2 hx hx0 hc8
      go_wp2_with fail
      go_region_law (first
          | (go_simp; go_at_call 72; with_reducible refine hpk.mono ?_; rintro e w9 ⟨r, rfl, hr, hs9, ho9⟩; have HX9 := HX.only ho9 (.inr (by omega)); have q2 := HX9.lcell.k2; have o19 := o1.only ho9 (.inr (by omega)); obtain ⟨xk, ck, fk, _, _⟩ := o19.cellAt hk))
      all_goals
        have br : -1000 ≤ r ∧ r ≤ 1000000300 := by simp at hr; omega
        have nF2 : Fm.near (F'.set k r) := nF.set k br
        have z9 := ho9.size
        have HR9 := HRs.only ho9 (.inr (by omega))
        have o29 := o2.only ho9 (.inr (by omega))
        have o39 := o3.only ho9 (.inr (by omega))
        have hO9 := hO8.trans ho9
        have S := o19.set_ (k := k) r
        obtain ⟨S1, S2⟩ := S
        generalize hV : w9.setCell ⟨gF, k, none⟩ (I r) = v9 at S1 S2 ⊢
        have za := S2.size
        have HXa := HX9.only S2 (.inl (by omega))
        have HRa := HR9.only S2 (.inl (by omega))
        have o2a := o29.only S2 (.inr (by omega))
        have o3a := o39.only S2 (.inl (by omega))
        have hsa := hs9.only S2 (.inl (by omega))
        have hOa := hO9.andNew (only_wide S2 (by omega) (Nat.le_refl _))
        clear hV j0 j1 j2 j3 j4 cx fx c0 f0' c0d ck fk hr HX HRs o1 o2 o3 hs8 hO8 HX9 HR9 o19 o29 o39 hs9 hO9 hpk q2 S2
        have eX := HXa.lcell
        obtain ⟨jj0, jj1, jj2, jj3, jj4⟩ := eX
        obtain ⟨xx0, xx1, xx2, xx3, xx4⟩ := HRa.lcell
        simp only at jj0 jj1 jj2 jj3 jj4 xx0 xx1 xx2 xx3 xx4
        obtain ⟨yy0, yy1, yy2, yy3, yy4⟩ := HRa.freeF
        have HS4 := Lib.hid (HRa.put5 ⟨f0, f1, some ⟨gF, 0, none⟩, n3, c5, A6, n3, c6, A3, n3, c3⟩)
        have hSF : SF v9 w1.heap.size (v9).heap.size ⟨f0, f1, some ⟨gF, 0, none⟩, n3, c5, A6, n3, c6, A3, n3, c3⟩ (F'.set k r) G' L3 := ⟨S1.mono (by omega) (by omega), o2a.mono (by omega) (by omega), o3a.mono (by omega) (by omega)⟩
        have HEND : Hid (Dr5 w g N C A (.returned (.tuple #[Fv.v ⟨f0, f1, some ⟨gF, 0, none⟩, n3, c5, A6, n3, c6, A3, n3, c3⟩, .string t])) (put5w v9 w.heap.size ⟨f0, f1, some ⟨gF, 0, none⟩, n3, c5, A6, n3, c6, A3, n3, c3⟩)) := Lib.hid ⟨⟨f0, f1, some ⟨gF, 0, none⟩, n3, c5, A6, n3, c6, A3, n3, c3⟩, (F'.set k r), G', L3, t, rfl, ⟨a1, a2, b1, b2⟩, ht, ⟨show 1 ≤ n3 by omega, show n3 ≤ 64 by omega, show n3 = n3 by omega, show n3 ≤ 65 by omega⟩, ⟨nF2, nG, nH⟩, (hSF.put5 ⟨f0, f1, some ⟨gF, 0, none⟩, n3, c5, A6, n3, c6, A3, n3, c3⟩ (.inl (by omega))).mono (by omega) (by simp), hsa.only (only_put5 v9 ⟨f0, f1, some ⟨gF, 0, none⟩, n3, c5, A6, n3, c6, A3, n3, c3⟩) (.inl (by omega)), hOa.andNew (only_put5 v9 ⟨f0, f1, some ⟨gF, 0, none⟩, n3, c5, A6, n3, c6, A3, n3, c3⟩)⟩
        clear nF nG nH nF2
        clear hSF HXa HRa S1 o2a o3a hsa hOa
        go_wp2_with fail
        obtain ⟨ee0, ee1, ee2, ee3, ee4⟩ := HS4.out.lcell
        simp only at ee0 ee1 ee2 ee3 ee4
        exact bodyPost_ret (v := .tuple #[Fv.v ⟨f0, f1, some ⟨gF, 0, none⟩, n3, c5, A6, n3, c6, A3, n3, c3⟩, .string t]) (by simp [results, Try.results53, go_sem, ee0, ee1, ee2, ee3, ee4]) rfl HEND.out
    by_cases hA3 : z = 3
    · subst hA3
      clear hF' hG' hF3 hl1 hl2 hl3 hsm1 hsm2
      go_wp2_with fail
      refine (l01Next_any g N C B A l _ _ hs8 hc8 hl hB hN (by omega)).mono ?_
      rintro e w9 ⟨r, rfl, _, _, _, hs9, ho9⟩
      have z9 := ho9.size
      have hO9 := hO8.trans ho9
      have HX9 := HX.only ho9 (.inr (by omega))
      have HR9 := HRs.only ho9 (.inr (by omega))
      have o19 := o1.only ho9 (.inr (by omega))
      have o29 := o2.only ho9 (.inr (by omega))
      have o39 := o3.only ho9 (.inr (by omega))
      clear HX HRs o1 o2 o3 hs8 hO8 ho9 hc8
      by_cases hr : r = 0
      · subst hr
        have nH2 : Fm.near (L3 ++ [0]) := by
          intro x hx
          rcases List.mem_append.1 hx with hx | hx
          · exact nH x hx
          · simp at hx; omega
        obtain ⟨j0, j1, j2, j3, j4⟩ := HX9.lcell
        simp only at j0 j1 j2 j3 j4
        go_wp2_with (at_builtin; refine wp_push (enc := I) _ rfl _ _ 24 rfl 2 i0 _ 8 Try.underlying24 hi0 hz0 hz1 hz2 rfl A3 n3 c3 _ _ _ rfl o39 0 rfl rfl (by omega) (by omega) (by omega) ?_; intro A7 c7 wa oa hma; have za := hma.size; have HXb := HX9.only hma (.inr (by omega)); have hT : Only w2.heap.size (w2.heap.size + 1) wa (wa.setCell ⟨w2.heap.size, 4, none⟩ (.slice A7 (n3 + 1) c7)) := only_set (Only.refl _ _ _) _ (Nat.le_refl _) (Nat.lt_succ_self _); have HXc : FBx (wa.setCell ⟨w2.heap.size, 4, none⟩ (.slice A7 (n3 + 1) c7)) w2.heap.size ⟨f0, f1, A5, n3, c5, A6, n3, c6, A7, n3 + 1, c7⟩ := HXb.set 4 _; obtain ⟨kk0, kk1, kk2, kk3, kk4⟩ := HXb.lcell; obtain ⟨_, _, _, _, ff4⟩ := HXb.freeF; simp only at kk0 kk1 kk2 kk3 kk4; have HRc := (HR9.only hma (.inl (by omega))).only hT (.inl (by omega)); have o1c := (o19.only hma (.inr (by omega))).only hT (.inr (by omega)); have o2c := (o29.only hma (.inr (by omega))).only hT (.inr (by omega)); have o3c := own_box oa HXb 4 (.slice A7 (n3 + 1) c7); have hsc := (hs9.only hma (.inl (by omega))).only hT (.inl (by omega)); have hOc := (hO9.andNew (only_wide hma (by omega) (Nat.le_refl _))).andNew (hi' := w2.heap.size + 1) (only_wide hT (by omega) (Nat.le_refl _)); have zc : (wa.setCell ⟨w2.heap.size, 4, none⟩ (.slice A7 (n3 + 1) c7)).heap.size = wa.heap.size := (by simp); have eX := HXc.lcell; obtain ⟨jj0, jj1, jj2, jj3, jj4⟩ := eX; obtain ⟨xx0, xx1, xx2, xx3, xx4⟩ := HRc.lcell; simp only at jj0 jj1 jj2 jj3 jj4 xx0 xx1 xx2 xx3 xx4; obtain ⟨yy0, yy1, yy2, yy3, yy4⟩ := HRc.freeF; have HS4 := Lib.hid (HRc.put5 ⟨f0, f1, A5, n3, c5, A6, n3, c6, A7, n3 + 1, c7⟩); have hSF : SF (wa.setCell ⟨w2.heap.size, 4, none⟩ (.slice A7 (n3 + 1) c7)) w1.heap.size ((wa.setCell ⟨w2.heap.size, 4, none⟩ (.slice A7 (n3 + 1) c7))).heap.size ⟨f0, f1, A5, n3, c5, A6, n3, c6, A7, n3 + 1, c7⟩ F' G' (L3 ++ [0]) := ⟨o1c.mono (by omega) (by omega), o2c.mono (by omega) (by omega), o3c.mono (by omega) (by omega)⟩; have HEND : Hid (Dr5 w g N C A (.returned (.tuple #[Fv.v ⟨f0, f1, A5, n3, c5, A6, n3, c6, A7, n3 + 1, c7⟩, .string t])) (put5w (wa.setCell ⟨w2.heap.size, 4, none⟩ (.slice A7 (n3 + 1) c7)) w.heap.size ⟨f0, f1, A5, n3, c5, A6, n3, c6, A7, n3 + 1, c7⟩)) := Lib.hid ⟨⟨f0, f1, A5, n3, c5, A6, n3, c6, A7, n3 + 1, c7⟩, F', G', (L3 ++ [0]), t, rfl, ⟨a1, a2, b1, b2⟩, ht, ⟨show 1 ≤ n3 by omega, show n3 ≤ 64 by omega, show n3 = n3 by omega, show n3 + 1 ≤ 65 by omega⟩, ⟨nF, nG, nH2⟩, (hSF.put5 ⟨f0, f1, A5, n3, c5, A6, n3, c6, A7, n3 + 1, c7⟩ (.inl (by omega))).mono (by omega) (by simp), hsc.only (only_put5 (wa.setCell ⟨w2.heap.size, 4, none⟩ (.slice A7 (n3 + 1) c7)) ⟨f0, f1, A5, n3, c5, A6, n3, c6, A7, n3 + 1, c7⟩) (.inl (by omega)), hOc.andNew (only_put5 (wa.setCell ⟨w2.heap.size, 4, none⟩ (.slice A7 (n3 + 1) c7)) ⟨f0, f1, A5, n3, c5, A6, n3, c6, A7, n3 + 1, c7⟩)⟩; clear hSF HXc HRc o1c o2c o3c hsc hOc)
        obtain ⟨ee0, ee1, ee2, ee3, ee4⟩ := HS4.out.lcell
        simp only at ee0 ee1 ee2 ee3 ee4
        exact bodyPost_ret (v := .tuple #[Fv.v ⟨f0, f1, A5, n3, c5, A6, n3, c6, A7, n3 + 1, c7⟩, .string t]) (by simp [results, Try.results53, go_sem, ee0, ee1, ee2, ee3, ee4]) rfl HEND.out
        
      have hBr : (r == 0) = false := beq_eq_false_iff_ne.2 hr
      have eX := HX9.lcell
      obtain ⟨jj0, jj1, jj2, jj3, jj4⟩ := eX
      obtain ⟨xx0, xx1, xx2, xx3, xx4⟩ := HR9.lcell
      simp only at jj0 jj1 jj2 jj3 jj4 xx0 xx1 xx2 xx3 xx4
      obtain ⟨yy0, yy1, yy2, yy3, yy4⟩ := HR9.freeF
      have HS4 := Lib.hid (HR9.put5 ⟨f0, f1, A5, n3, c5, A6, n3, c6, A3, n3, c3⟩)
      have hSF : SF w9 w1.heap.size (w9).heap.size ⟨f0, f1, A5, n3, c5, A6, n3, c6, A3, n3, c3⟩ F' G' L3 := ⟨o19.mono (by omega) (by omega), o29.mono (by omega) (by omega), o39.mono (by omega) (by omega)⟩
      have HEND : Hid (Dr5 w g N C A (.returned (.tuple #[Fv.v ⟨f0, f1, A5, n3, c5, A6, n3, c6, A3, n3, c3⟩, .string t])) (put5w w9 w.heap.size ⟨f0, f1, A5, n3, c5, A6, n3, c6, A3, n3, c3⟩)) := Lib.hid ⟨⟨f0, f1, A5, n3, c5, A6, n3, c6, A3, n3, c3⟩, F', G', L3, t, rfl, ⟨a1, a2, b1, b2⟩, ht, ⟨show 1 ≤ n3 by omega, show n3 ≤ 64 by omega, show n3 = n3 by omega, show n3 ≤ 65 by omega⟩, ⟨nF, nG, nH⟩, (hSF.put5 ⟨f0, f1, A5, n3, c5, A6, n3, c6, A3, n3, c3⟩ (.inl (by omega))).mono (by omega) (by simp), hs9.only (only_put5 w9 ⟨f0, f1, A5, n3, c5, A6, n3, c6, A3, n3, c3⟩) (.inl (by omega)), hO9.andNew (only_put5 w9 ⟨f0, f1, A5, n3, c5, A6, n3, c6, A3, n3, c3⟩)⟩
      clear nF nG nH
      clear hSF HX9 HR9 o19 o29 o39 hs9 hO9
      go_wp2_with fail
      obtain ⟨ee0, ee1, ee2, ee3, ee4⟩ := HS4.out.lcell
      simp only at ee0 ee1 ee2 ee3 ee4
      exact bodyPost_ret (v := .tuple #[Fv.v ⟨f0, f1, A5, n3, c5, A6, n3, c6, A3, n3, c3⟩, .string t]) (by simp [results, Try.results53, go_sem, ee0, ee1, ee2, ee3, ee4]) rfl HEND.out
    have hB0 : (z == 0) = false := beq_eq_false_iff_ne.2 hA0
    have hB1 : (z == 1) = false := beq_eq_false_iff_ne.2 hA1
    have hB2 : (z == 2) = false := beq_eq_false_iff_ne.2 hA2
    have hB3 : (z == 3) = false := beq_eq_false_iff_ne.2 hA3
    clear hc8 hz0'
    have eX := HX.lcell
    obtain ⟨jj0, jj1, jj2, jj3, jj4⟩ := eX
    obtain ⟨xx0, xx1, xx2, xx3, xx4⟩ := HRs.lcell
    simp only at jj0 jj1 jj2 jj3 jj4 xx0 xx1 xx2 xx3 xx4
    obtain ⟨yy0, yy1, yy2, yy3, yy4⟩ := HRs.freeF
    have HS4 := Lib.hid (HRs.put5 ⟨f0, f1, A5, n3, c5, A6, n3, c6, A3, n3, c3⟩)
    have hSF : SF w8 w1.heap.size (w8).heap.size ⟨f0, f1, A5, n3, c5, A6, n3, c6, A3, n3, c3⟩ F' G' L3 := ⟨o1.mono (by omega) (by omega), o2.mono (by omega) (by omega), o3.mono (by omega) (by omega)⟩
    have HEND : Hid (Dr5 w g N C A (.returned (.tuple #[Fv.v ⟨f0, f1, A5, n3, c5, A6, n3, c6, A3, n3, c3⟩, .string t])) (put5w w8 w.heap.size ⟨f0, f1, A5, n3, c5, A6, n3, c6, A3, n3, c3⟩)) := Lib.hid ⟨⟨f0, f1, A5, n3, c5, A6, n3, c6, A3, n3, c3⟩, F', G', L3, t, rfl, ⟨a1, a2, b1, b2⟩, ht, ⟨show 1 ≤ n3 by omega, show n3 ≤ 64 by omega, show n3 = n3 by omega, show n3 ≤ 65 by omega⟩, ⟨nF, nG, nH⟩, (hSF.put5 ⟨f0, f1, A5, n3, c5, A6, n3, c6, A3, n3, c3⟩ (.inl (by omega))).mono (by omega) (by simp), hs8.only (only_put5 w8 ⟨f0, f1, A5, n3, c5, A6, n3, c6, A3, n3, c3⟩) (.inl (by omega)), hO8.andNew (only_put5 w8 ⟨f0, f1, A5, n3, c5, A6, n3, c6, A3, n3, c3⟩)⟩
    clear hF' hG' nF nG nH hF3 hl1 hl2 hl3 hsm1 hsm2
    clear hSF HX HRs o1 o2 o3 hs8 hO8
    go_wp2_with fail
    obtain ⟨ee0, ee1, ee2, ee3, ee4⟩ := HS4.out.lcell
    simp only at ee0 ee1 ee2 ee3 ee4
    exact bodyPost_ret (v := .tuple #[Fv.v ⟨f0, f1, A5, n3, c5, A6, n3, c6, A3, n3, c3⟩, .string t]) (by simp [results, Try.results53, go_sem, ee0, ee1, ee2, ee3, ee4]) rfl HEND.out
end Go.Proofs.Ytfiefjbipjalpaa
