/- Contract of the draw of a sheet and a catalogue. -/
import Derived.Test.YtbhofhobnbhhhaaDoorSrG
import Derived.Test.YtbhofhobnbhhhaaDoorBcIm
import Derived.Laws.MakeOwn
import Derived.Deep.RegionHeld3
import Derived.BigRegion
import Derived.OwnWalk
namespace Go.Proofs.YtbhofhobnbhhhaaDoor
open Go.RowKit
set_option linter.unusedVariables false

/-- The state of the draw of a catalogue: the source, the code, the kinds. -/
structure DkI (w : World) (g N C B : Nat) (A : Option Addr) (l : List Int) (A5 : Option Addr) (n5 c5 : Nat) (wr : World) : Prop where
  k : SrcG wr g N C B A l
  row : ∃ li, OwnS Kd.S wr w.heap.size wr.heap.size (.slice A5 n5 c5) li
  o : Only g (g + 1) w wr
  hg : g < w.heap.size
section
variable {w wr w' : World} {g N C B n5 c5 n6 c6 : Nat} {A A5 A6 : Option Addr} {l : List Int}
theorem DkI.src (h : DkI w g N C B A l A5 n5 c5 wr) (hk : SrcG w' g N C B A l) (hq : Only g (g + 1) wr w') : DkI w g N C B A l A5 n5 c5 w' := by
  have h1 := h.hg
  obtain ⟨li, hr⟩ := h.row
  exact ⟨hk, ⟨li, (hr.only hq (.inr (by omega))).mono (Nat.le_refl _) hq.size⟩, h.o.trans hq, h1⟩
theorem DkI.push {li : List Kd} (h : DkI w g N C B A l A5 n5 c5 wr) (ho : OwnS Kd.S w' w.heap.size w'.heap.size (.slice A6 n6 c6) li) (hm : Only w.heap.size wr.heap.size wr w') : DkI w g N C B A l A6 n6 c6 w' :=
  ⟨h.k.only hm h.hg, ⟨li, ho⟩, h.o.then_only hm (Nat.le_refl _), h.hg⟩
theorem DkI.new {li : List Kd} {lo : Nat} (h : DkI w g N C B A l A5 n5 c5 wr) (hb : Below wr.heap.size wr w') (ho : OwnS Kd.S w' lo w'.heap.size (.slice A6 n6 c6) li) (hlo : wr.heap.size ≤ lo) : DkI w g N C B A l A6 n6 c6 w' := by
  have h3 := h.o.size
  exact ⟨h.k.below hb, ⟨li, ho.mono (by omega) (Nat.le_refl _)⟩, h.o.then_below hb (by omega), h.hg⟩
end
def DrKd (w : World) (g N C B : Nat) (A : Option Addr) (l : List Int) (e' : Ending) (w' : World) : Prop := ∃ (a b : Int) (A5 : Option Addr) (n c : Nat) (li : List Kd), e' = .returned (.tuple #[.int .i64 a, .int .i64 b, .slice A5 n c]) ∧ (-1 ≤ a ∧ a ≤ 41) ∧ (-1 ≤ b ∧ b ≤ 41) ∧ OwnS Kd.S w' w.heap.size w'.heap.size (.slice A5 n c) li ∧ n ≤ 7 ∧ SrcG w' g N C B A l ∧ Only g (g + 1) w w'
theorem DrKd.mk_ {w w' : World} {g N C B : Nat} {A : Option Addr} {l : List Int} {A5 : Option Addr} {n c : Nat} {a b : Int} (h : DkI w g N C B A l A5 n c w') (ha : -1 ≤ a ∧ a ≤ 41) (hb : -1 ≤ b ∧ b ≤ 41) (hn : n ≤ 7) : DrKd w g N C B A l (.returned (.tuple #[.int .i64 a, .int .i64 b, .slice A5 n c])) w' := by
  obtain ⟨li, ho⟩ := h.row
  exact ⟨a, b, A5, n, c, li, rfl, ha, hb, ho, hn, h.k, h.o⟩
abbrev TwoK (V : World) (q : Nat) (v0 v1 : Value) : Prop := V.cell? ⟨q, 0, none⟩ = some v0 ∧ V.cell? ⟨q, 1, none⟩ = some v1
theorem Blk.twoK {V : World} {q : Nat} {v0 v1 v2 : Value} {t : TypeId} (h : Blk V q #[v0, v1, v2] t) : TwoK V q v0 v1 := ⟨h.cell 0 rfl, h.cell 1 rfl⟩
theorem Blk.set2K {V : World} {q : Nat} {a b c : Value} {t : TypeId} (h : Blk V q #[a, b, c] t) (v : Value) : Blk (V.setCell ⟨q, 2, none⟩ v) q #[a, b, v] t := h.set 2 v
theorem only_setS {w w' : World} {lo hi k i : Nat} (h : Only lo hi w w') (u : Value) (hk : w.heap.size ≤ k) : Only lo hi w (w'.setCell ⟨k, i, none⟩ u) :=
  ⟨h.os, h.tape, h.output, by simpa using h.size, fun j hj hne => (heap_setCell_other w' ⟨k, i, none⟩ j u (fun e => by have e' : j = k := e; omega)).trans (h.block j hj hne)⟩
set_option maxRecDepth 100000 in
set_option maxHeartbeats 16000000 in
theorem drawKd_any (g N C B : Nat) (A : Option Addr) (l : List Int) (w : World) (hs : SrcG w g N C B A l) (hl : inByte l) (hN : N ≤ 1048576) :
    Calls Tryd.prog 47 #[.pointer (some ⟨g, 0, none⟩)] w fun e' w' => DrKd w g N C B A l e' w' := by
  obtain ⟨i0, hi0, hz0, hz1, hz2⟩ := info_parts infoKd
  have hlt := hs.lt
  go_enter Tryd.func47, Tryd.ntmps47
  go_wp2_with fail
  refine (nextG_ex g N C B A l 14 _ hs hl hN (by decide) (by decide)).mono ?_
  rintro e w1 ⟨W0, rfl, hW0, hs1, hq1⟩
  have yW : IntKind.i64.wrap (1 + W0) = 1 + W0 := IntWalk.i64_in _ (by omega)
  go_wp2_with fail
  refine (nextG_ex g N C B A l 14 _ hs1 hl hN (by decide) (by decide)).mono ?_
  rintro e w2 ⟨H0, rfl, hH0, hs2, hq2⟩
  have yH : IntKind.i64.wrap (1 + H0) = 1 + H0 := IntWalk.i64_in _ (by omega)
  have hI2 : DkI w g N C B A l none 0 0 w2 := ⟨hs2, ⟨[], OwnS.nil_⟩, hq1.trans hq2, hlt⟩
  have hI3 : DkI w g N C B A l (some ⟨w2.heap.size, 0, none⟩) 0 0 (w2.alloc (.cells #[] 42)) := hI2.new (below_newS w2 _) ((OwnS.lit0 Kd.S w2).mono (Nat.le_refl _) (by simp)) (Nat.le_refl _)
  have hPb : -1 ≤ 1 + W0 ∧ 1 + W0 ≤ 41 := by omega
  have hRb : -1 ≤ 1 + H0 ∧ 1 + H0 ≤ 41 := by omega
  clear hs hs1 hs2 hq1 hq2 hI2 hW0 hH0
  go_wp2_with fail
  refine (nextG_ex g N C B A l 4 _ hI3.k hl hN (by decide) (by decide)).mono ?_
  rintro e w4 ⟨v, rfl, hv, hs4, hq4⟩
  have hI4 := hI3.src hs4 hq4
  obtain ⟨k0, hk⟩ : ∃ k : Nat, 1 + v = (k : Int) := ⟨(1 + v).toNat, by omega⟩
  have yv : IntKind.i64.wrap (1 + v) = (k0 : Int) := by rw [hk]; exact IntWalk.i64_in _ (by omega)
  have hk0 : 1 ≤ k0 ∧ k0 ≤ 4 := by omega
  have hI5 : ∃ (A5 : Option Addr) (n5 c5 : Nat), (Value.slice (some ⟨w2.heap.size, 0, none⟩) 0 0) = .slice A5 n5 c5 ∧ n5 + k0 ≤ 4 ∧ 1 ≤ n5 + k0 ∧ DkI w g N C B A l A5 n5 c5 w4 := ⟨_, _, _, rfl, by omega, by omega, hI4⟩
  clear hI3 hI4 hs4 hq4 hv hk
  go_wp2_with fail
  go_loopw [7, 8, 9] (fun p i _ wr => ∃ (k : Nat) (A5 : Option Addr) (n5 c5 : Nat), i = .int .i64 k ∧ p = .slice A5 n5 c5 ∧ n5 + k ≤ 4 ∧ 1 ≤ n5 + k ∧ DkI w g N C B A l A5 n5 c5 wr) (fun _ i _ _ => (intOf i).toNat)
  case atStart =>
    obtain ⟨A5, n5, c5, h1, h2, h3, h4⟩ := hI5
    exact ⟨k0, A5, n5, c5, rfl, h1, h2, h3, h4⟩
  case round =>
    clear hI5
    obtain ⟨k, A5, n5, c5, rfl, rfl, hk, hk1, hI⟩ := hrel
    by_cases hkp : 0 < k
    · have yk : IntKind.i64.wrap ((k : Int) - 1) = ((k - 1 : Nat) : Int) := by rw [show ((k - 1 : Nat) : Int) = (k : Int) - 1 from by omega]; exact IntWalk.i64_in _ (by omega)
      have hkI : 0 < (k : Int) := by omega
      have hzr := hI.o.size
      go_wp2_with fail
      refine (nextG_ex g N C B A l 8 _ hI.k hl hN (by decide) (by decide)).mono ?_
      rintro e w5 ⟨a, rfl, ha, hs5, hq5⟩
      have hI5 := hI.src hs5 hq5
      have ya : IntKind.i64.wrap (1 + a) = 1 + a := IntWalk.i64_in _ (by omega)
      clear hI hs5 hq5
      go_wp2_with fail
      refine (nextG_ex g N C B A l 8 _ hI5.k hl hN (by decide) (by decide)).mono ?_
      rintro e w6 ⟨b, rfl, hb, hs6, hq6⟩
      have hI6 := hI5.src hs6 hq6
      have yb : IntKind.i64.wrap (1 + b) = 1 + b := IntWalk.i64_in _ (by omega)
      obtain ⟨z, hz⟩ : ∃ z, (1 + a) * (1 + b) = z := ⟨_, rfl⟩
      have hzb : 0 ≤ z ∧ z ≤ 64 := by
        have h1 := Int.mul_nonneg (a := 1 + a) (b := 1 + b) (by omega) (by omega)
        have h2 := Int.mul_le_mul (a := 1 + a) (b := 1 + b) (c := 8) (d := 8) (by omega) (by omega) (by omega) (by omega)
        omega
      have yz : IntKind.i64.wrap ((1 + a) * (1 + b)) = z := by rw [hz]; exact IntWalk.i64_in _ (by omega)
      have bk := Blk.new (w := w6) (g := w6.heap.size) #[.int .i64 (1 + a), .int .i64 (1 + b), .int .i64 0] 42 rfl
      have hsk := hI6.k.alloc (.cells #[.int .i64 (1 + a), .int .i64 (1 + b), .int .i64 0] 42)
      have hg6 := hI6.k.lt
      have c0 := bk.cell 0 (v := .int .i64 (1 + a)) rfl
      have c1 := bk.cell 1 (v := .int .i64 (1 + b)) rfl
      clear hI5 hs6 hq6 ha hb hz
      go_wp2_with fail
      go_region_held3 (fun V => V.cell? ⟨w6.heap.size, 0, none⟩ = some (.int .i64 (1 + a)) ∧ V.cell? ⟨w6.heap.size, 1, none⟩ = some (.int .i64 (1 + b)))
        (first | with_reducible exact hS10 | with_reducible exact hS9 | with_reducible exact hS8 | (with_reducible refine Blk.twoK (t := 42) ?_; repeat' (first | with_reducible assumption | with_reducible refine Blk.drewG ?_ | with_reducible refine Blk.alloc ?_ _)) | go_keep)
        (first
          | (have cq9 := hq8; clear cq9; go_at_call 75; with_reducible refine (pickG_ex g N C B _ 3 A l [z, z, u] #[.int .i64 z, .int .i64 z, .int .i64 u] _ ?_ hl hN ?_ rfl rfl (by decide) (by decide) ?_).mono ?_; (focus ((repeat' (first | with_reducible assumption | with_reducible refine SrcG.alloc ?_ _ | with_reducible refine SrcG.drew ?_)); done)); (focus ((repeat' (first | with_reducible assumption | omega | (with_reducible refine Blk.new _ _ ?_ <;> (simp; done)) | with_reducible refine Blk.alloc ?_ _ | with_reducible refine Blk.drewG ?_)); done)); (focus (omega; done)); rintro e' w9 ⟨q, rfl, hq, hk9, hq9⟩; clear hq; have r9 := Blk.moveG (q := w6.heap.size) (cs := #[.int .i64 (1 + a), .int .i64 (1 + b), .int .i64 0]) (t := 42) (by repeat' (first | with_reducible assumption | with_reducible refine Blk.drewG ?_ | with_reducible refine Blk.alloc ?_ _)) hq9 (by omega); have f9 := r9.free 2; have d9 := r9.cell 2 (v := .int .i64 0) rfl; have hS9 : TwoK w9 w6.heap.size (.int .i64 (1 + a)) (.int .i64 (1 + b)) := r9.twoK; have r10 := r9.set2K (.int .i64 q); have hS10 : TwoK (w9.setCell ⟨w6.heap.size, 2, none⟩ (.int .i64 q)) w6.heap.size (.int .i64 (1 + a)) (.int .i64 (1 + b)) := r10.twoK)
          | (go_at_call 74; with_reducible refine (nextG_ex g N C B A l 60 _ ?_ hl hN (by decide) (by decide)).mono ?_; (focus ((repeat' (first | with_reducible assumption | with_reducible refine SrcG.alloc ?_ _ | with_reducible refine SrcG.drew ?_)); done)); rintro e' w8 ⟨u, rfl, ⟨u0, u1⟩, hk8, hq8⟩; have r8 := Blk.moveG (q := w6.heap.size) (cs := #[.int .i64 (1 + a), .int .i64 (1 + b), .int .i64 0]) (t := 42) (by repeat' (first | with_reducible assumption | with_reducible refine Blk.drewG ?_ | with_reducible refine Blk.alloc ?_ _)) hq8 (by omega); have hl8 := hk8.lt; have m8 := r8.lt; have hS8 : TwoK w8 w6.heap.size (.int .i64 (1 + a)) (.int .i64 (1 + b)) := r8.twoK))
      have hOV : Only g (g + 1) w6 (w9.setCell ⟨w6.heap.size, 2, none⟩ (.int .i64 q)) := only_setS (((((Only.refl g (g + 1) w6).then_alloc _).drew.trans hq8).then_alloc _).trans hq9) _ (Nat.le_refl _)
      have hIV := hI6.src (hk9.setS (.int .i64 q) hg6) hOV
      clear hS8 hS9 hS10 r8 r9 f9 d9 hq8 hq9 hk8 hk9 hl8 m8 hsk bk c0 c1 hI6 hOV
      generalize w9.setCell ⟨w6.heap.size, 2, none⟩ (.int .i64 q) = V at *
      have e0 := r10.cell 0 (v := .int .i64 (1 + a)) rfl
      have e1 := r10.cell 1 (v := .int .i64 (1 + b)) rfl
      have e2 := r10.cell 2 (v := .int .i64 q) rfl
      obtain ⟨li, ho⟩ := hIV.row
      have hzV := hIV.o.size
      go_wp2_with (at_builtin; refine wp_pushKd V rfl (.tmp 48) (.tmp 50) 24 rfl Tryd.underlying24 A5 n5 c5 _ _ _ (by rfl) ho ⟨1 + a, 1 + b, q⟩ V.heap.size (by rfl) rfl (by omega) hzV ?_; intro A7 c7 w7 ho7 hm7; have hI7 := Lib.hid (hIV.push ho7 hm7); clear ho7 hm7)
      go_roundw
      case rel => exact ⟨k - 1, A7, n5 + 1, c7, rfl, rfl, by omega, by omega, hI7.out⟩
      case measure => simp [intOf]; omega
    · obtain rfl : k = 0 := by omega
      have hn5 : 1 ≤ n5 ∧ n5 ≤ 4 := by omega
      go_wp2_with fail
      refine (nextG_ex g N C B A l 40 _ hI.k hl hN (by decide) (by decide)).mono ?_
      rintro e w5 ⟨m, rfl, hm, hs5, hq5⟩
      have hI5 := hI.src hs5 hq5
      clear hI hs5 hq5
      by_cases m_0 : m = 0
      · subst m_0
        go_wp2_with fail
        refine (pick_lit g N C B A l [0, 40, 41] _ _ w5 rfl rfl hI5.k.s hI5.k.c hl hI5.k.b hN (by simp) (by simp)).mono ?_
        rintro e w6 ⟨x, rfl, hx, hs6, hq6⟩
        have hI6 := hI5.src ⟨hs6, hI5.k.c.only hq6 (by have := hI5.k.b; omega) (by have := hI5.k.b; have := hI5.k.lt; omega), hI5.k.b⟩ hq6
        obtain ⟨li, ho⟩ := hI6.row
        obtain ⟨gq, z, rfl, hg1, hg2, hg3, hz, cz, fz⟩ := ho.at_Kd (k := 0) (by omega)
        obtain ⟨cz0, cz1, cz2⟩ := cz
        have hst := ho.set_ (i := 0) (o := 0) (y := ⟨x, z.h, z.v⟩) (u := .int .i64 x) hz rfl (by show 0 < 3; omega) rfl
        have HE := Lib.hid (DrKd.mk_ (hI6.push (hst.1.mono (Nat.le_refl _) (show w6.heap.size ≤ (w6.setCell ⟨gq, 0, none⟩ (.int .i64 x)).heap.size by simp)) hst.2) hPb hRb (by omega))
        have hnI : (0 : Int) < n5 := by omega
        have fz0 := fz 0
        clear hI5 hI6 hs6 hq6 hx ho hst hz
        go_wp2_with fail
        go_ret3
        exact HE.out
      have m_0' : (m == 0) = false := by simpa using m_0
      by_cases m_1 : m = 1
      · subst m_1
        go_wp2_with fail
        refine (pick_lit g N C B A l [-1, 1000, 1001] _ _ w5 rfl rfl hI5.k.s hI5.k.c hl hI5.k.b hN (by simp) (by simp)).mono ?_
        rintro e w6 ⟨x, rfl, hx, hs6, hq6⟩
        have hI6 := hI5.src ⟨hs6, hI5.k.c.only hq6 (by have := hI5.k.b; omega) (by have := hI5.k.b; have := hI5.k.lt; omega), hI5.k.b⟩ hq6
        obtain ⟨li, ho⟩ := hI6.row
        obtain ⟨gq, z, rfl, hg1, hg2, hg3, hz, cz, fz⟩ := ho.at_Kd (k := 0) (by omega)
        obtain ⟨cz0, cz1, cz2⟩ := cz
        have hst := ho.set_ (i := 2) (o := 2) (y := ⟨z.w, z.h, x⟩) (u := .int .i64 x) hz rfl (by show 2 < 3; omega) rfl
        have HE := Lib.hid (DrKd.mk_ (hI6.push (hst.1.mono (Nat.le_refl _) (show w6.heap.size ≤ (w6.setCell ⟨gq, 2, none⟩ (.int .i64 x)).heap.size by simp)) hst.2) hPb hRb (by omega))
        have hnI : (0 : Int) < n5 := by omega
        have fz0 := fz 2
        clear hI5 hI6 hs6 hq6 hx ho hst hz
        go_wp2_with fail
        go_ret3
        exact HE.out
      have m_1' : (m == 1) = false := by simpa using m_1
      by_cases m_2 : m = 2
      · subst m_2
        go_wp2_with fail
        refine (pick_lit g N C B A l [0, -1, 41] _ _ w5 rfl rfl hI5.k.s hI5.k.c hl hI5.k.b hN (by simp) (by simp)).mono ?_
        rintro e w6 ⟨x, rfl, hx, hs6, hq6⟩
        have hI6 := hI5.src ⟨hs6, hI5.k.c.only hq6 (by have := hI5.k.b; omega) (by have := hI5.k.b; have := hI5.k.lt; omega), hI5.k.b⟩ hq6
        have HE := Lib.hid (DrKd.mk_ hI6 (a := x) (by simp at hx; omega) hRb (by omega))
        clear hI5 hI6 hs6 hq6 hx
        go_wp2_with fail
        go_ret3
        exact HE.out
      have m_2' : (m == 2) = false := by simpa using m_2
      by_cases m_3 : m = 3
      · subst m_3
        go_wp2_with fail
        refine (pick_lit g N C B A l [0, 6, 7] _ _ w5 rfl rfl hI5.k.s hI5.k.c hl hI5.k.b hN (by simp) (by simp)).mono ?_
        rintro e w6 ⟨x, rfl, hx, hs6, hq6⟩
        have hI6 := hI5.src ⟨hs6, hI5.k.c.only hq6 (by have := hI5.k.b; omega) (by have := hI5.k.b; have := hI5.k.lt; omega), hI5.k.b⟩ hq6
        obtain ⟨q, rfl⟩ : ∃ q : Nat, x = (q : Int) := ⟨x.toNat, by simp at hx; omega⟩
        have hq7 : q ≤ 7 := by simp at hx; omega
        have hml : q ≤ maxLen := by unfold maxLen; omega
        have hz6 := hI6.o.size
        clear hI5 hs6 hq6 hx
        go_wp2_with (at_make; refine wpList_make_full _ rfl _ _ 24 rfl w6.heap.size 42 i0 _ 3 Tryd.underlying24 hi0 hz0 hz1 .i64 .i64 _ _ q rfl rfl rfl rfl (by rw [hz2]; omega) hml (Nat.le_refl _) ?_; intro w7 hown7 hg7; have hown : OwnS Kd.S w7 w6.heap.size (w6.heap.size + 1) (.slice (some ⟨w6.heap.size, 0, none⟩) q q) (List.replicate q Kd.zero) := (by
          refine ⟨?_, fun k hk => by simp [Value.ownBlock] at hk; omega⟩
          have hmd := Shp.made Kd.S #[.int .i64 0, .int .i64 0, .int .i64 0] rfl q
          rw [List.length_replicate, show (List.replicate q Kd.zero).flatMap Kd.S.enc = _ from hmd.symm]
          exact hown7); have hs7 : w6.heap.size + 1 ≤ w7.heap.size := (by have := hown.lt w6.heap.size rfl; omega); have hI7 : DkI w g N C B A l (some ⟨w6.heap.size, 0, none⟩) q q w7 := hI6.new ((Below.refl _ _).grown hg7 (Nat.le_refl _) (by simp)) (hown.mono (Nat.le_refl _) hs7) (Nat.le_refl _); clear hown7 hg7 hown)
        go_loopw [10] (fun i wr => ∃ k : Nat, k ≤ q ∧ i = .int .i64 k ∧ DkI w g N C B A l (some ⟨w6.heap.size, 0, none⟩) q q wr) (fun i _ => q - (intOf i).toNat)
        case atStart => exact ⟨0, Nat.zero_le _, rfl, hI7⟩
        case round =>
          clear hI7
          obtain ⟨k, hk, rfl, hI⟩ := hrel
          by_cases hlt2 : k < q
          · obtain ⟨li, ho⟩ := hI.row
            obtain ⟨g7, z, eg, hg1, hg2, hg3, hz, cz, fz⟩ := ho.at_Kd (k := k) hlt2
            injection eg with eg
            injection eg with eg _ _
            subst eg
            obtain ⟨cz0, cz1, cz2⟩ := cz
            have f0 := fz (k * 3)
            have f1 := fz (k * 3 + 1)
            have f2 := fz (k * 3 + 2)
            have hst := ho.putKd ⟨2, 3, (k : Int)⟩ hz
            have HI7 := Lib.hid (hI.push (hst.1.mono (hi' := (((wr.setCell ⟨w6.heap.size, k * 3, none⟩ (.int .i64 2)).setCell ⟨w6.heap.size, k * 3 + 1, none⟩ (.int .i64 3)).setCell ⟨w6.heap.size, k * 3 + 2, none⟩ (.int .i64 (k : Int))).heap.size) (Nat.le_refl _) (by simp)) hst.2)
            clear hst hz ho
            go_wp2_with fail
            go_roundw
            case rel => exact ⟨k + 1, by omega, by go_num, HI7.out⟩
            case measure => simp [intOf]; omega
          · obtain rfl : k = q := by omega
            have HE := Lib.hid (DrKd.mk_ hI hPb hRb hq7)
            clear hI
            go_wp2_with fail
            go_ret3
            exact HE.out
      · have m_3' : (m == 3) = false := by simpa using m_3
        have HE := Lib.hid (DrKd.mk_ hI5 hPb hRb (by omega))
        clear hI5
        go_wp2_with fail
        go_ret3
        exact HE.out
end Go.Proofs.YtbhofhobnbhhhaaDoor
