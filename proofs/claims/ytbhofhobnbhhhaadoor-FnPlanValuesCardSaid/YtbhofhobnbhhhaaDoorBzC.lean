/- Contracts of the draw of a sheet, a catalogue and a plan. Contracts of DrawBestPlan and DrawPlanValue. Chapter 12: the program's contracts of IsCatalogue, BestKind, DensityBound, BestValue. Chapter 12: the program's contracts of its functions with texts. Mathematics of chapter 12: no grid has more value than the best value, and the best value is within the density bound. Contracts of the helpers of the laws: a bound on the code, two lists that are alike, the sum of a list. -/
import Derived.Test.YtbhofhobnbhhhaaDoorBcDt
import Derived.Test.YtbhofhobnbhhhaaDoorBzA
import Derived.BigQuiet
import Derived.BigRegion
import Derived.Deep.AppendLies
import Derived.Deep.DrawnRows
import Derived.Deep.QuietTactic
import Derived.Deep.RegionLaw
import Derived.Test.YtbhofhobnbhhhaaDoorBcKi
import Derived.Test.YtbhofhobnbhhhaaDoorBcBv
import Derived.Test.YtbhofhobnbhhhaaDoorBpTs
import Derived.Test.YtbhofhobnbhhhaaDoorBzB
import Derived.Test.YtbhofhobnbhhhaaDoorBcBp
import Derived.Test.YtbhofhobnbhhhaaDoorSrc
namespace Go.Proofs.YtbhofhobnbhhhaaDoor
open Go.RowKit
set_option linter.unusedVariables false

def DpP (w : World) (e' : Ending) (w' : World) : Prop := ∃ (a b : Int) (A5 : Option Addr) (n c : Nat) (li : List Kd) (t : ByteArray), e' = .returned (.tuple #[.int .i64 a, .int .i64 b, .slice A5 n c, .string t]) ∧ (-1 ≤ a ∧ a ≤ 41) ∧ (-1 ≤ b ∧ b ≤ 41) ∧ OwnS Kd.S w' w.heap.size w'.heap.size (.slice A5 n c) li ∧ n ≤ 7 ∧ t.size ≤ 13000
theorem DpP.mk_ {w w' : World} {a b : Int} {A5 : Option Addr} {n c : Nat} {li : List Kd} {t : ByteArray} (ha : -1 ≤ a ∧ a ≤ 41) (hb : -1 ≤ b ∧ b ≤ 41) (ho : OwnS Kd.S w' w.heap.size w'.heap.size (.slice A5 n c) li) (hn : n ≤ 7) (ht : t.size ≤ 13000) : DpP w (.returned (.tuple #[.int .i64 a, .int .i64 b, .slice A5 n c, .string t])) w' := ⟨a, b, A5, n, c, li, t, rfl, ha, hb, ho, hn, ht⟩
/-- .. out of a source. -/
def DrPl (w : World) (g N C B : Nat) (A : Option Addr) (l : List Int) (e' : Ending) (w' : World) : Prop := DpP w e' w' ∧ SrcG w' g N C B A l ∧ Only g (g + 1) w w'
def sixS : List ByteArray := [⟨#[40]⟩, ⟨#[41]⟩, ⟨#[124]⟩, ⟨#[97]⟩, ⟨#[49]⟩, ⟨#[46]⟩]
theorem six_at (k : Nat) (b : ByteArray) (hb : sixS[k]? = some b) (h : k < ([Value.string ⟨#[40]⟩, Value.string ⟨#[41]⟩, Value.string ⟨#[124]⟩, Value.string ⟨#[97]⟩, Value.string ⟨#[49]⟩, Value.string ⟨#[46]⟩] : List Value).length) : ([Value.string ⟨#[40]⟩, Value.string ⟨#[41]⟩, Value.string ⟨#[124]⟩, Value.string ⟨#[97]⟩, Value.string ⟨#[49]⟩, Value.string ⟨#[46]⟩] : List Value)[k] = .string b := by
  have e : (sixS.map Value.string)[k]? = some (.string b) := by rw [List.getElem?_map, hb]; rfl
  have e2 : ([Value.string ⟨#[40]⟩, Value.string ⟨#[41]⟩, Value.string ⟨#[124]⟩, Value.string ⟨#[97]⟩, Value.string ⟨#[49]⟩, Value.string ⟨#[46]⟩] : List Value)[k]? = some (.string b) := e
  rw [List.getElem?_eq_getElem h] at e2
  injection e2
theorem four_resultsD {fn : Func} {t u v x : Tmp} (h : fn.results = #[.tmp t, .tmp u, .tmp v, .tmp x]) (tmps : Array Value) (P : Program) (w : World) : (results fn tmps).run P w = .ok (.tuple #[tmps.getD t undef, tmps.getD u undef, tmps.getD v undef, tmps.getD x undef]) w := by
  simp [results, h]
theorem OwnS.onlyD {w w' : World} {lo hi n c g : Nat} {A5 : Option Addr} {li : List Kd} (h : OwnS Kd.S w lo hi (.slice A5 n c) li) (ho : Only g (g + 1) w w') (hg : g < lo) (hh : hi ≤ w'.heap.size) : OwnS Kd.S w' lo w'.heap.size (.slice A5 n c) li := (h.only ho (.inr (by omega))).mono (Nat.le_refl _) hh
set_option maxRecDepth 100000 in
set_option maxHeartbeats 16000000 in
/-- The end of the draw: the text is damaged, or not. -/
theorem drawPl_any (g N C B : Nat) (A : Option Addr) (l : List Int) (w : World) (hs : SrcG w g N C B A l) (hl : inByte l) (hN : N ≤ 1048576) :
    Calls Tryd.prog 61 #[.pointer (some ⟨g, 0, none⟩)] w fun e' w' => DrPl w g N C B A l e' w' := by
  have hlt := hs.lt
  go_enter Tryd.func61, Tryd.ntmps61
  go_wp2_with fail
  refine (drawKd_any g N C B A l w hs hl hN).mono ?_
  rintro e w1 ⟨a, b, A5, n, c, li, rfl, ha, hb, ho1, hn7, hs1, hq1⟩
  have z1 := hq1.size
  clear hs
  obtain ⟨Cd, hCd⟩ : ∃ Cd, Bc.code a b li = Cd := ⟨_, rfl⟩
  have hbp := specBp_any a b A5 n c w1.heap.size li Cd w1 ho1.rd (Nat.le_refl _) (by omega) hCd
  go_wp2_with fail
  refine hbp.mono ?_
  rintro e w2 ⟨t0, rfl, hP, hb2⟩
  have hs2 := hs1.below hb2
  have hq2 : Only g (g + 1) w w2 := hq1.trans (Only.of_below hb2 _ _)
  have ho2 := (ho1.below hb2 (Nat.le_refl _)).mono (Nat.le_refl _) hb2.size
  have z2 := hb2.size
  have ht0 : t0.size ≤ 12800 := by
    rcases hP with ⟨h0, h1⟩ | ⟨_, h1⟩
    · have h3 := Bc.okS_iff.1 (Bc.code0 h0).2
      exact h1.small (by omega) (by omega) (by omega) (by omega)
    · rw [h1]; decide
  clear hs1 hq1 ho1 hbp hb2
  by_cases hc0 : Cd = 0
  rotate_left
  · have hcB : (Cd == 0) = false := by simpa using hc0
    clear hP
    go_wp2_with fail
    refine (nextG_ex g N C B A l 5 _ hs2 hl hN (by decide) (by decide)).mono ?_
    rintro e w5 ⟨u, rfl, hu, hs5, hq5⟩
    have hO5 : Only g (g + 1) w w5 := hq2.trans hq5
    have hR5 := ho2.onlyD hq5 (by have := hs5.lt; omega) hq5.size
    by_cases hu0 : u = 0
    rotate_left
    · have hu0B : (u == 0) = false := by simpa using hu0
      have HE := Lib.hid (show DrPl w g N C B A l (.returned (.tuple #[.int .i64 a, .int .i64 b, .slice A5 n c, .string t0])) w5 from ⟨DpP.mk_ ha hb (hR5.mono (by omega) (Nat.le_refl _)) hn7 (by omega), hs5, hO5⟩)
      clear hs5 hO5 hR5 hq5
      go_wp2_with fail
      ((try simp only [Exit.inBlock, Exit.then]); refine bodyPost_ret (four_resultsD rfl _ _ _) rfl ?_)
      exact HE.out
    subst hu0
    have yt : IntKind.i64.wrap ((t0.size : Int) + 1) = (t0.size : Int) + 1 := IntWalk.i64_in _ (by omega)
    go_wp2_with fail
    refine (nextG_ex g N C B A l ((t0.size : Int) + 1) _ hs5 hl hN (by omega) (by omega)).mono ?_
    rintro e w6 ⟨k, rfl, hk, hs6, hq6⟩
    obtain ⟨k, rfl⟩ := Int.eq_ofNat_of_zero_le hk.1
    have hkt : k ≤ t0.size := by omega
    have hO6 : Only g (g + 1) w w6 := hO5.trans hq6
    have hR6 := hR5.onlyD hq6 (by have := hs6.lt; omega) hq6.size
    obtain ⟨p, hp⟩ : ∃ p, p = t0.extract 0 k := ⟨_, rfl⟩
    have hpz : p.size ≤ k := by rw [hp, ByteArray.size_extract]; omega
    have hsl : ∀ W, (Instr.slice 9 (.string t0) none (some (.int .i64 (k : Int))) none).run Tryd.prog W = .ok (.string p) W := fun W => by
      rw [run_slice_string_to_if W _ _ _ _ Tryd.underlying9, if_pos ⟨by omega, by omega⟩, hp]
      rfl
    obtain ⟨q, hq⟩ : ∃ q, q = t0.extract k t0.size := ⟨_, rfl⟩
    have hqz : q.size ≤ t0.size - k := by rw [hq, ByteArray.size_extract]; omega
    have hsl2 : ∀ W, (Instr.slice 9 (.string t0) (some (.int .i64 (k : Int))) none none).run Tryd.prog W = .ok (.string q) W := fun W => by
      rw [run_slice_string_from_if W _ _ _ _ Tryd.underlying9, if_pos ⟨by omega, by omega⟩, hq]
      rfl
    clear hp hq hs5 hR5 hO5 hq5 hk
    have hlt6 := hs6.lt
    have HD : Hid (∀ (d : ByteArray) (W : World), d.size = 1 → SrcG W g N C B A l → Only g (g + 1) w6 W → DrPl w g N C B A l (.returned (.tuple #[.int .i64 a, .int .i64 b, .slice A5 n c, .string (p ++ d ++ q)])) W) := Lib.hid fun d W hd hs ho => ⟨DpP.mk_ ha hb ((hR6.onlyD ho (by omega) ho.size).mono (by omega) (Nat.le_refl _)) hn7 (by rw [ByteArray.size_append, ByteArray.size_append]; omega), hs, hO6.trans ho⟩
    have HN : Hid (∀ W, Below w6.heap.size w6 W → Calls Tryd.prog 74 #[.pointer (some ⟨g, 0, none⟩), .int .i64 6] W fun e' w' => ∃ v, e' = .returned (.int .i64 v) ∧ (0 ≤ v ∧ v < 6) ∧ SrcG w' g N C B A l ∧ Only g (g + 1) W w') := Lib.hid fun W hb => nextG_ex g N C B A l 6 W (hs6.below hb) hl hN (by decide) (by decide)
    have hsum1 : ¬ 9223372036854775807 < p.size + 1 := by omega
    have hsum2 : ¬ 9223372036854775807 < p.size + 1 + q.size := by omega
    have HV : Hid (∀ v : Int, 0 ≤ v → v < 6 → ∃ d : ByteArray, d.size = 1 ∧ sixS[v.toNat]? = some d) := Lib.hid fun v h0 h1 => by
      have h : v = 0 ∨ v = 1 ∨ v = 2 ∨ v = 3 ∨ v = 4 ∨ v = 5 := by omega
      rcases h with rfl | rfl | rfl | rfl | rfl | rfl <;> exact ⟨_, rfl, rfl⟩
    have HA : Hid (∀ (W W3 : World) (v : Int) (d : ByteArray), sixS[v.toNat]? = some d → Only g (g + 1) W W3 → W.heap[w6.heap.size]? = some (.cells (sixS.map Value.string).toArray 9 (0, 0)) → W3.cell? ⟨w6.heap.size, v.toNat, none⟩ = some (.string d)) := Lib.hid fun W W3 v d hd ho hW => by
      have hlt : w6.heap.size < W.heap.size := (Array.getElem?_eq_some_iff.1 hW).1
      rw [World.cell?_of_block (ho.block w6.heap.size hlt (.inr (by omega))), cell_of_row W _ v.toNat _ _ (0, 0) hW]
      simp [hd]
    have hB6 : SrcG w6 g N C B A l := hs6
    go_wp2_with fail
    go_region_law ((go_simp; go_at_call 74; refine (HN.out _ (by repeat (first | exact Below.refl _ _ | apply below_drewN' | apply Below.drew | (refine Below.alloc ?_ (Nat.le_refl _) _)))).mono ?_; rintro e w7 ⟨v, rfl, ⟨hv0, hv1⟩, hs7, hq7⟩; obtain ⟨d, hdz, hdv⟩ := HV.out v hv0 hv1; have HDV := Lib.hid hdv; clear hdv; have hcB := six_at v.toNat d HDV.out; (try (have hcA := HA.out _ w7 v d HDV.out hq7 (by first | exact heap_alloc_new w6 _ | exact heap_alloc_new w6.drew _ | exact heap_alloc_new (w6.drewN 1) _)))))
    all_goals
      go_wp2_with fail
      ((try simp only [Exit.inBlock, Exit.then]); refine bodyPost_ret (four_resultsD rfl _ _ _) rfl ?_)
      first
        | exact HD.out d _ hdz hs7 ((Only.of_below ((Below.refl _ _).drew.alloc (Nat.le_refl _) _) _ _).trans hq7)
        | exact HD.out d _ hdz hs7 ((Only.of_below (((Below.refl _ _).alloc (Nat.le_refl _) _).drew) _ _).trans hq7)
        | exact HD.out d _ hdz (hs7.below ((Below.refl _ _).alloc (Nat.le_refl _) _)) ((Only.refl _ _ _).drew.trans (hq7.trans (Only.of_below ((Below.refl _ _).alloc (Nat.le_refl _) _) _ _)))
  have hab : ((1 ≤ a ∧ a ≤ 40) ∧ (1 ≤ b ∧ b ≤ 40)) ∧ 1 ≤ n := by
    obtain ⟨hok, hos⟩ := Bc.code0 (hCd.trans hc0)
    have h3 := Bc.okS_iff.1 hos
    have h4 := (Bc.okL_iff.1 hok).2
    have h5 := ho2.rd.1
    omega
  subst hc0
  clear hP hCd
  go_wp2_with fail
  refine (nextG_ex g N C B A l 2 _ hs2 hl hN (by decide) (by decide)).mono ?_
  rintro e w3 ⟨r, rfl, hr, hs3, hq3⟩
  have hO3 : Only g (g + 1) w w3 := hq2.trans hq3
  have ho3 := ho2.onlyD hq3 (by have := hs3.lt; omega) hq3.size
  have z3 := hq3.size
  clear hs2 hq2 ho2 hq3
  by_cases hr0 : r = 0
  rotate_left
  · have hrB : (r == 0) = false := by simpa using hr0
    go_wp2_with fail
    refine (nextG_ex g N C B A l 5 _ hs3 hl hN (by decide) (by decide)).mono ?_
    rintro e w5 ⟨u, rfl, hu, hs5, hq5⟩
    have hO5 : Only g (g + 1) w w5 := hO3.trans hq5
    have hR5 := ho3.onlyD hq5 (by have := hs5.lt; omega) hq5.size
    by_cases hu0 : u = 0
    rotate_left
    · have hu0B : (u == 0) = false := by simpa using hu0
      have HE := Lib.hid (show DrPl w g N C B A l (.returned (.tuple #[.int .i64 a, .int .i64 b, .slice A5 n c, .string t0])) w5 from ⟨DpP.mk_ ha hb (hR5.mono (by omega) (Nat.le_refl _)) hn7 (by omega), hs5, hO5⟩)
      clear hs5 hO5 hR5 hq5
      go_wp2_with fail
      ((try simp only [Exit.inBlock, Exit.then]); refine bodyPost_ret (four_resultsD rfl _ _ _) rfl ?_)
      exact HE.out
    subst hu0
    have yt : IntKind.i64.wrap ((t0.size : Int) + 1) = (t0.size : Int) + 1 := IntWalk.i64_in _ (by omega)
    go_wp2_with fail
    refine (nextG_ex g N C B A l ((t0.size : Int) + 1) _ hs5 hl hN (by omega) (by omega)).mono ?_
    rintro e w6 ⟨k, rfl, hk, hs6, hq6⟩
    obtain ⟨k, rfl⟩ := Int.eq_ofNat_of_zero_le hk.1
    have hkt : k ≤ t0.size := by omega
    have hO6 : Only g (g + 1) w w6 := hO5.trans hq6
    have hR6 := hR5.onlyD hq6 (by have := hs6.lt; omega) hq6.size
    obtain ⟨p, hp⟩ : ∃ p, p = t0.extract 0 k := ⟨_, rfl⟩
    have hpz : p.size ≤ k := by rw [hp, ByteArray.size_extract]; omega
    have hsl : ∀ W, (Instr.slice 9 (.string t0) none (some (.int .i64 (k : Int))) none).run Tryd.prog W = .ok (.string p) W := fun W => by
      rw [run_slice_string_to_if W _ _ _ _ Tryd.underlying9, if_pos ⟨by omega, by omega⟩, hp]
      rfl
    obtain ⟨q, hq⟩ : ∃ q, q = t0.extract k t0.size := ⟨_, rfl⟩
    have hqz : q.size ≤ t0.size - k := by rw [hq, ByteArray.size_extract]; omega
    have hsl2 : ∀ W, (Instr.slice 9 (.string t0) (some (.int .i64 (k : Int))) none none).run Tryd.prog W = .ok (.string q) W := fun W => by
      rw [run_slice_string_from_if W _ _ _ _ Tryd.underlying9, if_pos ⟨by omega, by omega⟩, hq]
      rfl
    clear hp hq hs5 hR5 hO5 hq5 hk
    have hlt6 := hs6.lt
    have HD : Hid (∀ (d : ByteArray) (W : World), d.size = 1 → SrcG W g N C B A l → Only g (g + 1) w6 W → DrPl w g N C B A l (.returned (.tuple #[.int .i64 a, .int .i64 b, .slice A5 n c, .string (p ++ d ++ q)])) W) := Lib.hid fun d W hd hs ho => ⟨DpP.mk_ ha hb ((hR6.onlyD ho (by omega) ho.size).mono (by omega) (Nat.le_refl _)) hn7 (by rw [ByteArray.size_append, ByteArray.size_append]; omega), hs, hO6.trans ho⟩
    have HN : Hid (∀ W, Below w6.heap.size w6 W → Calls Tryd.prog 74 #[.pointer (some ⟨g, 0, none⟩), .int .i64 6] W fun e' w' => ∃ v, e' = .returned (.int .i64 v) ∧ (0 ≤ v ∧ v < 6) ∧ SrcG w' g N C B A l ∧ Only g (g + 1) W w') := Lib.hid fun W hb => nextG_ex g N C B A l 6 W (hs6.below hb) hl hN (by decide) (by decide)
    have hsum1 : ¬ 9223372036854775807 < p.size + 1 := by omega
    have hsum2 : ¬ 9223372036854775807 < p.size + 1 + q.size := by omega
    have HV : Hid (∀ v : Int, 0 ≤ v → v < 6 → ∃ d : ByteArray, d.size = 1 ∧ sixS[v.toNat]? = some d) := Lib.hid fun v h0 h1 => by
      have h : v = 0 ∨ v = 1 ∨ v = 2 ∨ v = 3 ∨ v = 4 ∨ v = 5 := by omega
      rcases h with rfl | rfl | rfl | rfl | rfl | rfl <;> exact ⟨_, rfl, rfl⟩
    have HA : Hid (∀ (W W3 : World) (v : Int) (d : ByteArray), sixS[v.toNat]? = some d → Only g (g + 1) W W3 → W.heap[w6.heap.size]? = some (.cells (sixS.map Value.string).toArray 9 (0, 0)) → W3.cell? ⟨w6.heap.size, v.toNat, none⟩ = some (.string d)) := Lib.hid fun W W3 v d hd ho hW => by
      have hlt : w6.heap.size < W.heap.size := (Array.getElem?_eq_some_iff.1 hW).1
      rw [World.cell?_of_block (ho.block w6.heap.size hlt (.inr (by omega))), cell_of_row W _ v.toNat _ _ (0, 0) hW]
      simp [hd]
    have hB6 : SrcG w6 g N C B A l := hs6
    go_wp2_with fail
    go_region_law ((go_simp; go_at_call 74; refine (HN.out _ (by repeat (first | exact Below.refl _ _ | apply below_drewN' | apply Below.drew | (refine Below.alloc ?_ (Nat.le_refl _) _)))).mono ?_; rintro e w7 ⟨v, rfl, ⟨hv0, hv1⟩, hs7, hq7⟩; obtain ⟨d, hdz, hdv⟩ := HV.out v hv0 hv1; have HDV := Lib.hid hdv; clear hdv; have hcB := six_at v.toNat d HDV.out; (try (have hcA := HA.out _ w7 v d HDV.out hq7 (by first | exact heap_alloc_new w6 _ | exact heap_alloc_new w6.drew _ | exact heap_alloc_new (w6.drewN 1) _)))))
    all_goals
      go_wp2_with fail
      ((try simp only [Exit.inBlock, Exit.then]); refine bodyPost_ret (four_resultsD rfl _ _ _) rfl ?_)
      first
        | exact HD.out d _ hdz hs7 ((Only.of_below ((Below.refl _ _).drew.alloc (Nat.le_refl _) _) _ _).trans hq7)
        | exact HD.out d _ hdz hs7 ((Only.of_below (((Below.refl _ _).alloc (Nat.le_refl _) _).drew) _ _).trans hq7)
        | exact HD.out d _ hdz (hs7.below ((Below.refl _ _).alloc (Nat.le_refl _) _)) ((Only.refl _ _ _).drew.trans (hq7.trans (Only.of_below ((Below.refl _ _).alloc (Nat.le_refl _) _) _ _)))
  subst hr0
  obtain ⟨Wd, rfl⟩ : ∃ Wd : Nat, a = (Wd : Int) := ⟨a.toNat, by omega⟩
  obtain ⟨Hd, rfl⟩ : ∃ Hd : Nat, b = (Hd : Int) := ⟨b.toNat, by omega⟩
  have hdt : Calls Tryd.prog 80 #[.pointer (some ⟨g, 0, none⟩), .int .i64 Wd, .int .i64 Hd, .int .i64 n, .int .i64 3] w3 fun e' w' => DtP 3 w3 g N C B A l e' w' := drawDt_any g N C B n A l hl hN ⟨hab.2, hn7⟩ 3 Wd Hd w3 (by omega) (by omega) (by omega) hs3
  go_wp2_with fail
  refine hdt.mono ?_
  rintro e w4 ⟨t, rfl, ht57, hs4, hq4⟩
  have ht : t.size ≤ 12800 := Nat.le_trans ht57 (by decide)
  have hO4 : Only g (g + 1) w w4 := hO3.trans hq4
  have ho4 := ho3.onlyD hq4 (by have := hs4.lt; omega) hq4.size
  have z4 := hq4.size
  clear hs3 hO3 ho3 hq4 hdt ht57
  go_wp2_with fail
  refine (nextG_ex g N C B A l 5 _ hs4 hl hN (by decide) (by decide)).mono ?_
  rintro e w5 ⟨u, rfl, hu, hs5, hq5⟩
  have hO5 : Only g (g + 1) w w5 := hO4.trans hq5
  have hR5 := ho4.onlyD hq5 (by have := hs5.lt; omega) hq5.size
  by_cases hu0 : u = 0
  rotate_left
  · have hu0B : (u == 0) = false := by simpa using hu0
    have HE := Lib.hid (show DrPl w g N C B A l (.returned (.tuple #[.int .i64 Wd, .int .i64 Hd, .slice A5 n c, .string t])) w5 from ⟨DpP.mk_ ha hb (hR5.mono (by omega) (Nat.le_refl _)) hn7 (by omega), hs5, hO5⟩)
    clear hs5 hO5 hR5 hq5
    go_wp2_with fail
    ((try simp only [Exit.inBlock, Exit.then]); refine bodyPost_ret (four_resultsD rfl _ _ _) rfl ?_)
    exact HE.out
  subst hu0
  have yt : IntKind.i64.wrap ((t.size : Int) + 1) = (t.size : Int) + 1 := IntWalk.i64_in _ (by omega)
  go_wp2_with fail
  refine (nextG_ex g N C B A l ((t.size : Int) + 1) _ hs5 hl hN (by omega) (by omega)).mono ?_
  rintro e w6 ⟨k, rfl, hk, hs6, hq6⟩
  obtain ⟨k, rfl⟩ := Int.eq_ofNat_of_zero_le hk.1
  have hkt : k ≤ t.size := by omega
  have hO6 : Only g (g + 1) w w6 := hO5.trans hq6
  have hR6 := hR5.onlyD hq6 (by have := hs6.lt; omega) hq6.size
  obtain ⟨p, hp⟩ : ∃ p, p = t.extract 0 k := ⟨_, rfl⟩
  have hpz : p.size ≤ k := by rw [hp, ByteArray.size_extract]; omega
  have hsl : ∀ W, (Instr.slice 9 (.string t) none (some (.int .i64 (k : Int))) none).run Tryd.prog W = .ok (.string p) W := fun W => by
    rw [run_slice_string_to_if W _ _ _ _ Tryd.underlying9, if_pos ⟨by omega, by omega⟩, hp]
    rfl
  obtain ⟨q, hq⟩ : ∃ q, q = t.extract k t.size := ⟨_, rfl⟩
  have hqz : q.size ≤ t.size - k := by rw [hq, ByteArray.size_extract]; omega
  have hsl2 : ∀ W, (Instr.slice 9 (.string t) (some (.int .i64 (k : Int))) none none).run Tryd.prog W = .ok (.string q) W := fun W => by
    rw [run_slice_string_from_if W _ _ _ _ Tryd.underlying9, if_pos ⟨by omega, by omega⟩, hq]
    rfl
  clear hp hq hs5 hR5 hO5 hq5 hk
  have hlt6 := hs6.lt
  have HD : Hid (∀ (d : ByteArray) (W : World), d.size = 1 → SrcG W g N C B A l → Only g (g + 1) w6 W → DrPl w g N C B A l (.returned (.tuple #[.int .i64 Wd, .int .i64 Hd, .slice A5 n c, .string (p ++ d ++ q)])) W) := Lib.hid fun d W hd hs ho => ⟨DpP.mk_ ha hb ((hR6.onlyD ho (by omega) ho.size).mono (by omega) (Nat.le_refl _)) hn7 (by rw [ByteArray.size_append, ByteArray.size_append]; omega), hs, hO6.trans ho⟩
  have HN : Hid (∀ W, Below w6.heap.size w6 W → Calls Tryd.prog 74 #[.pointer (some ⟨g, 0, none⟩), .int .i64 6] W fun e' w' => ∃ v, e' = .returned (.int .i64 v) ∧ (0 ≤ v ∧ v < 6) ∧ SrcG w' g N C B A l ∧ Only g (g + 1) W w') := Lib.hid fun W hb => nextG_ex g N C B A l 6 W (hs6.below hb) hl hN (by decide) (by decide)
  have hsum1 : ¬ 9223372036854775807 < p.size + 1 := by omega
  have hsum2 : ¬ 9223372036854775807 < p.size + 1 + q.size := by omega
  have HV : Hid (∀ v : Int, 0 ≤ v → v < 6 → ∃ d : ByteArray, d.size = 1 ∧ sixS[v.toNat]? = some d) := Lib.hid fun v h0 h1 => by
    have h : v = 0 ∨ v = 1 ∨ v = 2 ∨ v = 3 ∨ v = 4 ∨ v = 5 := by omega
    rcases h with rfl | rfl | rfl | rfl | rfl | rfl <;> exact ⟨_, rfl, rfl⟩
  have HA : Hid (∀ (W W3 : World) (v : Int) (d : ByteArray), sixS[v.toNat]? = some d → Only g (g + 1) W W3 → W.heap[w6.heap.size]? = some (.cells (sixS.map Value.string).toArray 9 (0, 0)) → W3.cell? ⟨w6.heap.size, v.toNat, none⟩ = some (.string d)) := Lib.hid fun W W3 v d hd ho hW => by
    have hlt : w6.heap.size < W.heap.size := (Array.getElem?_eq_some_iff.1 hW).1
    rw [World.cell?_of_block (ho.block w6.heap.size hlt (.inr (by omega))), cell_of_row W _ v.toNat _ _ (0, 0) hW]
    simp [hd]
  have hB6 : SrcG w6 g N C B A l := hs6
  go_wp2_with fail
  go_region_law ((go_simp; go_at_call 74; refine (HN.out _ (by repeat (first | exact Below.refl _ _ | apply below_drewN' | apply Below.drew | (refine Below.alloc ?_ (Nat.le_refl _) _)))).mono ?_; rintro e w7 ⟨v, rfl, ⟨hv0, hv1⟩, hs7, hq7⟩; obtain ⟨d, hdz, hdv⟩ := HV.out v hv0 hv1; have HDV := Lib.hid hdv; clear hdv; have hcB := six_at v.toNat d HDV.out; (try (have hcA := HA.out _ w7 v d HDV.out hq7 (by first | exact heap_alloc_new w6 _ | exact heap_alloc_new w6.drew _ | exact heap_alloc_new (w6.drewN 1) _)))))
  all_goals
    go_wp2_with fail
    ((try simp only [Exit.inBlock, Exit.then]); refine bodyPost_ret (four_resultsD rfl _ _ _) rfl ?_)
    first
      | exact HD.out d _ hdz hs7 ((Only.of_below ((Below.refl _ _).drew.alloc (Nat.le_refl _) _) _ _).trans hq7)
      | exact HD.out d _ hdz hs7 ((Only.of_below (((Below.refl _ _).alloc (Nat.le_refl _) _).drew) _ _).trans hq7)
      | exact HD.out d _ hdz (hs7.below ((Below.refl _ _).alloc (Nat.le_refl _) _)) ((Only.refl _ _ _).drew.trans (hq7.trans (Only.of_below ((Below.refl _ _).alloc (Nat.le_refl _) _) _ _)))
end Go.Proofs.YtbhofhobnbhhhaaDoor
namespace Go.Proofs.YtbhofhobnbhhhaaDoor
open Go.RowKit
set_option linter.unusedVariables false

theorem OwnS.capK {w : World} {lo hi n c : Nat} {A : Option Addr} {l : List Kd} (h : OwnS Kd.S w lo hi (.slice A n c) l) : n ≤ c := by
  obtain ⟨A', c', e, h1⟩ := h.form
  injection e with _ e1 e2
  rw [e1, e2]
  exact h1
def DbF (w : World) (e' : Ending) (w' : World) : Prop := ∃ (a b : Int) (A : Option Addr) (n c : Nat) (li : List Kd), e' = .returned (.tuple #[.int .i64 a, .int .i64 b, .slice A n c]) ∧ (-1 ≤ a ∧ a ≤ 41) ∧ (-1 ≤ b ∧ b ≤ 41) ∧ RdS Kd.S w' w'.heap.size A n li ∧ n ≤ 7 ∧ n ≤ c ∧ Below w.heap.size w w'
def DvF (w : World) (e' : Ending) (w' : World) : Prop := ∃ (a b : Int) (A : Option Addr) (n c : Nat) (li : List Kd) (t : ByteArray), e' = .returned (.tuple #[.int .i64 a, .int .i64 b, .slice A n c, .string t]) ∧ (-1 ≤ a ∧ a ≤ 41) ∧ (-1 ≤ b ∧ b ≤ 41) ∧ RdS Kd.S w' w'.heap.size A n li ∧ n ≤ 7 ∧ n ≤ c ∧ t.size ≤ 13000 ∧ Below w.heap.size w w'
set_option maxRecDepth 100000 in
set_option maxHeartbeats 4000000 in
theorem DrawBestPlan_any (N C B : Nat) (A : Option Addr) (l : List Int) (w : World) (hc : Rd U w B A N l) (hl : inByte l) (hB : B ≤ w.heap.size) (hN : N ≤ 1048576) :
    Calls Tryd.prog 12 #[.slice A N C] w fun e' w' => DbF w e' w' := by
  go_enter Tryd.func12, Tryd.ntmps12
  go_wp2_with fail
  refine (l01From_ex N C B A l w hc hl hB).mono ?_
  rintro e w1 ⟨g, rfl, hg, hs1, hb1⟩
  have hc1 := hc.below hb1 hB
  have z1 := hb1.size
  go_wp2_with fail
  refine (drawKd_any g N C B A l w1 ⟨hs1, hc1, by omega⟩ hl hN).mono ?_
  rintro e w2 ⟨a, b, A5, n, c, li, rfl, ha, hb, ho, hn, hs2, hq2⟩
  have HE := Lib.hid (show DbF w (.returned (.tuple #[.int .i64 a, .int .i64 b, .slice A5 n c])) w2 from ⟨a, b, A5, n, c, li, rfl, ha, hb, ho.rd, hn, ho.capK, hb1.trans (hq2.below (by omega) (by omega))⟩)
  clear ho hs2 hq2 hs1 hb1 hc1
  go_wp2_with fail
  go_ret3
  exact HE.out
set_option maxRecDepth 100000 in
set_option maxHeartbeats 4000000 in
theorem DrawPlanValue_any (N C B : Nat) (A : Option Addr) (l : List Int) (w : World) (hc : Rd U w B A N l) (hl : inByte l) (hB : B ≤ w.heap.size) (hN : N ≤ 1048576) :
    Calls Tryd.prog 24 #[.slice A N C] w fun e' w' => DvF w e' w' := by
  go_enter Tryd.func24, Tryd.ntmps24
  go_wp2_with fail
  refine (l01From_ex N C B A l w hc hl hB).mono ?_
  rintro e w1 ⟨g, rfl, hg, hs1, hb1⟩
  have hc1 := hc.below hb1 hB
  have z1 := hb1.size
  go_wp2_with fail
  refine (drawPl_any g N C B A l w1 ⟨hs1, hc1, by omega⟩ hl hN).mono ?_
  rintro e w2 ⟨⟨a, b, A5, n, c, li, t, rfl, ha, hb, ho, hn, ht⟩, hs2, hq2⟩
  have HE := Lib.hid (show DvF w (.returned (.tuple #[.int .i64 a, .int .i64 b, .slice A5 n c, .string t])) w2 from ⟨a, b, A5, n, c, li, t, rfl, ha, hb, ho.rd, hn, ho.capK, ht, hb1.trans (hq2.below (by omega) (by omega))⟩)
  clear ho hs2 hq2 hs1 hb1 hc1
  go_wp2_with fail
  ((try simp only [Exit.inBlock, Exit.then]); refine bodyPost_ret (four_resultsD rfl _ _ _) rfl ?_)
  exact HE.out
end Go.Proofs.YtbhofhobnbhhhaaDoor
namespace Go.Proofs.YtbhofhobnbhhhaaDoor
end Go.Proofs.YtbhofhobnbhhhaaDoor
namespace Go.Proofs.YtbhofhobnbhhhaaDoor
end Go.Proofs.YtbhofhobnbhhhaaDoor
namespace Go.Proofs.YtbhofhobnbhhhaaDoor
open Go.RowKit
set_option linter.unusedVariables false
namespace Bc
theorem div_more {W p : Int} (hp : 1 ≤ p) : W / p = (W - p) / p + 1 := by
  have h := Int.add_mul_ediv_right (W - p) 1 (c := p) (by omega)
  rw [Int.one_mul, Int.sub_add_cancel] at h
  exact h
theorem div_small {W p : Int} (h0 : 0 ≤ W) (h : W < p) : W / p = 0 := Int.ediv_eq_zero_of_lt h0 h
theorem grid_le {l : List Kd} (hl : ∀ k ∈ l, okK k = true) {k : Nat} {x : Kd} (hx : l[k]? = some x) : ∀ (s W H : Nat), W + H ≤ s → (W : Int) / x.w * ((H : Int) / x.h) * x.v ≤ V l W H := by
  have hk := okK_iff.1 (hl x (List.mem_of_getElem? hx))
  have hkl := (List.getElem?_eq_some_iff.1 hx).1
  intro s
  induction s with
  | zero =>
    intro W H hs
    have hV := (V_bd hl (W + H) W H (Nat.le_refl _)).1
    rw [div_small (W := (W : Int)) (by omega) (by omega), Int.zero_mul, Int.zero_mul]
    exact hV
  | succ s ih =>
    intro W H hs
    have hV := (V_bd hl (W + H) W H (Nat.le_refl _)).1
    by_cases hW : (W : Int) < x.w
    · rw [div_small (by omega) hW, Int.zero_mul, Int.zero_mul]
      exact hV
    by_cases hH : (H : Int) < x.h
    · rw [div_small (W := (H : Int)) (by omega) hH, Int.mul_zero, Int.zero_mul]
      exact hV
    obtain ⟨p, hp⟩ : ∃ p : Nat, x.w = (p : Int) := ⟨x.w.toNat, by omega⟩
    obtain ⟨q, hq⟩ : ∃ q : Nat, x.h = (q : Int) := ⟨x.h.toNat, by omega⟩
    rw [hp, hq] at ih ⊢
    by_cases hW2 : p < W
    · have h1 := ih p H (by omega)
      have h2 := ih (W - p) H (by omega)
      have h3 := V_ver (ks := l) (W := W) (H := H) (x := p) (by omega) (by omega) hW2
      have e1 : (p : Int) / (p : Int) = 1 := Int.ediv_self (by omega)
      have e2 := div_more (W := (W : Int)) (p := (p : Int)) (by omega)
      have e3 : ((W - p : Nat) : Int) = (W : Int) - (p : Int) := by omega
      rw [e1, Int.one_mul] at h1
      rw [e3] at h2
      rw [e2, Int.add_mul, Int.add_mul, Int.one_mul]
      omega
    · obtain rfl : W = p := by omega
      have e1 : (W : Int) / (W : Int) = 1 := Int.ediv_self (by omega)
      rw [e1, Int.one_mul]
      by_cases hH2 : q < H
      · have h1 := ih W q (by omega)
        have h2 := ih W (H - q) (by omega)
        have h3 := V_hor (ks := l) (W := W) (H := H) (y := q) (by omega) (by omega) hH2
        have e3 : (q : Int) / (q : Int) = 1 := Int.ediv_self (by omega)
        have e2 := div_more (W := (H : Int)) (p := (q : Int)) (by omega)
        have e4 : ((H - q : Nat) : Int) = (H : Int) - (q : Int) := by omega
        rw [e1, e3, Int.one_mul, Int.one_mul] at h1
        rw [e1, e4, Int.one_mul] at h2
        rw [e2, Int.add_mul, Int.one_mul]
        omega
      · obtain rfl : H = q := by omega
        have e3 : (H : Int) / (H : Int) = 1 := Int.ediv_self (by omega)
        rw [e3, Int.one_mul]
        have h1 := fitT_in (W := W) (H := H) hx l.length hkl (Nat.le_refl _)
        have h2 := V_fit (ks := l) (W := W) (H := H) (by omega)
        have h3 : fitV W H x = x.v := by unfold fitV; rw [if_pos ⟨by omega, by omega⟩]
        omega
theorem bkT_le {l : List Kd} {w h : Int} {m : Int} (hm : ∀ (k : Nat) (x : Kd), l[k]? = some x → kv w h x ≤ m) (h0 : 0 ≤ m) : ∀ n, n ≤ l.length → (bkT w h l n).2 ≤ m
  | 0, _ => by show (-1 : Int) ≤ m; omega
  | n + 1, hn => by
    have hx : l[n]? = some l[n] := List.getElem?_eq_getElem (by omega)
    have h1 := bkT_le hm h0 n (by omega)
    have h2 := hm n _ hx
    by_cases hlt : (bkT w h l n).2 < kv w h l[n]
    · rw [bkT_lt hx rfl hlt]
      exact h2
    · rw [bkT_ge hx rfl hlt]
      exact h1
/-- No kind's grid has more value than the best value. -/
theorem bk_le {w h : Int} {l : List Kd} (hc : code w h l = 0) : bkV w h l ≤ V l w.toNat h.toNat := by
  obtain ⟨hok, hos⟩ := code0 hc
  have hs := okS_iff.1 hos
  have hl := (okL_iff.1 hok).1
  unfold bkV
  rw [if_pos hc]
  refine bkT_le (fun k x hx => ?_) (V_bd hl _ _ _ (Nat.le_refl _)).1 _ (Nat.le_refl _)
  have h1 := grid_le hl hx (w.toNat + h.toNat) w.toNat h.toNat (Nat.le_refl _)
  rw [Int.toNat_of_nonneg (by omega), Int.toNat_of_nonneg (by omega)] at h1
  exact h1
theorem densest {l : List Kd} (hl : ∀ k ∈ l, okK k = true) (h : l ≠ []) : ∃ x ∈ l, ∀ y ∈ l, y.v * (x.w * x.h) ≤ x.v * (y.w * y.h) := by
  induction l with
  | nil => exact absurd rfl h
  | cons a l ih =>
    cases l with
    | nil => exact ⟨a, by simp, fun y hy => by simp at hy; subst hy; exact Int.le_refl _⟩
    | cons b t =>
      obtain ⟨x, hx, hd⟩ := ih (fun k hk => hl k (by simp [hk])) (by simp)
      have ha := okK_iff.1 (hl a (by simp))
      have hx' := okK_iff.1 (hl x (by simp at hx ⊢; exact .inr hx))
      have pa : 1 ≤ a.w * a.h := by have := Int.mul_le_mul (a := 1) (b := 1) (c := a.w) (d := a.h) (by omega) (by omega) (by omega) (by omega); omega
      have px : 1 ≤ x.w * x.h := by have := Int.mul_le_mul (a := 1) (b := 1) (c := x.w) (d := x.h) (by omega) (by omega) (by omega) (by omega); omega
      rcases Int.le_total (a.v * (x.w * x.h)) (x.v * (a.w * a.h)) with h1 | h1
      · refine ⟨x, by simp at hx ⊢; exact .inr hx, fun y hy => ?_⟩
        rcases List.mem_cons.1 hy with rfl | hy
        · exact h1
        · exact hd y hy
      · refine ⟨a, by simp, fun y hy => ?_⟩
        rcases List.mem_cons.1 hy with rfl | hy
        · exact Int.le_refl _
        · have h2 := hd y hy
          have hy' := okK_iff.1 (hl y (by simp at hy ⊢; exact .inr hy))
          have py : 1 ≤ y.w * y.h := by have := Int.mul_le_mul (a := 1) (b := 1) (c := y.w) (d := y.h) (by omega) (by omega) (by omega) (by omega); omega
          generalize a.w * a.h = A at *
          generalize x.w * x.h = X at *
          generalize y.w * y.h = Y at *
          -- y.v X ≤ x.v Y and x.v A ≤ a.v X: so y.v A X ≤ x.v Y A ≤ a.v X Y
          have h3 := Int.mul_le_mul_of_nonneg_right (c := A) h2 (by omega)
          have h4 := Int.mul_le_mul_of_nonneg_right (c := Y) h1 (by omega)
          have e1 : x.v * Y * A = x.v * A * Y := by rw [Int.mul_assoc, Int.mul_comm Y A, ← Int.mul_assoc]
          have e2 : y.v * X * A = y.v * A * X := by rw [Int.mul_assoc, Int.mul_comm X A, ← Int.mul_assoc]
          have e3 : a.v * X * Y = a.v * Y * X := by rw [Int.mul_assoc, Int.mul_comm X Y, ← Int.mul_assoc]
          have h5 : y.v * A * X ≤ a.v * Y * X := by omega
          exact Int.le_of_mul_le_mul_right h5 (by omega)
theorem V_dense {l : List Kd} (hl : ∀ k ∈ l, okK k = true) {x : Kd} (hx : x ∈ l) (hd : ∀ y ∈ l, y.v * (x.w * x.h) ≤ x.v * (y.w * y.h)) : ∀ (s W H : Nat), W + H ≤ s → V l W H * (x.w * x.h) ≤ x.v * ((W : Int) * H) := by
  have hk := okK_iff.1 (hl x hx)
  intro s
  induction s with
  | zero =>
    intro W H hs
    rw [V_zero l (by omega), Int.zero_mul]
    exact Int.mul_nonneg (by omega) (Int.mul_nonneg (by omega) (by omega))
  | succ s ih =>
    intro W H hs
    by_cases h0 : V l W H = 0
    · rw [h0, Int.zero_mul]
      exact Int.mul_nonneg (by omega) (Int.mul_nonneg (by omega) (by omega))
    · have hz : ¬ (W = 0 ∨ H = 0) := fun h => h0 (V_zero l h)
      rcases V_from h0 with ⟨k, y, hy, hw, hh, hv⟩ | ⟨c, h1, h2, hc⟩ | ⟨c, h1, h2, hc⟩
      · have h1 := hd y (List.mem_of_getElem? hy)
        have hy' := okK_iff.1 (hl y (List.mem_of_getElem? hy))
        have h2 := Int.mul_le_mul (a := y.w) (b := y.h) (c := (W : Int)) (d := (H : Int)) hw hh (by omega) (by omega)
        have h3 := Int.mul_le_mul_of_nonneg_left (c := x.v) h2 (by omega)
        rw [← hv]
        omega
      · have i1 := ih c H (by omega)
        have i2 := ih (W - c) H (by omega)
        unfold hitX at hc
        rw [← hc, Int.add_mul]
        have e := mul_split x.v c W H (by omega)
        omega
      · have i1 := ih W c (by omega)
        have i2 := ih W (H - c) (by omega)
        unfold hitY at hc
        rw [← hc, Int.add_mul]
        have e := mul_split' x.v c W H (by omega)
        omega
theorem dnT_in {l : List Kd} {w h : Int} {k : Nat} {x : Kd} (hx : l[k]? = some x) : ∀ n, k < n → n ≤ l.length → dv w h x ≤ dnT w h l n
  | 0, hk, _ => by omega
  | n + 1, hk, hn => by
    have hy : l[n]? = some l[n] := List.getElem?_eq_getElem (by omega)
    rw [dnT_next hy rfl]
    rcases Nat.lt_or_ge k n with h1 | h1
    · have := dnT_in (w := w) (h := h) hx n h1 (by omega)
      omega
    · obtain rfl : k = n := by omega
      rw [hx] at hy
      injection hy with hy
      rw [← hy]
      omega
/-- The best value is within the density bound. -/
theorem V_dn {w h : Int} {l : List Kd} (hc : code w h l = 0) : V l w.toNat h.toNat ≤ dnR w h l := by
  obtain ⟨hok, hos⟩ := code0 hc
  have hs := okS_iff.1 hos
  have hll := okL_iff.1 hok
  obtain ⟨x, hx, hd⟩ := densest hll.1 (fun e => by rw [e] at hll; simp at hll)
  obtain ⟨k, hk⟩ := List.getElem?_of_mem hx
  have h1 := V_dense hll.1 hx hd (w.toNat + h.toNat) w.toNat h.toNat (Nat.le_refl _)
  rw [Int.toNat_of_nonneg (by omega), Int.toNat_of_nonneg (by omega)] at h1
  have hk' := okK_iff.1 (hll.1 x hx)
  have px : 1 ≤ x.w * x.h := by have := Int.mul_le_mul (a := 1) (b := 1) (c := x.w) (d := x.h) (by omega) (by omega) (by omega) (by omega); omega
  have h2 := dnT_in (w := w) (h := h) hk l.length (List.getElem?_eq_some_iff.1 hk).1 (Nat.le_refl _)
  unfold dnR
  rw [if_pos hc]
  refine Int.le_trans ?_ h2
  unfold dv
  refine (Int.le_ediv_iff_mul_le (by omega)).2 ?_
  rw [Int.mul_comm (w * h) x.v]
  exact h1
end Bc
end Go.Proofs.YtbhofhobnbhhhaaDoor
namespace Go.Proofs.YtbhofhobnbhhhaaDoor
open Go.RowKit

theorem big_any (A : Option Addr) (N C : Nat) (w : World) :
    Calls Tryd.prog 11 #[.slice A N C] w fun e w' => e = .returned (.bool (decide (4096 < N))) ∧ w = w' := by
  go_enter Tryd.func11, Tryd.ntmps11
  go_wp2
  go_ret
  exact ⟨ret_b (by simp; omega), rfl⟩

set_option maxHeartbeats 400000 in
/-- likeInts of two slices that read as one list: true. -/
theorem likeInts_true (A A' : Option Addr) (n c c' B B' : Nat) (l : List Int) (w : World) (h : Rd I w B A n l) (h' : Rd I w B' A' n l) (hn : n ≤ 1048576) :
    Calls Tryd.prog 30 #[.slice A n c, .slice A' n c'] w fun e w' => e = .returned (.bool true) ∧ Q w w' := by
  go_enter Tryd.func30, Tryd.ntmps30
  go_wp2
  go_loopw [5] (fun i wr => ∃ k : Nat, k ≤ n ∧ i = .int .i64 k ∧ Q w wr) (fun i _ => n - (intOf i).toNat)
  case atStart => exact ⟨0, Nat.zero_le _, rfl, Q.refl _⟩
  case round =>
    obtain ⟨k, hk, rfl, hq⟩ := hrel
    have h := h.q hq
    have h' := h'.q hq
    by_cases hlt : k < n
    · obtain ⟨b, o, x, rfl, hbB, hx, hc⟩ := h.at_ hlt
      obtain ⟨b', o', x', rfl, hbB', hx', hc'⟩ := h'.at_ hlt
      obtain rfl : x = x' := by rw [hx] at hx'; injection hx'
      clear hx hx'
      go_wp2
      go_quiet (fail)
      go_wp2
      go_roundw
      case rel => exact ⟨k + 1, by omega, by go_num, hq.more _⟩
      case measure => simp [intOf]; omega
    · obtain rfl : k = n := by omega
      go_wp2
      go_ret
      exact ⟨rfl, hq⟩

def sumOf : List Int → Int
  | [] => 0
  | x :: r => x + sumOf r
theorem sumOf_app (a b : List Int) : sumOf (a ++ b) = sumOf a + sumOf b := by
  induction a with
  | nil => simp [sumOf]
  | cons x r ih => simp [sumOf, ih]; omega
theorem sumOf_bd (l : List Int) (h : ∀ x ∈ l, -1099511627776 ≤ x ∧ x ≤ 1099511627776) : -1099511627776 * (l.length : Int) ≤ sumOf l ∧ sumOf l ≤ 1099511627776 * (l.length : Int) := by
  induction l with
  | nil => simp [sumOf]
  | cons x r ih =>
    have h1 := h x (by simp)
    have h2 := ih fun y hy => h y (by simp [hy])
    simp only [sumOf, List.length_cons]
    omega

theorem sumOf_sum (l : List Int) : sumOf l = l.sum := by
  induction l with
  | nil => rfl
  | cons a l ih => simp [sumOf, ih]
end Go.Proofs.YtbhofhobnbhhhaaDoor
