/- Contracts of the program's map from cells to places, and of LeafOf, the program's and the model's. -/
import Derived.Test.YtcagljdebplmcaaFoCe
import Derived.Test.YtcagljdebplmcaaFoLs
import Derived.Maps.OwnOps
import Derived.Maps.OwnSet
import Derived.DeepKeys4
namespace Go.Proofs.Ytcagljdebplmcaa
open Go.RowKit Go.Maps Go.Shelf

theorem laidOutM : laidOutB Try.prog = true := by kernel_rfl
set_option maxRecDepth 100000 in
theorem rowLf : (37 : TypeId) < Try.prog.types.size := of_decide_eq_true (by kernel_rfl)
theorem keyTyLf : Try.prog.keyTypeAt (Try.prog.types.size + 1) 37 = true := by kernel_rfl
set_option maxRecDepth 100000 in
theorem wideLf : (match Try.prog.underlying 37 with | some (.array _ _) | some (.struct _) => true | _ => false) = true := by kernel_rfl
set_option maxRecDepth 100000 in
theorem lawLf : Keyed Try.prog 37 := Keyed.of_law (deep_law_laid laidOutM (m := 3) (by omega) rowLf (by kernel_rfl) wideLf)
theorem zeroI (w : World) : (zeroValue 2).run Try.prog w = .ok (.int .i64 0) w := by kernel_rfl
theorem cellsLf : Try.prog.cellsOf 37 = 4 := by kernel_rfl
theorem cellsI : Try.prog.cellsOf 2 = 1 := by kernel_rfl
theorem cellsB : Try.prog.cellsOf 4 = 1 := by kernel_rfl
set_option maxRecDepth 100000 in
theorem typesSz : ∃ m, Try.prog.types.size = m + 1 := ⟨_, (Nat.succ_pred_eq_of_pos (Nat.lt_of_le_of_lt (Nat.zero_le _) rowLf)).symm⟩
/-- A cell as a key. -/
abbrev kv (x y : Int) : Value := .agg #[.int .i64 x, .int .i64 y, .bool false, .bool false]
set_option maxRecDepth 100000 in
theorem keyLf (x y : Int) (hx : (Lit.int .i64 x).wf = true) (hy : (Lit.int .i64 y).wf = true) : ∃ kl, keyOf Try.prog 37 (kv x y) = some kl := by
  obtain ⟨m, hm⟩ := typesSz
  have hk : Try.prog.keyType 37 = true := keyTyLf
  have hf : (kv x y).formed Try.prog 37 = true := by simp [Value.formed, Try.underlying37, cellsLf]
  unfold keyOf
  rw [Try.underlying37]
  simp only [hk, hf, Bool.and_self, if_true, hm]
  simp [Program.keyLits, Try.underlying37, Try.underlying2, Try.underlying4, cellsLf, cellsI, cellsB, Value.cells, hx, hy]

/-- What the map holds after k leaves. -/
def Inv (l : List UInt8) (D : DataW Unit) (k : Nat) : Prop :=
  IsMap D ∧ ∀ (x y : Int) (kl : Lit), keyOf Try.prog 37 (kv x y) = some kl →
    (∃ j, j < k ∧ cellX l j = x ∧ cellY l j = y ∧ Maps.has D kl = true ∧ ∀ z, D.atKey kl z = .lit (.int .i64 (j : Int))) ∨ ((∀ j, j < k → ¬ (cellX l j = x ∧ cellY l j = y)) ∧ Maps.has D kl = false)
theorem Inv.zero (l : List UInt8) : Inv l (.map []) 0 := ⟨isMap_empty, fun x y kl _ => .inr ⟨fun j h => by omega, rfl⟩⟩
theorem kv_inj {x y x' y' : Int} (h : kv x y = kv x' y') : x = x' ∧ y = y' := by simpa using h
set_option maxRecDepth 100000 in
theorem Inv.step {l : List UInt8} {D : DataW Unit} {k : Nat} {kl : Lit} (h : Inv l D k) (hk : keyOf Try.prog 37 (kv (cellX l k) (cellY l k)) = some kl) : Inv l (D.put kl (.lit (.int .i64 (k : Int)))) (k + 1) := by
  refine ⟨h.1.put _ _, fun x y kl' hk' => ?_⟩
  by_cases he : cellX l k = x ∧ cellY l k = y
  · obtain ⟨rfl, rfl⟩ := he
    obtain rfl : kl' = kl := by rw [hk] at hk'; injection hk' with h'; exact h'.symm
    exact .inl ⟨k, by omega, rfl, rfl, has_put_same h.1 (lawLf.key hk) _, fun z => atKey_put_same h.1 (lawLf.key hk) _ _⟩
  · have hne : kl' ≠ kl := fun e => he (kv_inj (lawLf.inj hk (by rw [← e]; exact hk')))
    rcases h.2 x y kl' hk' with ⟨j, h1, h2, h3, h4, h5⟩ | ⟨h1, h2⟩
    · exact .inl ⟨j, by omega, h2, h3, by rw [has_put_other hne]; exact h4, fun z => by rw [atKey_put_other hne]; exact h5 z⟩
    · refine .inr ⟨fun j hj => ?_, by rw [has_put_other hne]; exact h2⟩
      rcases Nat.lt_or_ge j k with hlt | hge
      · exact h1 j hlt
      · obtain rfl : j = k := by omega
        exact he
theorem below_grownM {W W' : World} (h : Below W.heap.size W W') : W.grownBy W' none := ⟨h.os, h.tape, h.output, h.size, fun k hk _ => h.block k hk⟩
theorem OwnV.ne_map {w : World} {lo hi b n : Nat} {v : Value} {l : List Lv} {D : DataW Unit} (h : OwnV w lo hi v l) (hm : w.ownsMap Try.prog 37 (plainElem Try.prog 2) b n D) : ∀ g, v.ownBlock = some g → g ≠ b := by
  intro g hg e
  subst e
  obtain ⟨es, cl, hb, _⟩ := hm
  rcases h.1.2 with ⟨hv, _⟩ | ⟨g', cap, cur, hv, _, hgg, _⟩
  · rw [hv] at hg
    simp [Value.ownBlock] at hg
  · rw [hv] at hg
    simp only [Value.ownBlock, Option.some.injEq] at hg
    subst hg
    rw [hb] at hgg
    cases hgg

set_option maxRecDepth 100000 in
set_option maxHeartbeats 1000000 in
theorem cellPlaces_any (s : ByteArray) (w : World) (h6 : s.size ≤ 6) :
    Calls Try.prog 55 #[.string s] w fun e w' => ∃ b D, e = .returned (.map (some b)) ∧ w'.ownsMap Try.prog 37 (plainElem Try.prog 2) b (2 ^ s.size) D ∧ Inv s.data.toList D (2 ^ s.size) ∧ Below w.heap.size w w' := by
  have hmm := @run_makeMap Try.prog
  obtain ⟨N, hN⟩ : ∃ N : Nat, N = 2 ^ s.size := ⟨_, rfl⟩
  have h64 : N ≤ 64 := by rw [hN]; exact pow_le6' h6
  have HL : Hid ((LVs s.data.toList).length = N) := Lib.hid (by rw [LVs_len, toList_len, hN])
  have HN := Lib.hid hN
  rw [← hN]
  have hm0 := World.ownsMap_made (H := Unit) w Try.prog 37 (plainElem Try.prog 2)
  have hb0 : Below w.heap.size w (w.alloc (.map #[] 0)) := (Below.refl _ _).alloc (Nat.le_refl _) _
  clear hN
  go_enter Try.func55, Try.ntmps55
  go_wp2_with fail
  refine (leavesOf_any s _ h6).mono ?_
  rintro e w1 ⟨g, n, rfl, ho, hb⟩
  obtain rfl : n = N := ho.rd.1.symm.trans HL.out
  have hm1 := hm0.kept (below_grownM hb) (by simp)
  have hb1 := hb0.trans (hb.mono (by simp))
  clear hm0 hb0 hb
  go_wp2_with fail
  go_loopw [10] (fun i wr => ∃ (k : Nat) (D : DataW Unit), k ≤ n ∧ i = .int .i64 (k : Int) ∧ wr.ownsMap Try.prog 37 (plainElem Try.prog 2) w.heap.size k D ∧ Hid (Inv s.data.toList D k) ∧ OwnV wr (w.heap.size + 1) wr.heap.size (.slice (some ⟨g, 0, none⟩) n n) (LVs s.data.toList) ∧ Below w.heap.size w wr) (fun i _ => n - (intOf i).toNat)
  case atStart => exact ⟨0, _, Nat.zero_le _, rfl, hm1, Lib.hid (Inv.zero _), ho.mono (by simp) (Nat.le_refl _), hb1⟩
  case round =>
    clear hm1 hb1 ho
    obtain ⟨k, D, hk, rfl, hm, HI, ho, hb⟩ := hrel
    have hsz := hb.size
    by_cases hlt : k < n
    · obtain ⟨g', x, hg, hg1, hg2, hg3, hx, ⟨c0, c1, c2, c3⟩, hf⟩ := ho.at_ hlt
      injection hg with hg
      injection hg with hg _ _
      subst hg
      obtain ⟨hkn, hcx, hcy⟩ := LVs_cell hx
      have hin : -64 ≤ cellX s.data.toList k ∧ cellX s.data.toList k ≤ 64 ∧ -64 ≤ cellY s.data.toList k ∧ cellY s.data.toList k ≤ 64 := cell_small s.data.toList k (by rw [toList_len]; exact h6) hkn
      obtain ⟨kl, hkl⟩ := keyLf (cellX s.data.toList k) (cellY s.data.toList k) (WalkArith.wf_i64 (by omega)) (WalkArith.wf_i64 (by omega))
      have HI2 := Lib.hid (HI.out.step hkl)
      rw [← hcx, ← hcy] at hkl
      have HB := Lib.hid hb
      have HO := Lib.hid ho
      have HM := Lib.hid hm
      clear hx hcx hcy hin hf hkn hb ho hm
      go_wp2_with (at_mapUpdate; refine wpList_mapUpdate_own _ rfl _ _ _ 66 rfl 37 2 lawLf Try.underlying66 (plainElem Try.prog 2) w.heap.size k D rfl (HM.out.alloc _) (by unfold maxLen; omega) _ _ kl rfl rfl hkl (.lit (.int .i64 (k : Int))) [] (plainElem_int Try.underlying2 (WalkArith.wf_i64 (by omega))) ?_; intro w5 hm5 hg5)
      have hne := (HO.out.alloc (.cells #[.int .i64 x.x, .int .i64 x.y, .bool x.fx, .bool x.fy] 37)).ne_map (HM.out.alloc _)
      have ho5 := (HO.out.alloc (.cells #[.int .i64 x.x, .int .i64 x.y, .bool x.fx, .bool x.fy] 37)).keep fun b hb => hg5.block b ((HO.out.alloc _).lt b hb).2.2 (fun e => hne b hb (by injection e))
      have hz5 := hg5.size
      simp at hz5
      go_roundw
      case rel => exact ⟨k + 1, _, by omega, by go_num, hm5, HI2, ho5.mono (Nat.le_refl _) (by omega), (HB.out.alloc hsz _).grown hg5 (by simp; omega) (fun j hj => by cases hj; exact Nat.le_refl _)⟩
      case measure => simp [intOf]; omega
    · obtain rfl : k = n := by omega
      go_wp2
      go_ret
      exact ⟨_, _, rfl, hm, HI.out, hb⟩
end Go.Proofs.Ytcagljdebplmcaa
