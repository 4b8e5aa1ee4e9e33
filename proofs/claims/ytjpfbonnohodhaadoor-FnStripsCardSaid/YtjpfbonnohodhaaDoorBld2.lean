/- Contracts of WriteByte and String of strings.Builder over this program, at a builder that the call has made. -/
import Derived.Test.YtjpfbonnohodhaaDoorIn
import Derived.Test.YtjpfbonnohodhaaDoorShelf2
import Derived.Lib.Builder
import Derived.Maps.AppendAt
import Derived.Lib.UnsafeStr
namespace Go.Proofs.YtjpfbonnohodhaaDoor
open Go.RowKit

theorem sizeBld : (Tryd.prog.info? 64).map (·.size) = some 2 := by kernel_rfl

set_option maxHeartbeats 1000000 in
set_option maxRecDepth 100000 in
theorem copyCheck_used (b : Nat) (w : World) (h0 : w.cell? ⟨b, 0, none⟩ = some (.pointer (some ⟨b, 0, none⟩))) :
    Calls Tryd.prog 67 #[.pointer (some ⟨b, 0, none⟩)] w fun e w' => e = .returned (.tuple #[]) ∧ w = w' := by
  obtain ⟨j, hj, _⟩ := Option.map_eq_some_iff.1 sizeBld
  go_enter Tryd.func67, Tryd.ntmps67
  go_wp2
  rw [Lib.run_neq_ptr_same w _ Tryd.underlying62 hj]
  go_wp2
  go_end0
  exact ⟨rfl, rfl⟩

set_option maxHeartbeats 1000000 in
set_option maxRecDepth 100000 in
theorem copyCheck_fresh (b : Nat) (w : World) (h0 : w.cell? ⟨b, 0, none⟩ = some (.pointer none)) (hsh : w.shape? b = some (64, 2)) (hfz : w.frozen? ⟨b, 0, none⟩ = false) :
    Calls Tryd.prog 67 #[.pointer (some ⟨b, 0, none⟩)] w fun e w' => e = .returned (.tuple #[]) ∧ w' = w.setCell ⟨b, 0, none⟩ (.pointer (some ⟨b, 0, none⟩)) := by
  obtain ⟨j, hj, hjs⟩ := Option.map_eq_some_iff.1 sizeBld
  go_enter Tryd.func67, Tryd.ntmps67
  go_wp2
  rw [Lib.run_to_unsafe w ⟨b, 0, none⟩ Tryd.underlying62 Tryd.underlying101 hj (by rw [hjs]; decide) hsh (Nat.zero_lt_succ 1)]
  simp only [Result.andThen]
  rw [Oper.upon_value]
  go_wp2
  rw [run_callFunc_extern Tryd.func78 (by kernel_rfl) (by kernel_rfl) (by kernel_rfl) (e := Extern.AbiNoEscape.same) (by kernel_rfl)]
  rw [Lib.run_noEscape]
  simp only [Result.andThen]
  rw [Oper.upon_value]
  go_wp2
  rw [Lib.run_from_unsafe w ⟨b, 0, none⟩ Tryd.underlying101 Tryd.underlying62 hj hsh (by kernel_rfl)]
  simp only [Result.andThen]
  rw [Oper.upon_value]
  go_wp2
  go_end0
  exact ⟨rfl, rfl⟩

/-- The builder in block b, one of the call's own, holds the bytes l. -/
def Bld (w : World) (B b : Nat) (l : List UInt8) : Prop := Lib.IsBuilder 64 5 B b (Lib.byteCells l) w

theorem Bld.alloc {w : World} {B b : Nat} {l : List UInt8} (h : Bld w B b l) (o : Obj) : Bld (w.alloc o) B b l := by
  have key : ∀ p, Lib.BuilderAt 64 5 B b p (Lib.byteCells l) w → Lib.BuilderAt 64 5 B b p (Lib.byteCells l) (w.alloc o) := fun p hp => by
    have hlt := hp.lt
    obtain ⟨h1, v, h2, h3, h4⟩ := hp
    exact ⟨h1, v, (Below.heap_alloc w o b hlt).trans h2, h3.alloc o, h4⟩
  rcases h with h | h
  · exact .inl (key _ h)
  · exact .inr (key _ h)
theorem Bld.lt {w : World} {B b : Nat} {l : List UInt8} (h : Bld w B b l) : b < w.heap.size := by
  rcases h with h | h
  · exact h.lt
  · exact h.lt
theorem Bld.new (w : World) : Bld (w.alloc (.cells #[.pointer none, .slice none 0 0] 64)) w.heap.size w.heap.size [] :=
  .inl ⟨Nat.le_refl _, .slice none 0 0, heap_alloc_new w _, World.ownsRow_nil _ _ _ _, by simp [Value.ownBlock]⟩
/-- Blocks of another type than bytes stay, but for block b. -/
def Oth (b : Nat) (w w' : World) : Prop := ∀ g cs T, T ≠ 5 → g ≠ b → Blk w g cs T → Blk w' g cs T

theorem copyCheck_bld (B b : Nat) (l : List UInt8) (w : World) (h : Bld w B b l) :
    Calls Tryd.prog 67 #[.pointer (some ⟨b, 0, none⟩)] w fun e w' => e = .returned (.tuple #[]) ∧ Lib.BuilderAt 64 5 B b (.pointer (some ⟨b, 0, none⟩)) (Lib.byteCells l) w' ∧ Below B w w' ∧ Oth b w w' := by
  rcases h with hf | hu
  · refine (copyCheck_fresh b w hf.cell0 hf.shape hf.frozen0).mono fun e w' ⟨he, hw⟩ => ?_
    subst hw
    exact ⟨he, hf.used _, (Below.refl B w).setCell (p := ⟨b, 0, none⟩) hf.1 _, fun g cs T _ hg hb => hb.other ⟨b, 0, none⟩ _ hg⟩
  · refine (copyCheck_used b w hu.cell0).mono fun e w' ⟨he, hw⟩ => ?_
    subst hw
    exact ⟨he, hu, Below.refl B w, fun _ _ _ _ _ h => h⟩

theorem infoU : (Tryd.prog.info? 5).map (fun i => (i.zero, i.size, i.bytes)) = some (some (.int .u8 0), 1, 1) := by kernel_rfl
theorem neBU : (64 : TypeId) ≠ 5 := by decide

set_option maxHeartbeats 2000000 in
set_option maxRecDepth 100000 in
theorem writeByte_any (B b : Nat) (l : List UInt8) (x : UInt8) (w : World) (h : Bld w B b l) (hlen : l.length ≤ 1048576) (hBw : B ≤ w.heap.size) :
    Calls Tryd.prog 49 #[.pointer (some ⟨b, 0, none⟩), .int .u8 (x.toNat : Int)] w fun e w' => e = .returned .nilIface ∧ Bld w' B b (l ++ [x]) ∧ Below B w w' ∧ Oth b w w' := by
  obtain ⟨i0, hi0, hz0, hz1, hz2⟩ := info_parts infoU
  have HJ : Hid (Lib.byteCells (l ++ [x]) = Lib.byteCells l ++ [.int .u8 (x.toNat : Int)]) := by
    show _ = _
    unfold Lib.byteCells
    rw [List.map_append]
    rfl
  have HLN : Hid ((Lib.byteCells l).length = l.length) := by show _ = _; unfold Lib.byteCells; simp
  have hxl : x.toNat < 256 := x.toNat_lt
  go_enter Tryd.func49, Tryd.ntmps49
  go_wp2_with fail
  refine (copyCheck_bld B b l _ h).mono ?_
  rintro e w1 ⟨rfl, h1, hb1, ho1⟩
  obtain ⟨hBb, v, hbk, hown, hne⟩ := h1
  have hbl : Blk w1 b #[.pointer (some ⟨b, 0, none⟩), v] 64 := hbk
  have c0 := hbl.cell 0 rfl
  have c1 := hbl.cell 1 (v := v) rfl
  have hz1' := hb1.size
  rw [HLN.out] at hown
  clear hbk
  go_wp2_with (at_builtin; refine wpList_append_own _ rfl _ _ 22 rfl B 5 i0 (.int .u8 0) 1 1 Tryd.underlying22 hi0 hz0 hz1 hz2 rfl (by decide) v l.length (Lib.byteCells l) rfl (hown.alloc _) ⟨w1.heap.size, 0, none⟩ 1 1 [.int .u8 (x.toNat : Int)] rfl rfl (cell_one_new _ _ _) (by simp [Value.oneCell']) (by unfold maxLen; omega) (by omega) (by simp; omega) ?_)
  intro v2 w2 hown2 hg2' _
  have hg2 : w1.grownBy w2 v.ownBlock := ⟨hg2'.os, hg2'.tape, hg2'.output, by have := hg2'.size; simp at this; omega, fun k hk hne' => (hg2'.block k (by simp; omega) hne').trans (Below.heap_alloc w1 _ k hk)⟩
  have hbl2 : Blk w2 b #[.pointer (some ⟨b, 0, none⟩), v] 64 := (hg2.block b hbl.lt (fun e => hne e.symm)).trans hbl
  have d0 := hbl2.cell 0 rfl
  have d1 := hbl2.cell 1 (v := v) rfl
  have f1 := hbl2.free 1
  have hform : v2 = .slice none 0 0 ∨ ∃ g n c, v2 = .slice (some ⟨g, 0, none⟩) n c := by
    rcases hown2.2 with ⟨hv, _⟩ | ⟨g, c, cur, hv, _⟩
    · exact .inl hv
    · exact .inr ⟨g, _, c, hv⟩
  have hO : Hid (Bld (w2.setCell ⟨b, 1, none⟩ v2) B b (l ++ [x])) := by
    refine .inr (Lib.BuilderAt.put hBb hbl2 ?_ neBU)
    rw [HJ.out]
    have : (Lib.byteCells l ++ [Value.int .u8 (x.toNat : Int)]).length = l.length + 1 := by rw [List.length_append, HLN.out]; rfl
    rw [this]
    exact hown2
  have hBel : Hid (Below B w (w2.setCell ⟨b, 1, none⟩ v2)) := (hb1.trans ((Below.refl B w1).grown hg2 (by omega) (fun k hk => (hown.lt k hk).1))).setCell (p := ⟨b, 1, none⟩) hBb _
  have hOth : Hid (Oth b w (w2.setCell ⟨b, 1, none⟩ v2)) := fun g cs T hT hgb hblk => by
    have h1 := ho1 g cs T hT hgb hblk
    refine Blk.other ?_ ⟨b, 1, none⟩ _ hgb
    refine (hg2.block g h1.lt fun e => ?_).trans h1
    rcases hown.2 with ⟨hv, _⟩ | ⟨g', c', cur, hv, _, hg', _⟩
    · rw [hv] at e
      simp [Value.ownBlock] at e
    · rw [hv] at e
      simp only [Value.ownBlock, Option.some.injEq] at e
      subst e
      have h2 := hg'.symm.trans h1
      injection h2 with h2
      injection h2 with _ h2
      exact hT h2.symm
  clear hown2 hg2 hg2' ho1
  rcases hform with rfl | ⟨g, n2, c2, rfl⟩
  all_goals
    go_wp2_with fail
    go_ret
    exact ⟨rfl, hO.out, hBel.out, hOth.out⟩
end Go.Proofs.YtjpfbonnohodhaaDoor
