/- Contracts of the methods of strings.Builder over this program, at a builder that the call has made. -/
import Derived.Test.YtoanopgafihjiaaDoorIn
import Derived.Test.YtoanopgafihjiaaDoorShelf
import Derived.Lib.Builder
import Derived.Lib.AppendStr
namespace Go.Proofs.YtoanopgafihjiaaDoor
open Go.RowKit

theorem sizeBld : (Tryd.prog.info? 69).map (·.size) = some 2 := by kernel_rfl

set_option maxHeartbeats 1000000 in
set_option maxRecDepth 100000 in
theorem copyCheck_used (b : Nat) (w : World) (h0 : w.cell? ⟨b, 0, none⟩ = some (.pointer (some ⟨b, 0, none⟩))) :
    Calls Tryd.prog 58 #[.pointer (some ⟨b, 0, none⟩)] w fun e w' => e = .returned (.tuple #[]) ∧ w = w' := by
  obtain ⟨j, hj, _⟩ := Option.map_eq_some_iff.1 sizeBld
  go_enter Tryd.func58, Tryd.ntmps58
  go_wp2
  rw [Lib.run_neq_ptr_same w _ Tryd.underlying67 hj]
  go_wp2
  go_end0
  exact ⟨rfl, rfl⟩

set_option maxHeartbeats 1000000 in
set_option maxRecDepth 100000 in
theorem copyCheck_fresh (b : Nat) (w : World) (h0 : w.cell? ⟨b, 0, none⟩ = some (.pointer none)) (hsh : w.shape? b = some (69, 2)) (hfz : w.frozen? ⟨b, 0, none⟩ = false) :
    Calls Tryd.prog 58 #[.pointer (some ⟨b, 0, none⟩)] w fun e w' => e = .returned (.tuple #[]) ∧ w' = w.setCell ⟨b, 0, none⟩ (.pointer (some ⟨b, 0, none⟩)) := by
  obtain ⟨j, hj, hjs⟩ := Option.map_eq_some_iff.1 sizeBld
  go_enter Tryd.func58, Tryd.ntmps58
  go_wp2
  rw [Lib.run_to_unsafe w ⟨b, 0, none⟩ Tryd.underlying67 Tryd.underlying95 hj (by rw [hjs]; decide) hsh (Nat.zero_lt_succ 1)]
  simp only [Result.andThen]
  rw [Oper.upon_value]
  go_wp2
  rw [run_callFunc_extern Tryd.func61 (by kernel_rfl) (by kernel_rfl) (by kernel_rfl) (e := Extern.AbiNoEscape.same) (by kernel_rfl)]
  rw [Lib.run_noEscape]
  simp only [Result.andThen]
  rw [Oper.upon_value]
  go_wp2
  rw [Lib.run_from_unsafe w ⟨b, 0, none⟩ Tryd.underlying95 Tryd.underlying67 hj hsh (by kernel_rfl)]
  simp only [Result.andThen]
  rw [Oper.upon_value]
  go_wp2
  go_end0
  exact ⟨rfl, rfl⟩

/-- The builder in block b, one of the call's own, holds the bytes l. -/
def Bld (w : World) (B b : Nat) (l : List UInt8) : Prop := Lib.IsBuilder 69 5 B b (Lib.byteCells l) w

theorem Bld.alloc {w : World} {B b : Nat} {l : List UInt8} (h : Bld w B b l) (o : Obj) : Bld (w.alloc o) B b l := by
  have key : ∀ p, Lib.BuilderAt 69 5 B b p (Lib.byteCells l) w → Lib.BuilderAt 69 5 B b p (Lib.byteCells l) (w.alloc o) := fun p hp => by
    have hlt := hp.lt
    obtain ⟨h1, v, h2, h3, h4⟩ := hp
    exact ⟨h1, v, (Below.heap_alloc w o b hlt).trans h2, h3.alloc o, h4⟩
  rcases h with h | h
  · exact .inl (key _ h)
  · exact .inr (key _ h)
theorem Bld.lt {w : World} {B b : Nat} {l : List UInt8} (h : Bld w B b l) : b < w.heap.size := by
  rcases h with h | h
  · exact h.lt
  · exact h.lt
theorem Bld.new (w : World) : Bld (w.alloc (.cells #[.pointer none, .slice none 0 0] 69)) w.heap.size w.heap.size [] :=
  .inl ⟨Nat.le_refl _, .slice none 0 0, heap_alloc_new w _, World.ownsRow_nil _ _ _ _, by simp [Value.ownBlock]⟩
/-- Blocks of another type than bytes stay, but for block b. -/
def Oth (b : Nat) (w w' : World) : Prop := ∀ g cs T, T ≠ 5 → g ≠ b → Blk w g cs T → Blk w' g cs T

theorem copyCheck_bld (B b : Nat) (l : List UInt8) (w : World) (h : Bld w B b l) :
    Calls Tryd.prog 58 #[.pointer (some ⟨b, 0, none⟩)] w fun e w' => e = .returned (.tuple #[]) ∧ Lib.BuilderAt 69 5 B b (.pointer (some ⟨b, 0, none⟩)) (Lib.byteCells l) w' ∧ Below B w w' ∧ Oth b w w' := by
  rcases h with hf | hu
  · refine (copyCheck_fresh b w hf.cell0 hf.shape hf.frozen0).mono fun e w' ⟨he, hw⟩ => ?_
    subst hw
    exact ⟨he, hf.used _, (Below.refl B w).setCell (p := ⟨b, 0, none⟩) hf.1 _, fun g cs T _ hg hb => hb.other ⟨b, 0, none⟩ _ hg⟩
  · refine (copyCheck_used b w hu.cell0).mono fun e w' ⟨he, hw⟩ => ?_
    subst hw
    exact ⟨he, hu, Below.refl B w, fun _ _ _ _ _ h => h⟩

theorem infoU : (Tryd.prog.info? 5).map (fun i => (i.zero, i.size, i.bytes)) = some (some (.int .u8 0), 1, 1) := by kernel_rfl
theorem neBU : (69 : TypeId) ≠ 5 := by decide

set_option maxHeartbeats 2000000 in
set_option maxRecDepth 100000 in
theorem writeString_any (B b : Nat) (l : List UInt8) (s : ByteArray) (w : World) (h : Bld w B b l) (hlen : l.length + s.size ≤ 1048576) (hBw : B ≤ w.heap.size) :
    Calls Tryd.prog 42 #[.pointer (some ⟨b, 0, none⟩), .string s] w fun e w' => e = .returned (.tuple #[.int .i64 s.size, .nilIface]) ∧ Bld w' B b (l ++ s.data.toList) ∧ Below B w w' ∧ Oth b w w' := by
  obtain ⟨i0, hi0, hz0, hz1, hz2⟩ := info_parts infoU
  have HJ : Hid (Lib.byteCells (l ++ s.data.toList) = Lib.byteCells l ++ Lib.strCells s) := by
    show _ = _
    unfold Lib.byteCells Lib.strCells
    rw [List.map_append]
  have HLN : Hid ((Lib.byteCells l).length = l.length) := by show _ = _; unfold Lib.byteCells; simp
  go_enter Tryd.func42, Tryd.ntmps42
  go_wp2_with fail
  refine (copyCheck_bld B b l _ h).mono ?_
  rintro e w1 ⟨rfl, h1, hb1, ho1⟩
  obtain ⟨hBb, v, hbk, hown, hne⟩ := h1
  have hbl : Blk w1 b #[.pointer (some ⟨b, 0, none⟩), v] 69 := hbk
  have c0 := hbl.cell 0 rfl
  have c1 := hbl.cell 1 (v := v) rfl
  have hz1' := hb1.size
  rw [HLN.out] at hown
  clear hbk
  go_wp2_with (at_builtin; refine Lib.wpList_append_own_string _ rfl _ _ 22 9 rfl B 5 i0 Tryd.underlying22 Tryd.underlying9 hi0 hz0 hz1 hz2 v l.length _ rfl hown s rfl ?c3 ?c4 ?c5 ?_)
  case c3 => unfold maxLen; omega
  case c4 => omega
  case c5 => omega
  intro v2 w2 hown2 hg2 _
  have hbl2 : Blk w2 b #[.pointer (some ⟨b, 0, none⟩), v] 69 := (hg2.block b hbl.lt (fun e => hne e.symm)).trans hbl
  have d0 := hbl2.cell 0 rfl
  have d1 := hbl2.cell 1 (v := v) rfl
  have f1 := hbl2.free 1
  have hform : v2 = .slice none 0 0 ∨ ∃ g n c, v2 = .slice (some ⟨g, 0, none⟩) n c := by
    rcases hown2.2 with ⟨hv, _⟩ | ⟨g, c, cur, hv, _⟩
    · exact .inl hv
    · exact .inr ⟨g, _, c, hv⟩
  have hO : Hid (Bld (w2.setCell ⟨b, 1, none⟩ v2) B b (l ++ s.data.toList)) := by
    refine .inr (Lib.BuilderAt.put hBb hbl2 ?_ neBU)
    rw [HJ.out]
    have : (Lib.byteCells l ++ Lib.strCells s).length = l.length + s.size := by rw [List.length_append, HLN.out, Lib.strCells_length]
    rw [this]
    exact hown2
  have hBel : Hid (Below B w (w2.setCell ⟨b, 1, none⟩ v2)) := (hb1.trans ((Below.refl B w1).grown hg2 (by omega) (fun k hk => (hown.lt k hk).1))).setCell (p := ⟨b, 1, none⟩) hBb _
  have hOth : Hid (Oth b w (w2.setCell ⟨b, 1, none⟩ v2)) := fun g cs T hT hgb hblk => by
    have h1 := ho1 g cs T hT hgb hblk
    refine Blk.other ?_ ⟨b, 1, none⟩ _ hgb
    refine (hg2.block g h1.lt fun e => ?_).trans h1
    rcases hown.2 with ⟨hv, _⟩ | ⟨g', c', cur, hv, _, hg', _⟩
    · rw [hv] at e
      simp [Value.ownBlock] at e
    · rw [hv] at e
      simp only [Value.ownBlock, Option.some.injEq] at e
      subst e
      have h2 := hg'.symm.trans h1
      injection h2 with h2
      injection h2 with _ h2
      exact hT h2.symm
  clear hown2 hg2 ho1
  rcases hform with rfl | ⟨g, n2, c2, rfl⟩
  all_goals
    go_wp2_with fail
    go_ret2
    exact ⟨rfl, hO.out, hBel.out, hOth.out⟩
end Go.Proofs.YtoanopgafihjiaaDoor
