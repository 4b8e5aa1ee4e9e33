/- Contract of the program's reader of one word. -/
import Derived.Test.YtbhofhobnbhhhaaDoorRpCm
import Derived.Test.YtbhofhobnbhhhaaDoorIn
import Derived.Deep.RegionLaw
import Derived.Deep.RegionHeld3
import Derived.OwnWalk
namespace Go.Proofs.YtbhofhobnbhhhaaDoor
open Go.RowKit
set_option linter.unusedVariables false

/-- How the reader of one word ends. -/
def WdE (s : ByteArray) (w : World) (e : Ending) (w' : World) : Prop :=
  ∃ (x : Ct) (b : Bool), e = .returned (.tuple #[.agg #[.int .i64 x.i, .bool x.a, .int .i64 x.t], .bool b]) ∧ Px.WordR s x b ∧ Below w.heap.size w w'
theorem WdE.mk_ {s : ByteArray} {w w' : World} (x : Ct) {b : Bool} (h : Px.WordR s x b) (hb : Below w.heap.size w w') : WdE s w (.returned (.tuple #[.agg #[.int .i64 x.i, .bool x.a, .int .i64 x.t], .bool b])) w' := ⟨x, b, rfl, h, hb⟩
theorem below_setR {B : Nat} {w W : World} {g' i : Nat} {v : Value} (h : Below B w W) (hb : B ≤ g') : Below B w (W.setCell ⟨g', i, none⟩ v) :=
  ⟨h.os, h.tape, h.output, by have := h.size; simpa using this, fun k hk => (heap_setCell_other W ⟨g', i, none⟩ k v (show k ≠ g' by omega)).trans (h.block k hk)⟩

set_option maxRecDepth 100000 in
set_option maxHeartbeats 4000000 in
theorem readCut_any (s : ByteArray) (w : World) (h : Lb w) (hs : s.size ≤ 1048576) :
    Calls Tryd.prog 73 #[.string s] w (WdE s w) := by
  have HIX := Lib.hid (fun W => indexAny_any s W hs)
  have HL := Lib.hid h
  have hb0 : Below w.heap.size w (w.alloc (.cells #[.int .i64 0, .bool false, .int .i64 0] 76)) := (Below.refl _ _).alloc (Nat.le_refl _) _
  have B0 : Blk (w.alloc (.cells #[.int .i64 0, .bool false, .int .i64 0] 76)) w.heap.size #[.int .i64 0, .bool false, .int .i64 0] 76 := Blk.new _ _ rfl
  have hz0 : (w.alloc (.cells #[.int .i64 0, .bool false, .int .i64 0] 76)).heap.size = w.heap.size + 1 := by simp
  have HZ0 := Lib.hid hz0
  clear h hz0
  go_enter Tryd.func73, Tryd.ntmps73
  go_wp2_with fail
  refine (HIX.out _).mono ?_
  rintro e w1 ⟨r, rfl, hr, HR, hb1⟩
  have hz0 := HZ0.out
  have hz1 := hb1.size
  have B1 := B0.below hb1 (by omega)
  have hb01 := hb0.trans (hb1.mono (by omega))
  clear hb0 B0 hb1
  by_cases hr0 : r < 0
  · have HN := Lib.hid (fun x b => Px.WordR.none_ HR hr0 x b)
    have u0 := B1.free 0
    have p0 := B1.cell 0 (v := .int .i64 0) rfl
    have C1 := B1.set 0 (.int .i64 0)
    have u1 := C1.free 1
    have p1 := C1.cell 1 (v := .bool false) rfl
    have C2 := C1.set 1 (.bool false)
    have u2 := C2.free 2
    have p2 := C2.cell 2 (v := .int .i64 0) rfl
    have C3 := C2.set 2 (.int .i64 0)
    have e0 := C3.cell 0 (v := .int .i64 0) rfl
    have e1 := C3.cell 1 (v := .bool false) rfl
    have e2 := C3.cell 2 (v := .int .i64 0) rfl
    have HB3 := Lib.hid (below_setR (g' := w.heap.size) (i := 2) (v := .int .i64 0) (below_setR (g' := w.heap.size) (i := 1) (v := .bool false) (below_setR (g' := w.heap.size) (i := 0) (v := .int .i64 0) hb01 (Nat.le_refl _)) (Nat.le_refl _)) (Nat.le_refl _))
    clear HR hr C1 C2 C3
    go_wp2_with fail
    exact bodyPost_ret (v := .tuple #[.agg #[.int .i64 0, .bool false, .int .i64 0], .bool false]) (by simp [results, Tryd.results73, go_sem, e0, e1, e2]) rfl (WdE.mk_ ⟨0, false, 0⟩ (HN.out _ _) HB3.out)
  · obtain ⟨k, rfl⟩ : ∃ k : Nat, r = (k : Int) := ⟨r.toNat, by omega⟩
    have hk : k < s.size := by omega
    have hPT := Px.PartR.mk_ HR
    obtain ⟨p, hp⟩ : ∃ v, v = s.extract 0 k := ⟨_, rfl⟩
    obtain ⟨q, hq⟩ : ∃ v, v = s.extract (k + 1) s.size := ⟨_, rfl⟩
    obtain ⟨m, hm⟩ : ∃ v, v = s.extract k (k + 1) := ⟨_, rfl⟩
    have hsl1 : ∀ W, (Instr.slice 9 (.string s) none (some (.int .i64 (k : Int))) none).run Tryd.prog W = .ok (.string p) W := fun W => by
      rw [run_slice_string_to_if W _ _ _ _ Tryd.underlying9, if_pos ⟨by omega, by omega⟩, hp]
      rfl
    have hsl2 : ∀ W, (Instr.slice 9 (.string s) (some (.int .i64 ((k : Int) + 1))) none none).run Tryd.prog W = .ok (.string q) W := fun W => by
      rw [run_slice_string_from_if W _ _ _ _ Tryd.underlying9, if_pos ⟨by omega, by omega⟩, hq]
      rfl
    have hsl3 : ∀ W, (Instr.slice 9 (.string s) (some (.int .i64 (k : Int))) (some (.int .i64 ((k : Int) + 1))) none).run Tryd.prog W = .ok (.string m) W := fun W => by
      rw [run_slice_string_if W _ _ _ _ _ _ Tryd.underlying9, if_pos ⟨by omega, by omega⟩, if_pos ⟨by omega, by omega⟩, hm]
      rfl
    rw [← hp, ← hq, ← hm] at hPT
    have HPT := Lib.hid hPT
    have hps : p.size ≤ 1048576 := by rw [hp, ByteArray.size_extract]; omega
    have hqs : q.size ≤ 1048576 := by rw [hq, ByteArray.size_extract]; omega
    have HPp := Lib.hid (fun W hW => parse_any p W hW hps)
    have HPq := Lib.hid (fun W hW => parse_any q W hW hqs)
    have ew : IntKind.i64.wrap ((k : Int) + 1) = (k : Int) + 1 := IntWalk.i64_in _ (by omega)
    have HL1 := Lib.hid (HL.out.below hb01)
    clear hPT hp hq hm hps hqs HR hr
    go_wp2_with fail
    refine (HPp.out _ HL1.out).mono ?_
    rintro e w2 h2
    have hb2 : Below w1.heap.size w1 w2 := by rcases h2 with ⟨_, _, _, hb⟩ | ⟨_, _, _, _, _, hb⟩ <;> exact hb
    obtain ⟨v1, i1, he1, hv1⟩ : ∃ (v1 : Int) (i1 : Value), e = .returned (.tuple #[.int .i64 v1, i1]) ∧ ((i1 = .nilIface ∧ Lib.atoiAll p.data.toList = .ok v1) ∨ ((∃ t a, i1 = .iface t a) ∧ ∀ v, Lib.atoiAll p.data.toList ≠ .ok v)) := by
      rcases h2 with ⟨v, hv, he, _⟩ | ⟨hv, x, t, a, he, _⟩
      · exact ⟨v, _, he, .inl ⟨rfl, hv⟩⟩
      · exact ⟨x, _, he, .inr ⟨⟨t, a, rfl⟩, hv⟩⟩
    subst he1
    have HV1 := Lib.hid hv1
    clear h2 hv1
    have hz2 := hb2.size
    have B2 := B1.below hb2 (by omega)
    have hb02 := hb01.trans (hb2.mono (by omega))
    have HL2 := Lib.hid (HL1.out.below hb2)
    clear hb2 B1
    go_wp2_with fail
    refine (HPq.out _ HL2.out).mono ?_
    rintro e w3 h3
    have hb3 : Below w2.heap.size w2 w3 := by rcases h3 with ⟨_, _, _, hb⟩ | ⟨_, _, _, _, _, hb⟩ <;> exact hb
    obtain ⟨v2, i2, he2, hv2⟩ : ∃ (v2 : Int) (i2 : Value), e = .returned (.tuple #[.int .i64 v2, i2]) ∧ ((i2 = .nilIface ∧ Lib.atoiAll q.data.toList = .ok v2) ∨ ((∃ t a, i2 = .iface t a) ∧ ∀ v, Lib.atoiAll q.data.toList ≠ .ok v)) := by
      rcases h3 with ⟨v, hv, he, _⟩ | ⟨hv, x, t, a, he, _⟩
      · exact ⟨v, _, he, .inl ⟨rfl, hv⟩⟩
      · exact ⟨x, _, he, .inr ⟨⟨t, a, rfl⟩, hv⟩⟩
    subst he2
    have HV2 := Lib.hid hv2
    clear h3 hv2
    have hz3 := hb3.size
    have B3 := B2.below hb3 (by omega)
    have hb03 := hb02.trans (hb3.mono (by omega))
    clear hb3 B2
    obtain ⟨d, hd⟩ : ∃ d, d = (m.toList == (⟨#[45]⟩ : ByteArray).toList) := ⟨_, rfl⟩
    have HD := Lib.hid hd
    have hd' : (m.toList == [45]) = d := by rw [hd, show (⟨#[45]⟩ : ByteArray).toList = [45] from ByteArray.toList_eq ⟨#[45]⟩]
    clear hd
    have Bd : Blk w3.drew w.heap.size #[.int .i64 0, .bool false, .int .i64 0] 76 := B3
    have u0 := Bd.free 0
    have p0 := Bd.cell 0 (v := .int .i64 0) rfl
    have C1 := Bd.set 0 (.int .i64 v1)
    have u1 := C1.free 1
    have p1 := C1.cell 1 (v := .bool false) rfl
    have C2 := C1.set 1 (.bool d)
    have u2 := C2.free 2
    have p2 := C2.cell 2 (v := .int .i64 0) rfl
    have C3 := C2.set 2 (.int .i64 v2)
    have e0 := C3.cell 0 (v := .int .i64 v1) rfl
    have e1 := C3.cell 1 (v := .bool d) rfl
    have e2 := C3.cell 2 (v := .int .i64 v2) rfl
    have HB3 := Lib.hid (below_setR (g' := w.heap.size) (i := 2) (v := .int .i64 v2) (below_setR (g' := w.heap.size) (i := 1) (v := .bool d) (below_setR (g' := w.heap.size) (i := 0) (v := .int .i64 v1) (below_drewN' hb03 1) (Nat.le_refl _)) (Nat.le_refl _)) (Nat.le_refl _))
    have a0 := B3.free 0
    have b0 := B3.cell 0 (v := .int .i64 0) rfl
    have D1 := B3.set 0 (.int .i64 v1)
    have a1 := D1.free 1
    have b1 := D1.cell 1 (v := .bool false) rfl
    have D2 := D1.set 1 (.bool d)
    have a2 := D2.free 2
    have b2 := D2.cell 2 (v := .int .i64 0) rfl
    have D3 := D2.set 2 (.int .i64 v2)
    have f0 := D3.cell 0 (v := .int .i64 v1) rfl
    have f1 := D3.cell 1 (v := .bool d) rfl
    have f2 := D3.cell 2 (v := .int .i64 v2) rfl
    clear C1 C2 C3 B3 Bd D1 D2 D3
    rcases HV1.out with ⟨rfl, hv1⟩ | ⟨⟨t1, a1, rfl⟩, hv1⟩
    · rcases HV2.out with ⟨rfl, hv2⟩ | ⟨⟨t2, a2, rfl⟩, hv2⟩
      · have HWR := Lib.hid (Px.WordR.good (v := v1) (u := v2) (d := d) HPT.out hv1 hv2 HD.out)
        clear HV1 HV2 hv1 hv2
        go_wp2_with fail
        go_region_held3 (fun _ => True) (exact trivial) (fail)
        all_goals
          go_wp2_with fail
          exact bodyPost_ret (v := .tuple #[.agg #[.int .i64 v1, .bool d, .int .i64 v2], .bool true]) (by simp [results, Tryd.results73, go_sem, f0, f1, f2]) rfl (WdE.mk_ ⟨v1, d, v2⟩ HWR.out HB3.out)
      · have HWR := Lib.hid (Px.WordR.bad2 (s := s) HPT.out hv2 ⟨v1, d, v2⟩ false)
        clear HV1 HV2 hv1 hv2
        go_wp2_with fail
        go_region_held3 (fun _ => True) (exact trivial) (fail)
        all_goals
          go_wp2_with fail
          exact bodyPost_ret (v := .tuple #[.agg #[.int .i64 v1, .bool d, .int .i64 v2], .bool false]) (by simp [results, Tryd.results73, go_sem, f0, f1, f2]) rfl (WdE.mk_ ⟨v1, d, v2⟩ HWR.out HB3.out)
    · have HWR := Lib.hid (Px.WordR.bad1 (s := s) HPT.out hv1 ⟨v1, d, v2⟩ false)
      rcases HV2.out with ⟨rfl, hv2⟩ | ⟨⟨t2, a2, rfl⟩, hv2⟩
      · clear HV1 HV2 hv1 hv2
        go_wp2_with fail
        go_region
        all_goals
          go_wp2_with fail
          exact bodyPost_ret (v := .tuple #[.agg #[.int .i64 v1, .bool d, .int .i64 v2], .bool false]) (by simp [results, Tryd.results73, go_sem, f0, f1, f2]) rfl (WdE.mk_ ⟨v1, d, v2⟩ HWR.out HB3.out)
      · clear HV1 HV2 hv1 hv2
        go_wp2_with fail
        go_region
        all_goals
          go_wp2_with fail
          exact bodyPost_ret (v := .tuple #[.agg #[.int .i64 v1, .bool d, .int .i64 v2], .bool false]) (by simp [results, Tryd.results73, go_sem, f0, f1, f2]) rfl (WdE.mk_ ⟨v1, d, v2⟩ HWR.out HB3.out)
end Go.Proofs.YtbhofhobnbhhhaaDoor
