/- The words of cuts, as the program's reader takes them apart. Contract of the program's reader of one word. The words of a program's text, as strings.SplitN parts them. Contract of the program's ReadProgram. -/
import Derived.Test.YtbhofhobnbhhhaaGreatDoorIxAny
import Derived.Test.YtbhofhobnbhhhaaGreatDoorCtR
import Derived.Test.YtbhofhobnbhhhaaGreatDoorReadImpl
import Derived.Test.YtbhofhobnbhhhaaGreatDoorIn
import Derived.Deep.RegionLaw
import Derived.Deep.RegionHeld3
import Derived.OwnWalk
import Derived.Test.YtbhofhobnbhhhaaGreatDoorPxJn
import Derived.Shelf.Strings.SplitShaped
namespace Go.Proofs.YtbhofhobnbhhhaaGreatDoor
open Go.RowKit
set_option linter.unusedVariables false
namespace Px
theorem ctL_ascii (c : Ct) : ∀ (j : Nat) b, (ctL c)[j]? = some b → b.toNat < 128 := fun j b h => by
  have hm := List.mem_of_getElem? h
  unfold ctL at hm
  simp only [List.mem_append, List.mem_cons] at hm
  rcases hm with hm | hm | hm
  · have := decDigits_digs _ b hm
    unfold isDig at this
    omega
  · rw [hm]
    rcases sign_two c with hs | hs <;> rw [hs] <;> decide
  · have := decDigits_digs _ b hm
    unfold isDig at this
    omega
theorem ctL_index (c : Ct) : Lib.indexAny (ctL c) [124, 45] = ((Lib.decDigits c.i.toNat).length : Int) := by
  refine Lib.indexAny_hit (x := sign c) ?_ ?_ ?_
  · intro j b hj hb
    unfold ctL at hb
    rw [List.getElem?_append_left hj] at hb
    have := decDigits_digs _ b (List.mem_of_getElem? hb)
    unfold isDig at this
    have h1 : b ≠ 124 := fun e => by subst e; exact absurd this.2 (by decide)
    have h2 : b ≠ 45 := fun e => by subst e; exact absurd this.1 (by decide)
    simp [h1, h2]
  · unfold ctL
    rw [List.getElem?_append_right (Nat.le_refl _), Nat.sub_self]
    rfl
  · rcases sign_two c with hs | hs <;> rw [hs] <;> rfl
theorem ext_list (s : ByteArray) (i j : Nat) (h : j ≤ s.size) : (s.extract i j).data.toList = (s.data.toList.take j).drop i := by
  rw [← part_bytes s i j h]
theorem ct_first (c : Ct) : (ctS c).extract 0 (Lib.decDigits c.i.toNat).length = dec c.i.toNat := by
  apply bytes_ext
  have hl : (Lib.decDigits c.i.toNat).length ≤ (ctS c).size := by
    rw [← toList_len, ctS_data]
    unfold ctL
    simp
  rw [ext_list _ _ _ hl, ctS_data, List.drop_zero]
  unfold ctL
  rw [List.take_left' rfl]
  rfl
theorem ct_rest (c : Ct) : (ctS c).extract ((Lib.decDigits c.i.toNat).length + 1) (ctS c).size = dec c.t.toNat := by
  apply bytes_ext
  rw [ext_list _ _ _ (Nat.le_refl _), ← toList_len, List.take_length, ctS_data]
  unfold ctL
  rw [← List.drop_drop, List.drop_left' rfl]
  rfl
theorem ct_sign (c : Ct) : (ctS c).extract (Lib.decDigits c.i.toNat).length ((Lib.decDigits c.i.toNat).length + 1) = ⟨#[sign c]⟩ := by
  apply bytes_ext
  have hl : (Lib.decDigits c.i.toNat).length + 1 ≤ (ctS c).size := by
    rw [← toList_len, ctS_data]
    unfold ctL
    simp
  rw [ext_list _ _ _ hl, ctS_data, List.drop_take]
  unfold ctL
  rw [List.drop_left' rfl, show (Lib.decDigits c.i.toNat).length + 1 - (Lib.decDigits c.i.toNat).length = 1 by omega]
  rfl
theorem dec_reads {x : Int} (h0 : 0 ≤ x) (h1 : x ≤ 20000) : Lib.atoiAll (dec x.toNat).data.toList = .ok x := by
  have hl := decDigits_len x.toNat (by omega)
  rw [dec_data, atoi_digs _ (decDigits_ne _) (by omega) (decDigits_digs _), val_decDigits]
  congr 1
  omega
/-- What a reader of one word answers, so far as it matters. -/
def WordR (s : ByteArray) (x : Ct) (b : Bool) : Prop := ∀ c, okC c = true → s = ctS c → x = c ∧ b = true
theorem WordR.none_ {s : ByteArray} {r : Int} (hr : (∀ (j : Nat) b, s.data.toList[j]? = some b → b.toNat < 128) → r = Lib.indexAny s.data.toList [124, 45]) (h : r < 0) (x : Ct) (b : Bool) : WordR s x b := fun c hc hs => by
  subst hs
  rw [ctS_data] at hr
  have := hr (ctL_ascii c)
  rw [ctL_index] at this
  omega
/-- The parts at the sign, if the word is a cut's. -/
def PartR (s p q m : ByteArray) : Prop := ∀ c, s = ctS c → p = dec c.i.toNat ∧ q = dec c.t.toNat ∧ m = ⟨#[sign c]⟩
theorem PartR.mk_ {s : ByteArray} {k : Nat} (hr : (∀ (j : Nat) b, s.data.toList[j]? = some b → b.toNat < 128) → (k : Int) = Lib.indexAny s.data.toList [124, 45]) : PartR s (s.extract 0 k) (s.extract (k + 1) s.size) (s.extract k (k + 1)) := fun c hs => by
  subst hs
  rw [ctS_data] at hr
  have := hr (ctL_ascii c)
  rw [ctL_index] at this
  obtain rfl : k = (Lib.decDigits c.i.toNat).length := by omega
  exact ⟨ct_first c, ct_rest c, ct_sign c⟩
theorem WordR.bad1 {s p q m : ByteArray} (h : PartR s p q m) (hv : ∀ v, Lib.atoiAll p.data.toList ≠ .ok v) (x : Ct) (b : Bool) : WordR s x b := fun c hc hs => by
  have hb := okC_iff.1 hc
  exact absurd (by rw [(h c hs).1]; exact dec_reads hb.1 hb.2.1) (hv c.i)
theorem WordR.bad2 {s p q m : ByteArray} (h : PartR s p q m) (hv : ∀ v, Lib.atoiAll q.data.toList ≠ .ok v) (x : Ct) (b : Bool) : WordR s x b := fun c hc hs => by
  have hb := okC_iff.1 hc
  exact absurd (by rw [(h c hs).2.1]; exact dec_reads hb.2.2.1 hb.2.2.2) (hv c.t)
theorem WordR.good {s p q m : ByteArray} {v u : Int} {d : Bool} (h : PartR s p q m) (hv : Lib.atoiAll p.data.toList = .ok v) (hu : Lib.atoiAll q.data.toList = .ok u) (hd : d = (m.toList == (⟨#[45]⟩ : ByteArray).toList)) : WordR s ⟨v, d, u⟩ true := fun c hc hs => by
  have hb := okC_iff.1 hc
  obtain ⟨h1, h2, h3⟩ := h c hs
  rw [h1, dec_reads hb.1 hb.2.1] at hv
  rw [h2, dec_reads hb.2.2.1 hb.2.2.2] at hu
  injection hv with hv
  injection hu with hu
  refine ⟨?_, rfl⟩
  obtain ⟨ci, ca, ct⟩ := c
  simp only at hv hu
  rw [← hv, ← hu, hd, h3, ByteArray.toList_eq, ByteArray.toList_eq]
  unfold sign
  cases ca <;> rfl
end Px
end Go.Proofs.YtbhofhobnbhhhaaGreatDoor
namespace Go.Proofs.YtbhofhobnbhhhaaGreatDoor
open Go.RowKit
set_option linter.unusedVariables false

/-- How the reader of one word ends. -/
def WdE (s : ByteArray) (w : World) (e : Ending) (w' : World) : Prop :=
  ∃ (x : Ct) (b : Bool), e = .returned (.tuple #[.agg #[.int .i64 x.i, .bool x.a, .int .i64 x.t], .bool b]) ∧ Px.WordR s x b ∧ Below w.heap.size w w'
theorem WdE.mk_ {s : ByteArray} {w w' : World} (x : Ct) {b : Bool} (h : Px.WordR s x b) (hb : Below w.heap.size w w') : WdE s w (.returned (.tuple #[.agg #[.int .i64 x.i, .bool x.a, .int .i64 x.t], .bool b])) w' := ⟨x, b, rfl, h, hb⟩
theorem below_setR {B : Nat} {w W : World} {g' i : Nat} {v : Value} (h : Below B w W) (hb : B ≤ g') : Below B w (W.setCell ⟨g', i, none⟩ v) :=
  ⟨h.os, h.tape, h.output, by have := h.size; simpa using this, fun k hk => (heap_setCell_other W ⟨g', i, none⟩ k v (show k ≠ g' by omega)).trans (h.block k hk)⟩

set_option maxRecDepth 100000 in
set_option maxHeartbeats 4000000 in
theorem readCut_any (s : ByteArray) (w : World) (h : Lb w) (hs : s.size ≤ 1048576) :
    Calls Tryz.prog 29 #[.string s] w (WdE s w) := by
  have HIX := Lib.hid (fun W => indexAny_any s W hs)
  have HL := Lib.hid h
  have hb0 : Below w.heap.size w (w.alloc (.cells #[.int .i64 0, .bool false, .int .i64 0] 50)) := (Below.refl _ _).alloc (Nat.le_refl _) _
  have B0 : Blk (w.alloc (.cells #[.int .i64 0, .bool false, .int .i64 0] 50)) w.heap.size #[.int .i64 0, .bool false, .int .i64 0] 50 := Blk.new _ _ rfl
  have hz0 : (w.alloc (.cells #[.int .i64 0, .bool false, .int .i64 0] 50)).heap.size = w.heap.size + 1 := by simp
  have HZ0 := Lib.hid hz0
  clear h hz0
  go_enter Tryz.func29, Tryz.ntmps29
  go_wp2_with fail
  refine (HIX.out _).mono ?_
  rintro e w1 ⟨r, rfl, hr, HR, hb1⟩
  have hz0 := HZ0.out
  have hz1 := hb1.size
  have B1 := B0.below hb1 (by omega)
  have hb01 := hb0.trans (hb1.mono (by omega))
  clear hb0 B0 hb1
  by_cases hr0 : r < 0
  · have HN := Lib.hid (fun x b => Px.WordR.none_ HR hr0 x b)
    have u0 := B1.free 0
    have p0 := B1.cell 0 (v := .int .i64 0) rfl
    have C1 := B1.set 0 (.int .i64 0)
    have u1 := C1.free 1
    have p1 := C1.cell 1 (v := .bool false) rfl
    have C2 := C1.set 1 (.bool false)
    have u2 := C2.free 2
    have p2 := C2.cell 2 (v := .int .i64 0) rfl
    have C3 := C2.set 2 (.int .i64 0)
    have e0 := C3.cell 0 (v := .int .i64 0) rfl
    have e1 := C3.cell 1 (v := .bool false) rfl
    have e2 := C3.cell 2 (v := .int .i64 0) rfl
    have HB3 := Lib.hid (below_setR (g' := w.heap.size) (i := 2) (v := .int .i64 0) (below_setR (g' := w.heap.size) (i := 1) (v := .bool false) (below_setR (g' := w.heap.size) (i := 0) (v := .int .i64 0) hb01 (Nat.le_refl _)) (Nat.le_refl _)) (Nat.le_refl _))
    clear HR hr C1 C2 C3
    go_wp2_with fail
    exact bodyPost_ret (v := .tuple #[.agg #[.int .i64 0, .bool false, .int .i64 0], .bool false]) (by simp [results, Tryz.results29, go_sem, e0, e1, e2]) rfl (WdE.mk_ ⟨0, false, 0⟩ (HN.out _ _) HB3.out)
  · obtain ⟨k, rfl⟩ : ∃ k : Nat, r = (k : Int) := ⟨r.toNat, by omega⟩
    have hk : k < s.size := by omega
    have hPT := Px.PartR.mk_ HR
    obtain ⟨p, hp⟩ : ∃ v, v = s.extract 0 k := ⟨_, rfl⟩
    obtain ⟨q, hq⟩ : ∃ v, v = s.extract (k + 1) s.size := ⟨_, rfl⟩
    obtain ⟨m, hm⟩ : ∃ v, v = s.extract k (k + 1) := ⟨_, rfl⟩
    have hsl1 : ∀ W, (Instr.slice 9 (.string s) none (some (.int .i64 (k : Int))) none).run Tryz.prog W = .ok (.string p) W := fun W => by
      rw [run_slice_string_to_if W _ _ _ _ Tryz.underlying9, if_pos ⟨by omega, by omega⟩, hp]
      rfl
    have hsl2 : ∀ W, (Instr.slice 9 (.string s) (some (.int .i64 ((k : Int) + 1))) none none).run Tryz.prog W = .ok (.string q) W := fun W => by
      rw [run_slice_string_from_if W _ _ _ _ Tryz.underlying9, if_pos ⟨by omega, by omega⟩, hq]
      rfl
    have hsl3 : ∀ W, (Instr.slice 9 (.string s) (some (.int .i64 (k : Int))) (some (.int .i64 ((k : Int) + 1))) none).run Tryz.prog W = .ok (.string m) W := fun W => by
      rw [run_slice_string_if W _ _ _ _ _ _ Tryz.underlying9, if_pos ⟨by omega, by omega⟩, if_pos ⟨by omega, by omega⟩, hm]
      rfl
    rw [← hp, ← hq, ← hm] at hPT
    have HPT := Lib.hid hPT
    have hps : p.size ≤ 1048576 := by rw [hp, ByteArray.size_extract]; omega
    have hqs : q.size ≤ 1048576 := by rw [hq, ByteArray.size_extract]; omega
    have HPp := Lib.hid (fun W hW => parse_any p W hW hps)
    have HPq := Lib.hid (fun W hW => parse_any q W hW hqs)
    have ew : IntKind.i64.wrap ((k : Int) + 1) = (k : Int) + 1 := IntWalk.i64_in _ (by omega)
    have HL1 := Lib.hid (HL.out.below hb01)
    clear hPT hp hq hm hps hqs HR hr
    go_wp2_with fail
    refine (HPp.out _ HL1.out).mono ?_
    rintro e w2 h2
    have hb2 : Below w1.heap.size w1 w2 := by rcases h2 with ⟨_, _, _, hb⟩ | ⟨_, _, _, _, _, hb⟩ <;> exact hb
    obtain ⟨v1, i1, he1, hv1⟩ : ∃ (v1 : Int) (i1 : Value), e = .returned (.tuple #[.int .i64 v1, i1]) ∧ ((i1 = .nilIface ∧ Lib.atoiAll p.data.toList = .ok v1) ∨ ((∃ t a, i1 = .iface t a) ∧ ∀ v, Lib.atoiAll p.data.toList ≠ .ok v)) := by
      rcases h2 with ⟨v, hv, he, _⟩ | ⟨hv, x, t, a, he, _⟩
      · exact ⟨v, _, he, .inl ⟨rfl, hv⟩⟩
      · exact ⟨x, _, he, .inr ⟨⟨t, a, rfl⟩, hv⟩⟩
    subst he1
    have HV1 := Lib.hid hv1
    clear h2 hv1
    have hz2 := hb2.size
    have B2 := B1.below hb2 (by omega)
    have hb02 := hb01.trans (hb2.mono (by omega))
    have HL2 := Lib.hid (HL1.out.below hb2)
    clear hb2 B1
    go_wp2_with fail
    refine (HPq.out _ HL2.out).mono ?_
    rintro e w3 h3
    have hb3 : Below w2.heap.size w2 w3 := by rcases h3 with ⟨_, _, _, hb⟩ | ⟨_, _, _, _, _, hb⟩ <;> exact hb
    obtain ⟨v2, i2, he2, hv2⟩ : ∃ (v2 : Int) (i2 : Value), e = .returned (.tuple #[.int .i64 v2, i2]) ∧ ((i2 = .nilIface ∧ Lib.atoiAll q.data.toList = .ok v2) ∨ ((∃ t a, i2 = .iface t a) ∧ ∀ v, Lib.atoiAll q.data.toList ≠ .ok v)) := by
      rcases h3 with ⟨v, hv, he, _⟩ | ⟨hv, x, t, a, he, _⟩
      · exact ⟨v, _, he, .inl ⟨rfl, hv⟩⟩
      · exact ⟨x, _, he, .inr ⟨⟨t, a, rfl⟩, hv⟩⟩
    subst he2
    have HV2 := Lib.hid hv2
    clear h3 hv2
    have hz3 := hb3.size
    have B3 := B2.below hb3 (by omega)
    have hb03 := hb02.trans (hb3.mono (by omega))
    clear hb3 B2
    obtain ⟨d, hd⟩ : ∃ d, d = (m.toList == (⟨#[45]⟩ : ByteArray).toList) := ⟨_, rfl⟩
    have HD := Lib.hid hd
    have hd' : (m.toList == [45]) = d := by rw [hd, show (⟨#[45]⟩ : ByteArray).toList = [45] from ByteArray.toList_eq ⟨#[45]⟩]
    clear hd
    have Bd : Blk w3.drew w.heap.size #[.int .i64 0, .bool false, .int .i64 0] 50 := B3
    have u0 := Bd.free 0
    have p0 := Bd.cell 0 (v := .int .i64 0) rfl
    have C1 := Bd.set 0 (.int .i64 v1)
    have u1 := C1.free 1
    have p1 := C1.cell 1 (v := .bool false) rfl
    have C2 := C1.set 1 (.bool d)
    have u2 := C2.free 2
    have p2 := C2.cell 2 (v := .int .i64 0) rfl
    have C3 := C2.set 2 (.int .i64 v2)
    have e0 := C3.cell 0 (v := .int .i64 v1) rfl
    have e1 := C3.cell 1 (v := .bool d) rfl
    have e2 := C3.cell 2 (v := .int .i64 v2) rfl
    have HB3 := Lib.hid (below_setR (g' := w.heap.size) (i := 2) (v := .int .i64 v2) (below_setR (g' := w.heap.size) (i := 1) (v := .bool d) (below_setR (g' := w.heap.size) (i := 0) (v := .int .i64 v1) (below_drewN' hb03 1) (Nat.le_refl _)) (Nat.le_refl _)) (Nat.le_refl _))
    have a0 := B3.free 0
    have b0 := B3.cell 0 (v := .int .i64 0) rfl
    have D1 := B3.set 0 (.int .i64 v1)
    have a1 := D1.free 1
    have b1 := D1.cell 1 (v := .bool false) rfl
    have D2 := D1.set 1 (.bool d)
    have a2 := D2.free 2
    have b2 := D2.cell 2 (v := .int .i64 0) rfl
    have D3 := D2.set 2 (.int .i64 v2)
    have f0 := D3.cell 0 (v := .int .i64 v1) rfl
    have f1 := D3.cell 1 (v := .bool d) rfl
    have f2 := D3.cell 2 (v := .int .i64 v2) rfl
    clear C1 C2 C3 B3 Bd D1 D2 D3
    rcases HV1.out with ⟨rfl, hv1⟩ | ⟨⟨t1, a1, rfl⟩, hv1⟩
    · rcases HV2.out with ⟨rfl, hv2⟩ | ⟨⟨t2, a2, rfl⟩, hv2⟩
      · have HWR := Lib.hid (Px.WordR.good (v := v1) (u := v2) (d := d) HPT.out hv1 hv2 HD.out)
        clear HV1 HV2 hv1 hv2
        go_wp2_with fail
        go_region_held3 (fun _ => True) (exact trivial) (fail)
        all_goals
          go_wp2_with fail
          exact bodyPost_ret (v := .tuple #[.agg #[.int .i64 v1, .bool d, .int .i64 v2], .bool true]) (by simp [results, Tryz.results29, go_sem, f0, f1, f2]) rfl (WdE.mk_ ⟨v1, d, v2⟩ HWR.out HB3.out)
      · have HWR := Lib.hid (Px.WordR.bad2 (s := s) HPT.out hv2 ⟨v1, d, v2⟩ false)
        clear HV1 HV2 hv1 hv2
        go_wp2_with fail
        go_region_held3 (fun _ => True) (exact trivial) (fail)
        all_goals
          go_wp2_with fail
          exact bodyPost_ret (v := .tuple #[.agg #[.int .i64 v1, .bool d, .int .i64 v2], .bool false]) (by simp [results, Tryz.results29, go_sem, f0, f1, f2]) rfl (WdE.mk_ ⟨v1, d, v2⟩ HWR.out HB3.out)
    · have HWR := Lib.hid (Px.WordR.bad1 (s := s) HPT.out hv1 ⟨v1, d, v2⟩ false)
      rcases HV2.out with ⟨rfl, hv2⟩ | ⟨⟨t2, a2, rfl⟩, hv2⟩
      · clear HV1 HV2 hv1 hv2
        go_wp2_with fail
        go_region
        all_goals
          go_wp2_with fail
          exact bodyPost_ret (v := .tuple #[.agg #[.int .i64 v1, .bool d, .int .i64 v2], .bool false]) (by simp [results, Tryz.results29, go_sem, f0, f1, f2]) rfl (WdE.mk_ ⟨v1, d, v2⟩ HWR.out HB3.out)
      · clear HV1 HV2 hv1 hv2
        go_wp2_with fail
        go_region
        all_goals
          go_wp2_with fail
          exact bodyPost_ret (v := .tuple #[.agg #[.int .i64 v1, .bool d, .int .i64 v2], .bool false]) (by simp [results, Tryz.results29, go_sem, f0, f1, f2]) rfl (WdE.mk_ ⟨v1, d, v2⟩ HWR.out HB3.out)
end Go.Proofs.YtbhofhobnbhhhaaGreatDoor
namespace Go.Proofs.YtbhofhobnbhhhaaGreatDoor
open Go.RowKit
set_option linter.unusedVariables false
namespace Px
theorem index_no {l : List UInt8} {m : UInt8} (h : m ∉ l) : Lib.index l [m] = -1 := by
  induction l with
  | nil => rfl
  | cons c l ih =>
    rw [List.mem_cons, not_or] at h
    have hp : List.isPrefixOf [m] (c :: l) = false := by
      simp [List.isPrefixOf]
      exact h.1
    rw [Lib.index, hp, ih h.2]
    rfl
theorem indexB_mark (s : ByteArray) (l r : List UInt8) (h : (32 : UInt8) ∉ l) (hs : s.data.toList = l ++ 32 :: r) : Lib.indexB s ⟨#[32]⟩ = (l.length : Int) := by
  unfold Lib.indexB
  rw [hs]
  exact index_mark l r 32 h
theorem split_join (r : List Ct) : ∀ (a : Ct) (s : ByteArray) (k : Nat), r.length ≤ k → s.data.toList = ctL a ++ Lib.joinTail [32] (r.map ctL) → Lib.splitB ⟨#[32]⟩ 0 k s = (a :: r).map ctS := by
  induction r with
  | nil =>
    intro a s k _ hs
    have hs' : s = ctS a := bytes_ext (by rw [hs, ctS_data]; simp [Lib.joinTail])
    have hm : Lib.indexB s ⟨#[32]⟩ = -1 := by
      unfold Lib.indexB
      rw [hs', ctS_data]
      exact index_no (ctL_blank a)
    rw [Lib.splitB_miss _ _ _ _ hm, hs']
    rfl
  | cons b r ih =>
    intro a s k hk hs
    obtain ⟨k, rfl⟩ : ∃ j, k = j + 1 := ⟨k - 1, by simp at hk; omega⟩
    have hs2 : s.data.toList = ctL a ++ 32 :: (ctL b ++ Lib.joinTail [32] (r.map ctL)) := by
      rw [hs, List.map_cons, joinTail_cons]
      simp
    have hm := indexB_mark s _ _ (ctL_blank a) hs2
    rw [Lib.splitB_hit _ _ _ _ _ hm, ih b (s.extract ((ctL a).length + (⟨#[32]⟩ : ByteArray).size) s.size) k (by simp at hk; omega) ?_, List.map_cons (l := b :: r)]
    · congr 1
      apply bytes_ext
      rw [ext_list _ _ _ (by rw [← toList_len, hs2]; simp), hs2, ctS_data, List.drop_zero, Nat.add_zero, List.take_left' rfl]
    · rw [ext_list _ _ _ (Nat.le_refl _), List.take_of_length_le (Nat.le_of_eq (toList_len s)), hs2]
      show List.drop ((ctL a).length + 1) _ = _
      rw [← List.drop_drop, List.drop_left' rfl]
      rfl
theorem words_split {s : ByteArray} (hs : s ≠ ⟨#[]⟩) : ∀ g, ptS g = s → Lib.splitB ⟨#[32]⟩ 0 (min 80 (s.size + 1) - 1) s = g.map ctS := fun g hg => by
  obtain ⟨_, h2, h3, h4⟩ := of_pt hg hs
  have hc := (spl_count 32 s).2
  rw [of_words hg hs, List.length_map] at hc
  cases g with
  | nil => exact absurd rfl h3
  | cons a r =>
    simp only [List.length_cons] at hc h2
    exact split_join r a s _ (by omega) (by rw [h4, joinL_cons])
end Px
theorem split_size (sep : ByteArray) : ∀ (k : Nat) (s x : ByteArray), x ∈ Lib.splitB sep 0 k s → x.size ≤ s.size
  | 0, s, x, h => by
    rw [Lib.splitB_zero, List.mem_singleton] at h
    rw [h]
    exact Nat.le_refl _
  | k + 1, s, x, h => by
    unfold Lib.splitB at h
    split at h
    · rw [List.mem_singleton] at h
      rw [h]
      exact Nat.le_refl _
    · rw [List.mem_cons] at h
      rcases h with h | h
      · rw [h, ByteArray.size_extract]
        omega
      · have := split_size sep k _ x h
        rw [ByteArray.size_extract] at this
        omega
theorem splitN_any (s : ByteArray) (w : World) (h : Lb w) (hs : s.size ≤ 1048576) :
    Calls Tryz.prog 28 #[.string s, .string ⟨#[32]⟩, .int .i64 80] w fun e w' => ∃ n c, e = .returned (.slice (some ⟨w.heap.size, 0, none⟩) n c) ∧ n ≤ 80 ∧ (Lib.splitB ⟨#[32]⟩ 0 (min 80 (s.size + 1) - 1) s).length = n ∧
      (∀ k x, (Lib.splitB ⟨#[32]⟩ 0 (min 80 (s.size + 1) - 1) s)[k]? = some x → w'.cell? ⟨w.heap.size, k, none⟩ = some (.string x)) ∧ Below w.heap.size w w' ∧ w'.heap.size = w.heap.size + 1 := by
  obtain ⟨m, hm⟩ := h.ml
  refine (Tryz.strings_SplitN s ⟨#[32]⟩ 80 m w (by omega) hm (by show 1 ≤ 1; omega) (by omega) (by omega)).mono fun e w' h => ?_
  obtain ⟨he, hw⟩ := h
  have hl := Lib.splitB_length_le ⟨#[32]⟩ 0 (min 80 (s.size + 1) - 1) s
  refine ⟨_, _, he, by omega, rfl, ?_, by rw [hw]; exact (Below.refl _ _).alloc (Nat.le_refl _) _, by rw [hw]; simp⟩
  intro k x hx
  subst hw
  refine (Blk.new _ _ rfl).cell k ?_
  have hk := (List.getElem?_eq_some_iff.1 hx).1
  unfold Lib.cellsOf
  rw [List.getElem?_toArray, List.getElem?_append_left (by simpa using hk), List.getElem?_map, hx]
  rfl
end Go.Proofs.YtbhofhobnbhhhaaGreatDoor
namespace Go.Proofs.YtbhofhobnbhhhaaGreatDoor
open Go.RowKit
set_option linter.unusedVariables false

set_option maxRecDepth 100000 in
set_option maxHeartbeats 8000000 in
theorem implRp_any (s : ByteArray) (w : World) (h : Lb w) (hs : s.size ≤ 1048576) :
    Calls Tryz.prog 11 #[.string s] w (RpE s w) := by
  by_cases h0 : s = ⟨#[]⟩
  · subst h0
    clear h
    go_enter Tryz.func11, Tryz.ntmps11
    go_wp2_with fail
    go_ret2
    exact RpE.mk_ OwnS.nil_ Px.RP.empty (Below.refl _ _)
  · have HS := Lib.hid h0
    have hne : (s.toList == []) = false := by
      rw [beq_eq_false_iff_ne, ByteArray.toList_eq]
      intro he
      exact h0 (Px.bytes_ext he)
    have HW := Lib.hid (Px.words_split h0)
    have hsp := splitN_any s w h hs
    obtain ⟨W, hW⟩ : ∃ v, v = Lib.splitB ⟨#[32]⟩ 0 (min 80 (s.size + 1) - 1) s := ⟨_, rfl⟩
    have HWZ : Hid (∀ (k : Nat) (x : ByteArray), W[k]? = some x → x.size ≤ 1048576) := Lib.hid fun k x hx => by
      have := split_size _ _ s x (List.mem_of_getElem? (by rw [← hW]; exact hx))
      omega
    rw [← hW] at HW hsp
    have HSP := Lib.hid hsp
    have HL := Lib.hid h
    clear hW hsp h0 h
    go_enter Tryz.func11, Tryz.ntmps11
    go_wp2_with fail
    refine HSP.out.mono ?_
    rintro e w1 ⟨m, c1, rfl, hm80, hml, hcw, hb1, hz1⟩
    have HMW := Lib.hid hml
    have HCW := Lib.hid hcw
    clear hcw hml
    have hL1 := HL.out.below hb1
    have HL1 := Lib.hid hL1
    clear hL1
    go_wp2_with fail
    go_loopw [4, 14] (fun v i wr => ∃ (k : Nat) (A2 : Option Addr) (c2 : Nat) (R : List Ct), k ≤ m ∧ i = .int .i64 k ∧ v = .slice A2 k c2 ∧ OwnS Ct.S wr w1.heap.size wr.heap.size (.slice A2 k c2) R ∧ Hid (Px.Pre s R k) ∧ Below w1.heap.size w1 wr) (fun _ i _ => m - (intOf i).toNat)
    case atStart => exact ⟨0, _, _, [], Nat.zero_le _, rfl, rfl, OwnS.nil_, Lib.hid (Px.Pre.zero s), Below.refl _ _⟩
    case round =>
      obtain ⟨k, A2, c2, R, hk, rfl, rfl, ho, HP, hb⟩ := hrel
      have hz := hb.size
      by_cases hlt : k < m
      · obtain ⟨x, hx⟩ : ∃ x, W[k]? = some x := ⟨_, List.getElem?_eq_getElem (by rw [HMW.out]; exact hlt)⟩
        have HX := Lib.hid hx
        have c0 : wr.cell? ⟨w.heap.size, k, none⟩ = some (.string x) := (hb.cell (p := ⟨w.heap.size, k, none⟩) (by show w.heap.size < w1.heap.size; omega)).trans (HCW.out k x hx)
        have hxz := HWZ.out k x hx
        have HLr := HL1.out.below hb
        have hrc := readCut_any x wr HLr hxz
        clear hx hxz HLr
        go_wp2_with fail
        refine hrc.mono ?_
        rintro e w5 ⟨y, b, rfl, hwd, hb5⟩
        have hz5 := hb5.size
        have ho5 := (ho.below hb5 (Nat.le_refl _)).mono (Nat.le_refl _) hz5
        have hbb := hb.trans (hb5.mono hz)
        clear hrc ho c0
        have HB3 : Hid (Below w5.heap.size w5 (w5.alloc (.cells #[.int .i64 y.i, .bool y.a, .int .i64 y.t] 50))) := Lib.hid ((Below.refl _ _).alloc (Nat.le_refl _) _)
        cases b
        · have HRP : Hid (Px.RP s [] false) := Lib.hid (Px.RP.word HS.out HW.out HX.out fun c hc hx => by have := (hwd c hc hx).2; cases this)
          have HBB : Hid (Below w.heap.size w _) := Lib.hid ((hb1.trans (hbb.mono (by omega))).trans (HB3.out.mono (by omega)))
          clear hwd ho5
          go_wp2_with fail
          go_ret2
          exact RpE.mk_ OwnS.nil_ HRP.out HBB.out
        · have HPN : Hid (Px.Pre s (R ++ [y]) (k + 1)) := Lib.hid (Px.Pre.next HS.out HP.out HW.out HX.out fun c hc hx => (hwd c hc hx).1)
          have ho3 := ho5.below HB3.out (Nat.le_refl _)
          have hb3 := hbb.trans (HB3.out.mono (by omega))
          have hz3 := hb3.size
          clear hwd ho5
          go_wp2_with (at_builtin; refine wp_pushCt (w5.alloc (.cells #[.int .i64 y.i, .bool y.a, .int .i64 y.t] 50)) rfl (.tmp 25) (.tmp 27) 28 rfl Tryz.underlying28 A2 k c2 R w1.heap.size w5.heap.size (by rfl) ho3 y (w5.alloc (.cells #[.int .i64 y.i, .bool y.a, .int .i64 y.t] 50)).heap.size (by simp [go_sem]) rfl (by omega) (by omega) ?_; intro A6 c6 w6 ho6 hm6)
          go_roundw
          case rel => exact ⟨k + 1, A6, c6, _, by omega, by go_num, rfl, ho6, HPN, hb3.trans (hm6.below (Nat.le_refl _) (by omega))⟩
          case measure => simp [intOf]; omega
      · obtain rfl : m = k := by omega
        obtain ⟨T, hT⟩ : ∃ v, Px.ptS R = v := ⟨_, rfl⟩
        have HT := Lib.hid hT
        clear hT
        have hLr := HL1.out.below hb
        have hpt := implPt_any A2 m c2 wr.heap.size R T wr ho.rd (Nat.le_refl _) (by omega) hLr.tab HT.out
        clear hLr
        go_wp2_with fail
        refine hpt.mono ?_
        rintro e w8 ⟨rfl, hb8⟩
        have hbb : Below w.heap.size w w8 := (hb1.trans (hb.mono (by omega))).trans (hb8.mono (by omega))
        by_cases hTs : T = s
        · subst hTs
          have HRP : Hid (Px.RP T R true) := Lib.hid (Px.RP.reads HS.out HT.out)
          have ho8 := (ho.below hb8 (Nat.le_refl _)).mono (lo' := w.heap.size) (by omega) hb8.size
          clear ho
          go_wp2_with fail
          go_ret2
          exact RpE.mk_ ho8 HRP.out hbb
        · have HRP : Hid (Px.RP s [] false) := Lib.hid (Px.RP.differs HS.out HP.out (Px.words_len HW.out HMW.out) (by rw [HT.out]; exact hTs))
          have hneT : (T.toList == s.toList) = false := by
            rw [beq_eq_false_iff_ne, ByteArray.toList_eq, ByteArray.toList_eq]
            intro he
            exact hTs (Px.bytes_ext he)
          clear ho
          go_wp2_with fail
          go_ret2
          exact RpE.mk_ OwnS.nil_ HRP.out hbb
end Go.Proofs.YtbhofhobnbhhhaaGreatDoor
