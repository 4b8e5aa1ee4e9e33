/- Contracts of strings.NewReplacer and Replace over this program, for pairs of single bytes. -/
import Derived.Test.YtjpfbonnohodhaaGreatDoorOnce
import Derived.Test.YtjpfbonnohodhaaGreatDoorStr
import Derived.Test.YtjpfbonnohodhaaGreatDoorIn
import Derived.Laws.AppendOwn
import Derived.Handy
import Derived.Lib.ConvBytes
import Derived.Lib.LazyBuf
namespace Go.Proofs.YtjpfbonnohodhaaGreatDoor
open Go.RowKit

theorem infoStr : (Tryz.prog.info? 9).map (fun i => (i.zero, i.size, i.bytes)) = some (some (.string ⟨#[]⟩), 1, 16) := by kernel_rfl

/-- The strings L, R, R, L. -/
def lrrl : List Value := [.string ⟨#[76]⟩, .string ⟨#[82]⟩, .string ⟨#[82]⟩, .string ⟨#[76]⟩]

theorem own4 {w : World} {B : Nat} {v : Value} {l : List Value} (h : w.ownsRow B 9 1 v (0 + 4) l) : ∃ g c, v = .slice (some ⟨g, 0, none⟩) 4 c := by
  rcases h.2 with ⟨_, h0⟩ | ⟨g, c, cur, hv, _⟩
  · omega
  · exact ⟨g, c, hv⟩

set_option maxRecDepth 100000 in
set_option maxHeartbeats 1000000 in
theorem newReplacer_any (g : Nat) (w : World) (hg : Blk w g lrrl.toArray 9) :
    Calls Tryz.prog 16 #[.slice (some ⟨g, 0, none⟩) 4 4] w fun e w' => ∃ b g1 c1, e = .returned (.pointer (some ⟨b, 0, none⟩)) ∧ w.heap.size ≤ b ∧
      Blk w' b #[.int .u32 0, .int .i32 0, .int .u32 0, .nilIface, .slice (some ⟨g1, 0, none⟩) 4 c1] 68 ∧ w'.ownsRow w.heap.size 9 1 (.slice (some ⟨g1, 0, none⟩) 4 c1) 4 lrrl ∧ g1 ≠ b ∧ Below w.heap.size w w' := by
  obtain ⟨i0, hi0, hz0, hz1, hz2⟩ := info_parts infoStr
  go_enter Tryz.func16, Tryz.ntmps16
  have hcells : ∀ (j : Nat) (u : Value), lrrl[j]? = some u → w.cell? ((⟨g, 0, none⟩ : Addr).add j) = some u := fun j u hj => by
    rw [addr_zero]
    exact hg.cell j (by rw [List.getElem?_toArray]; exact hj)
  have hone : ∀ u ∈ lrrl, u.oneCell' = true := by decide
  go_wp2_with (at_builtin; refine wpList_append_own _ rfl _ _ 52 rfl w.heap.size 9 i0 (.string ⟨#[]⟩) 1 16 Tryz.underlying52 hi0 hz0 hz1 hz2 rfl (by decide) (.slice none 0 0) 0 [] rfl (World.ownsRow_nil _ _ _ _) ⟨g, 0, none⟩ 4 4 lrrl rfl rfl hcells hone (by unfold maxLen; omega) (by omega) (Nat.le_refl _) ?_; intro v1 w1 hown1 hg1 _; obtain ⟨g1, c1, rfl⟩ := own4 hown1)
  go_ret
  have hb1 : Below w.heap.size w w1 := (Below.refl _ _).grown hg1 (Nat.le_refl _) (by simp [Value.ownBlock])
  have hlt := hown1.lt g1 rfl
  exact ⟨w1.heap.size, rfl, hb1.size, g1, c1, Blk.new _ _ rfl, by simpa using hown1.alloc _, by omega, hb1.alloc hb1.size _⟩

/-- The table of the byte replacer: L for R and R for L. -/
def swLR (j : Nat) : Nat := if j = 76 then 82 else if j = 82 then 76 else j
def tabLR : List Value := (List.range 256).map fun j => .int .u8 (swLR j : Nat)

/-- The table while it is filled: its first k places hold their own numbers. -/
def rowTo (k : Nat) : Array Value := ((List.range 256).map fun j => Value.int .u8 (if j < k then j else 0 : Nat)).toArray
theorem rowTo_zero : rowTo 0 = (List.replicate 256 (Value.int .u8 0)).toArray := by kernel_rfl
theorem rowTo_get (k j : Nat) (h : j < 256) : (rowTo k)[j]? = some (.int .u8 (if j < k then j else 0 : Nat)) := by
  simp [rowTo, h]
theorem rowTo_set (k : Nat) (h : k < 256) : (rowTo k).setIfInBounds k (.int .u8 (k : Int)) = rowTo (k + 1) := by
  apply Array.ext_getElem?
  intro j
  rw [Array.getElem?_setIfInBounds]
  by_cases hj : j < 256
  · rw [rowTo_get _ _ hj, rowTo_get _ _ hj]
    have hs : (rowTo k).size = 256 := by simp [rowTo]
    by_cases e : k = j
    · subst e
      simp [hs, h]
    · rw [if_neg e]
      by_cases h1 : j < k
      · rw [if_pos h1, if_pos (by omega)]
      · rw [if_neg h1, if_neg (by omega)]
  · have h1 : (rowTo k).size = 256 := by simp [rowTo]
    have h2 : (rowTo (k + 1)).size = 256 := by simp [rowTo]
    rw [if_neg (by omega), Array.getElem?_eq_none (by omega), Array.getElem?_eq_none (by omega)]
theorem rowTo_end : ((rowTo 256).setIfInBounds 82 (.int .u8 76)).setIfInBounds 76 (.int .u8 82) = tabLR.toArray := by kernel_rfl
theorem zero256 : Tryz.zeroCells113 = (List.replicate 256 (Value.int .u8 0)).toArray := by kernel_rfl
theorem store256 (w : World) : ∃ w1, (storeCells ⟨w.heap.size, 0, none⟩ Tryz.zeroCells113.toList).run Tryz.prog (w.alloc (.cells Tryz.zeroCells113 113)) = .ok () w1 ∧
    Blk w1 w.heap.size (List.replicate 256 (Value.int .u8 0)).toArray 113 ∧ Below w.heap.size w w1 := by
  have h := run_storeCells_from (P := Tryz.prog) w.heap.size 113 Tryz.zeroCells113.toList 0 Tryz.zeroCells113 (w.alloc (.cells Tryz.zeroCells113 113)) (heap_alloc_new w _) (by simp) (by
    rw [zero256]
    intro v hv
    simp only [List.mem_replicate] at hv
    rw [hv.2]
    rfl)
  refine ⟨_, h, ?_, ?_⟩
  · unfold Blk
    rw [← zero256]
    have := setRow_heap (w.alloc (.cells Tryz.zeroCells113 113)) w.heap.size Tryz.zeroCells113 Tryz.zeroCells113 113 (0, 0) (heap_alloc_new w _)
    simpa using this
  · exact ⟨rfl, rfl, rfl, by simp [World.setRow], fun k hk => (setRow_other _ w.heap.size k _ (by omega)).trans (Below.heap_alloc w _ k hk)⟩

set_option maxRecDepth 100000 in
set_option maxHeartbeats 1000000 in
theorem build_any (b g c B : Nat) (x0 x1 x2 x3 : Value) (w : World) (hb : Blk w b #[x0, x1, x2, x3, .slice (some ⟨g, 0, none⟩) 4 c] 68)
    (ho : w.ownsRow B 9 1 (.slice (some ⟨g, 0, none⟩) 4 c) 4 lrrl) :
    Calls Tryz.prog 47 #[.pointer (some ⟨b, 0, none⟩)] w fun e w' => ∃ t, e = .returned (.iface 114 (.pointer (some ⟨t, 0, none⟩))) ∧ w.heap.size ≤ t ∧
      Blk w' t tabLR.toArray 113 ∧ Below w.heap.size w w' := by
  have c4 := hb.cell 4 rfl
  have s0 := ho.cells (g := g) rfl 0 (.string ⟨#[76]⟩) rfl
  have s1 := ho.cells (g := g) rfl 1 (.string ⟨#[82]⟩) rfl
  have s2 := ho.cells (g := g) rfl 2 (.string ⟨#[82]⟩) rfl
  have s3 := ho.cells (g := g) rfl 3 (.string ⟨#[76]⟩) rfl
  rw [addr_zero] at s0 s1 s2 s3
  go_enter Tryz.func47, Tryz.ntmps47
  go_wp2_with fail
  obtain ⟨w1, hst, hb1, hl1⟩ := store256 w
  go_rounds 3
  have hz1 := hl1.size
  rw [← rowTo_zero] at hb1
  go_loopw [61, 7] (fun i _ wr => ∃ k : Nat, k ≤ 256 ∧ i = .int .i64 k ∧ Blk wr w.heap.size (rowTo k) 113 ∧ Below w.heap.size w wr) (fun i _ _ => 256 - (intOf i).toNat)
  case atStart => exact ⟨0, Nat.zero_le _, rfl, hb1, hl1⟩
  case round =>
    obtain ⟨k, hk, rfl, hbk, hbl⟩ := hrel
    by_cases hlt : k < 256
    · have hc := hbk.cell k (rowTo_get k k hlt)
      have hfr := hbk.free k
      have hset := hbk.set k (.int .u8 (k : Int))
      rw [rowTo_set k hlt] at hset
      go_wp2_with fail
      go_roundw
      case rel => exact ⟨k + 1, by omega, by go_num, hset, hbl.setCell (p := ⟨w.heap.size, k, none⟩) (Nat.le_refl _) _⟩
      case measure => simp [intOf]; omega
    · obtain rfl : k = 256 := by omega
      have hgl : g < w.heap.size := (ho.lt g rfl).2
      have ng : ¬ g = w.heap.size := by omega
      have r0 := (hbl.cell (p := ⟨g, 0, none⟩) hgl).trans s0
      have r1 := (hbl.cell (p := ⟨g, 1, none⟩) hgl).trans s1
      have r2 := (hbl.cell (p := ⟨g, 2, none⟩) hgl).trans s2
      have r3 := (hbl.cell (p := ⟨g, 3, none⟩) hgl).trans s3
      have hc1 := hbk.cell 82 (rowTo_get 256 82 (by omega))
      have hf1 := hbk.free 82
      have hset1 := hbk.set 82 (.int .u8 76)
      have q0 : (wr.setCell ⟨w.heap.size, 82, none⟩ (.int .u8 76)).cell? ⟨g, 0, none⟩ = _ := (World.cell?_setCell_other _ ⟨w.heap.size, 82, none⟩ ⟨g, 0, none⟩ _ (fun h => ng (congrArg Addr.block h).symm)).trans r0
      have q1 : (wr.setCell ⟨w.heap.size, 82, none⟩ (.int .u8 76)).cell? ⟨g, 1, none⟩ = _ := (World.cell?_setCell_other _ ⟨w.heap.size, 82, none⟩ ⟨g, 1, none⟩ _ (fun h => ng (congrArg Addr.block h).symm)).trans r1
      have hc2 : (wr.setCell ⟨w.heap.size, 82, none⟩ (.int .u8 76)).cell? ⟨w.heap.size, 76, none⟩ = some (.int .u8 76) := hset1.cell 76 (by kernel_rfl)
      have hf2 := hset1.free 76
      have hset2 := hset1.set 76 (.int .u8 82)
      rw [rowTo_end] at hset2
      have HF := Lib.hid hset2
      have HB : Hid (Below w.heap.size w ((wr.setCell ⟨w.heap.size, 82, none⟩ (.int .u8 76)).setCell ⟨w.heap.size, 76, none⟩ (.int .u8 82))) :=
        (hbl.setCell (p := ⟨w.heap.size, 82, none⟩) (Nat.le_refl _) _).setCell (p := ⟨w.heap.size, 76, none⟩) (Nat.le_refl _) _
      have hi82 : ∀ W : World, (Instr.index 9 (.string ⟨#[82]⟩) (.int .i64 0)).run Tryz.prog W = .ok (.int .u8 82) W := fun W => index_str ⟨#[82]⟩ 0 82 rfl W
      have hi76 : ∀ W : World, (Instr.index 9 (.string ⟨#[76]⟩) (.int .i64 0)).run Tryz.prog W = .ok (.int .u8 76) W := fun W => index_str ⟨#[76]⟩ 0 76 rfl W
      clear hset1 hset2 hst hb1 hl1
      go_wp2_with fail
      go_rounds 3
      go_ret
      exact ⟨_, rfl, Nat.le_refl _, HF.out, HB.out⟩

set_option maxRecDepth 100000 in
set_option maxHeartbeats 1000000 in
theorem buildOnce_any (b g c B B2 : Nat) (x0 x1 x2 x3 : Value) (w : World) (hb : Blk w b #[x0, x1, x2, x3, .slice (some ⟨g, 0, none⟩) 4 c] 68)
    (ho : w.ownsRow B2 9 1 (.slice (some ⟨g, 0, none⟩) 4 c) 4 lrrl) (hB : B ≤ b) :
    Calls Tryz.prog 29 #[.pointer (some ⟨b, 0, none⟩)] w fun e w' => e = .returned (.tuple #[]) ∧ ∃ t, w.heap.size ≤ t ∧
      Blk w' b #[x0, x1, x2, .iface 114 (.pointer (some ⟨t, 0, none⟩)), .slice none 0 0] 68 ∧ Blk w' t tabLR.toArray 113 ∧ Below B w w' := by
  go_enter Tryz.func29, Tryz.ntmps29
  go_wp2_with fail
  refine (build_any b g c B2 x0 x1 x2 x3 _ hb ho).mono ?_
  rintro e w1 ⟨t, rfl, ht, hbt, hl1⟩
  have hb1 := hb.below hl1 hb.lt
  have d3 := hb1.cell 3 (v := x3) rfl
  have e3 := hb1.free 3
  have hb2 := hb1.set 3 (.iface 114 (.pointer (some ⟨t, 0, none⟩)))
  have d4 := hb2.cell 4 (v := .slice (some ⟨g, 0, none⟩) 4 c) rfl
  have e4 := hb2.free 4
  have hb3 := hb2.set 4 (.slice none 0 0)
  have HF := Lib.hid hb3
  have hne : t ≠ b := by have := hb.lt; omega
  have HT : Hid (Blk ((w1.setCell ⟨b, 3, none⟩ (.iface 114 (.pointer (some ⟨t, 0, none⟩)))).setCell ⟨b, 4, none⟩ (.slice none 0 0)) t tabLR.toArray 113) := (hbt.other ⟨b, 3, none⟩ _ hne).other ⟨b, 4, none⟩ _ hne
  have HB : Hid (Below B w ((w1.setCell ⟨b, 3, none⟩ (.iface 114 (.pointer (some ⟨t, 0, none⟩)))).setCell ⟨b, 4, none⟩ (.slice none 0 0))) :=
    ((hl1.mono (by have := hb.lt; omega)).setCell (p := ⟨b, 3, none⟩) hB _).setCell (p := ⟨b, 4, none⟩) hB _
  clear hb1 hb2 hb3 hbt
  go_wp2_with fail
  go_end0
  exact ⟨rfl, t, ht, HF.out, HT.out, HB.out⟩

def swB (x : UInt8) : UInt8 := if x = 76 then 82 else if x = 82 then 76 else x
theorem tab_get (x : UInt8) : tabLR.toArray[x.toNat]? = some (.int .u8 ((swB x).toNat : Int)) := by
  have h : ∀ n : Fin 256, tabLR.toArray[n.val]? = some (.int .u8 ((swB (UInt8.ofNat n.val)).toNat : Int)) := by
    intro n
    have : n.val < 256 := n.isLt
    simp only [tabLR, List.getElem?_toArray, List.getElem?_map, List.getElem?_range this, Option.map_some]
    congr 2
    have : ∀ m : Fin 256, swLR m.val = (swB (UInt8.ofNat m.val)).toNat := by decide +kernel
    exact congrArg Int.ofNat (this n)
  have := h ⟨x.toNat, x.toNat_lt⟩
  simpa using this

/-- Block g holds the bytes l at its head, and is the row of a conversion of a string. -/
def Byt (w : World) (g : Nat) (l : List UInt8) : Prop :=
  ∃ cs : Array Value, w.heap[g]? = some (.cells cs 5 (cs.size, cs.size + 1)) ∧ l.length ≤ cs.size ∧ ∀ (j : Nat) (x : UInt8), l[j]? = some x → cs[j]? = some (Value.int .u8 (x.toNat : Int))
theorem Byt.cell {w : World} {g : Nat} {l : List UInt8} (h : Byt w g l) (j : Nat) {x : UInt8} (hx : l[j]? = some x) : w.cell? ⟨g, j, none⟩ = some (.int .u8 (x.toNat : Int)) := by
  obtain ⟨cs, h1, h2, h3⟩ := h
  exact (cell_of_row w g j cs _ _ h1).trans (h3 j x hx)
theorem Byt.free {w : World} {g : Nat} {l : List UInt8} (h : Byt w g l) (j : Nat) (hj : j < l.length) : w.frozen? ⟨g, j, none⟩ = false := by
  obtain ⟨cs, h1, h2, h3⟩ := h
  simp only [World.frozen?, h1]
  have : ¬ cs.size ≤ j := by omega
  simp [this]
theorem Byt.set {w : World} {g : Nat} {l : List UInt8} (h : Byt w g l) (j : Nat) (x : UInt8) : Byt (w.setCell ⟨g, j, none⟩ (.int .u8 (x.toNat : Int))) g (l.set j x) := by
  obtain ⟨cs, h1, h2, h3⟩ := h
  refine ⟨cs.setIfInBounds j (.int .u8 (x.toNat : Int)), ?_, by simpa using h2, fun i y hy => ?_⟩
  · rw [Array.size_setIfInBounds]
    simp [World.setCell, Array.getElem?_modify, h1]
  · rw [List.getElem?_set] at hy
    rw [Array.getElem?_setIfInBounds]
    by_cases e : j = i
    · subst e
      by_cases hj : j < l.length
      · rw [if_pos rfl, if_pos hj] at hy
        injection hy with hy
        subst hy
        rw [if_pos rfl, if_pos (by omega)]
      · rw [if_pos rfl, if_neg hj] at hy
        cases hy
    · rw [if_neg e] at hy
      rw [if_neg e]
      exact h3 i y hy
theorem Byt.new (w : World) (s : ByteArray) : Byt (Lib.bytesWorld w 5 s) w.heap.size s.data.toList := by
  refine ⟨Lib.bytesCells w 5 s, Lib.bytesWorld_at_new w _ s, ?_, fun j x hx => ?_⟩
  · have : s.data.toList.length = s.data.size := rfl
    simp only [Lib.bytesCells, Array.size_append, Array.size_map, Array.size_replicate]
    omega
  · have hlt : j < s.size := by
      have := (List.getElem?_eq_some_iff.1 hx).1
      rwa [toList_len] at this
    have h1 := Lib.bytesWorld_cell w 5 s j hlt
    rw [cell_of_row _ _ _ _ _ _ (Lib.bytesWorld_at_new w 5 s)] at h1
    rw [h1, List.getD_eq_getElem?_getD, hx]
    rfl
theorem below_bytesR (w : World) (s : ByteArray) : Below w.heap.size w (Lib.bytesWorld w 5 s) :=
  ⟨rfl, rfl, rfl, by rw [Lib.bytesWorld_size]; omega, fun k hk => Lib.bytesWorld_at_old w _ s k hk⟩

/-- The first k bytes replaced. -/
def repTo (l : List UInt8) (k : Nat) : List UInt8 := (l.take k).map swB ++ l.drop k
theorem repTo_zero (l : List UInt8) : repTo l 0 = l := by simp [repTo]
theorem repTo_len (l : List UInt8) (k : Nat) : (repTo l k).length = l.length := by simp [repTo]; omega
theorem repTo_end (l : List UInt8) : repTo l l.length = l.map swB := by simp [repTo]
theorem repTo_get (l : List UInt8) (k : Nat) (x : UInt8) (hx : l[k]? = some x) : (repTo l k)[k]? = some x := by
  have hk := (List.getElem?_eq_some_iff.1 hx).1
  unfold repTo
  rw [List.getElem?_append_right (by simp; omega)]
  simp only [List.length_map, List.length_take, Nat.min_eq_left (Nat.le_of_lt hk), Nat.sub_self, List.getElem?_drop]
  simpa using hx
theorem repTo_step (l : List UInt8) (k : Nat) (x : UInt8) (hx : l[k]? = some x) : (repTo l k).set k (swB x) = repTo l (k + 1) := by
  have hk := (List.getElem?_eq_some_iff.1 hx).1
  unfold repTo
  rw [List.drop_eq_getElem_cons hk, set_mid _ _ _ _ _ (by simp; omega), take_more l k x hx]
  simp
theorem repTo_same (l : List UInt8) (k : Nat) (x : UInt8) (hx : l[k]? = some x) (h : swB x = x) : repTo l (k + 1) = repTo l k := by
  rw [← repTo_step l k x hx, h]
  apply List.ext_getElem?
  intro j
  rw [List.getElem?_set]
  by_cases e : k = j
  · subst e
    rw [if_pos rfl, repTo_get l k x hx, if_pos (by rw [repTo_len]; exact (List.getElem?_eq_some_iff.1 hx).1)]
  · rw [if_neg e]

/-- The buffer of the replacer: none as long as no byte has changed. -/
def RB (w : World) (lo : Nat) (l : List UInt8) (k : Nat) (v : Value) : Prop :=
  (v = .slice none 0 0 ∧ repTo l k = l) ∨ ∃ g c, v = .slice (some ⟨g, 0, none⟩) l.length c ∧ lo ≤ g ∧ Byt w g (repTo l k)

theorem eqNil_yes (W : World) : (binOp .eql 22 (.slice none 0 0) (.slice none 0 0)).run Tryz.prog W = .ok (.bool true) W := Lib.run_eql_slice_nil (P := Tryz.prog) (h := Tryz.underlying22) ..
theorem eqNil_no (a : Addr) (n c : Nat) (W : World) : (binOp .eql 22 (.slice (some a) n c) (.slice none 0 0)).run Tryz.prog W = .ok (.bool false) W := Lib.run_eql_slice_nil (P := Tryz.prog) (h := Tryz.underlying22) ..

set_option maxRecDepth 100000 in
set_option maxHeartbeats 2000000 in
theorem byteReplace_any (t : Nat) (s : ByteArray) (w : World) (hs : s.size ≤ 1048576) (ht : Blk w t tabLR.toArray 113) :
    Calls Tryz.prog 130 #[.pointer (some ⟨t, 0, none⟩), .string s] w fun e w' => e = .returned (.string ⟨(s.data.toList.map swB).toArray⟩) ∧ Below w.heap.size w w' := by
  have hcv : ∀ W, (convert 9 22 (.string s)).run Tryz.prog W = .ok (.slice (some ⟨W.heap.size, 0, none⟩) s.size (grownCap W s.size 0 5)) (Lib.bytesWorld W 5 s) := fun W => Lib.run_convert_string_bytes W _ _ _ s Tryz.underlying9
    Tryz.underlying22 Tryz.underlying5
  have hll : s.data.toList.length = s.size := toList_len s
  have HLL := Lib.hid hll
  clear hll
  obtain ⟨r, hr⟩ : ∃ r : ByteArray, r = ⟨(s.data.toList.map swB).toArray⟩ := ⟨_, rfl⟩
  rw [← hr]
  have HRr := Lib.hid hr
  clear hr
  have hq0 := eqNil_yes
  have hq1 := eqNil_no
  go_enter Tryz.func130, Tryz.ntmps130
  go_wp2_with fail
  go_loopw [5, 6, 7] (fun v i _ wr => ∃ k : Nat, k ≤ s.size ∧ i = .int .i64 k ∧ RB wr w.heap.size s.data.toList k v ∧ Below w.heap.size w wr) (fun _ i _ _ => s.size - (intOf i).toNat)
  case atStart => exact ⟨0, Nat.zero_le _, rfl, .inl ⟨rfl, repTo_zero _⟩, Below.refl _ _⟩
  case round =>
    obtain ⟨k, hk, rfl, hRB, hbl⟩ := hrel
    have htr := ht.below hbl ht.lt
    by_cases hlt : k < s.size
    · obtain ⟨x, hx⟩ := str_get s k hlt
      have hix := index_str s k x hx
      have hxl : x.toNat < 256 := x.toNat_lt
      have hc := htr.cell x.toNat (tab_get x)
      have HX := Lib.hid hx
      clear hx
      by_cases hsw : swB x = x
      · have HS := Lib.hid (repTo_same _ k x HX.out hsw)
        rw [hsw] at hc
        have HR : Hid (RB wr w.heap.size s.data.toList (k + 1) u5) := by
          refine Lib.hid ?_
          rcases hRB with ⟨hv, hr⟩ | ⟨g, c, hv, hg, hb⟩
          · exact .inl ⟨hv, by rw [HS.out, hr]⟩
          · exact .inr ⟨g, c, hv, hg, by rw [HS.out]; exact hb⟩
        clear hRB hsw
        go_wp2_with fail
        go_roundw
        case rel => exact ⟨k + 1, by omega, by go_num, HR.out, hbl⟩
        case measure => simp [intOf]; omega
      · have hne : ¬ ((swB x).toNat : Int) = (x.toNat : Int) := fun h => hsw (UInt8.toNat_inj.mp (by omega))
        have hnb : (((swB x).toNat : Int) != (x.toNat : Int)) = true := by simp; omega
        have HST := Lib.hid (repTo_step _ k x HX.out)
        clear hsw
        rcases hRB with ⟨rfl, hr⟩ | ⟨g, c, rfl, hg, hb⟩
        · have hb0 := Byt.new wr s
          have hlb := below_bytesR wr s
          have hz := hbl.size
          have hc2 := (hlb.cell (p := ⟨t, x.toNat, none⟩) htr.lt).trans hc
          have hb1 := hb0.cell k HX.out
          have hf1 := hb0.free k (by rw [HLL.out]; exact hlt)
          have HR : Hid (RB ((Lib.bytesWorld wr 5 s).setCell ⟨wr.heap.size, k, none⟩ (.int .u8 ((swB x).toNat : Int))) w.heap.size s.data.toList (k + 1) (.slice (some ⟨wr.heap.size, 0, none⟩) s.size (grownCap wr s.size 0 5))) := by
            refine Lib.hid (.inr ⟨_, _, by rw [HLL.out], hz, ?_⟩)
            rw [← HST.out, hr]
            exact hb0.set k (swB x)
          have HB : Hid (Below w.heap.size w ((Lib.bytesWorld wr 5 s).setCell ⟨wr.heap.size, k, none⟩ (.int .u8 ((swB x).toNat : Int)))) :=
            (hbl.trans (hlb.mono hz)).setCell (p := ⟨wr.heap.size, k, none⟩) hz _
          clear hr hb0
          go_wp2_with fail
          go_roundw
          case rel => exact ⟨k + 1, by omega, by go_num, HR.out, HB.out⟩
          case measure => simp [intOf]; omega
        · have hb1 := hb.cell k (repTo_get _ k x HX.out)
          have hf1 := hb.free k (by rw [repTo_len, HLL.out]; exact hlt)
          have HR : Hid (RB (wr.setCell ⟨g, k, none⟩ (.int .u8 ((swB x).toNat : Int))) w.heap.size s.data.toList (k + 1) (.slice (some ⟨g, 0, none⟩) s.data.toList.length c)) := by
            refine Lib.hid (.inr ⟨_, _, rfl, hg, ?_⟩)
            rw [← HST.out]
            exact hb.set k (swB x)
          have HB : Hid (Below w.heap.size w (wr.setCell ⟨g, k, none⟩ (.int .u8 ((swB x).toNat : Int)))) := hbl.setCell (p := ⟨g, k, none⟩) hg _
          rw [HLL.out] at HR ⊢
          clear hb
          go_wp2_with fail
          go_roundw
          case rel => exact ⟨k + 1, by omega, by go_num, HR.out, HB.out⟩
          case measure => simp [intOf]; omega
    · obtain rfl : k = s.size := by omega
      have HE := Lib.hid (repTo_end s.data.toList)
      rcases hRB with ⟨rfl, hr⟩ | ⟨g, c, rfl, hg, hb⟩
      · have HS : Hid (s = r) := by
          refine Lib.hid ?_
          rw [HRr.out, ← HE.out, HLL.out, hr]
        clear hr
        go_wp2_with fail
        go_ret
        exact ⟨congrArg (fun x => Ending.returned (.string x)) HS.out, hbl⟩
      · have hrun := run_convert_bytes_back (P := Tryz.prog) wr 22 9 5 ⟨g, 0, none⟩ c (s.data.toList.map swB) Tryz.underlying22 Tryz.underlying5 Tryz.underlying9 fun j hj => by
          rw [addr_zero]
          refine hb.cell j ?_
          rw [← HLL.out, HE.out, List.getElem?_eq_getElem hj]
        rw [List.length_map, HLL.out] at hrun
        rw [HLL.out]
        rw [← HRr.out] at hrun
        clear hb
        go_wp2_with fail
        go_ret
        exact ⟨rfl, hbl⟩

theorem owns_keep {w w' : World} {B n : Nat} {e : TypeId} {v : Value} {l : List Value} (h : w.ownsRow B e 1 v n l) (hk : ∀ g, v.ownBlock = some g → w'.heap[g]? = w.heap[g]?) : w'.ownsRow B e 1 v n l := by
  refine ⟨h.1, ?_⟩
  rcases h.2 with hn | ⟨g, cap, cur, hv, hb, hg, r⟩
  · exact .inl hn
  · exact .inr ⟨g, cap, cur, hv, hb, by rw [hk g (by rw [hv]; rfl)]; exact hg, r⟩

/-- What a Replacer reads like before its first use. -/
def newR (w : World) (b : Nat) : Prop := ∃ g c B, B ≤ b ∧ Blk w b #[.int .u32 0, .int .i32 0, .int .u32 0, .nilIface, .slice (some ⟨g, 0, none⟩) 4 c] 68 ∧ w.ownsRow B 9 1 (.slice (some ⟨g, 0, none⟩) 4 c) 4 lrrl ∧ g ≠ b

theorem ent_buildOnce (args : Array Value) (W : World) : (callFunc 29 args).run Tryz.prog W = .ok (.enter 29 args) W := by
  simp [go_sem]

set_option maxRecDepth 100000 in
set_option maxHeartbeats 2000000 in
theorem replace_any (b B : Nat) (s : ByteArray) (w : World) (hs : s.size ≤ 1048576) (hn : newR w b) (hB : B ≤ b) :
    Calls Tryz.prog 17 #[.pointer (some ⟨b, 0, none⟩), .string s] w fun e w' => e = .returned (.string ⟨(s.data.toList.map swB).toArray⟩) ∧ Below B w w' := by
  obtain ⟨g, c, B', hB', hb, ho, hne⟩ := hn
  have c0 := hb.cell 0 rfl
  have c1 := hb.cell 1 rfl
  have f1 := hb.free 1
  have hmf : ∀ (fn : Fn) (first cap : Array Value) (w : World), (Instr.makeFunc fn first cap).run Tryz.prog w = .ok (.func fn first cap) w := fun _ _ _ _ => rfl
  go_enter Tryz.func17, Tryz.ntmps17
  go_wp2_with fail
  have hb1 := hb.set 1 (.int .i32 1)
  have ho1 : (w.setCell ⟨b, 1, none⟩ (.int .i32 1)).ownsRow B' 9 1 (.slice (some ⟨g, 0, none⟩) 4 c) 4 lrrl := owns_keep ho fun k hk => by
    injection hk with hk
    subst hk
    exact heap_setCell_other w ⟨b, 1, none⟩ g _ hne
  have hlb1 : Below B w (w.setCell ⟨b, 1, none⟩ (.int .i32 1)) := (Below.refl _ _).setCell (p := ⟨b, 1, none⟩) hB _
  refine (onceDo_any b 0 29 (.pointer (some ⟨b, 0, none⟩)) w (fun w' => ∃ t, w.heap.size ≤ t ∧
      Blk w' b #[.int .u32 0, .int .i32 1, .int .u32 0, .iface 114 (.pointer (some ⟨t, 0, none⟩)), .slice none 0 0] 68 ∧ Blk w' t tabLR.toArray 113 ∧ Below B w w') c0 c1 f1 ent_buildOnce ?_ ?_).mono ?_
  · refine (buildOnce_any b g c B B' _ _ _ _ _ hb1 ho1 hB).mono ?_
    rintro e w' ⟨he, t, h1, h2, h3, h4⟩
    exact ⟨he, t, Nat.le_trans hlb1.size h1, h2, h3, hlb1.trans h4⟩
  · rintro w' ⟨t, h1, h2, h3, h4⟩
    exact ⟨h2.cell 0 rfl, h2.cell 1 rfl, h2.free 0, h2.free 1⟩
  rintro e w' ⟨rfl, w1, ⟨t, ht, hbt, htt, hl1⟩, rfl⟩
  have hbd : Blk w1.drew b #[.int .u32 0, .int .i32 1, .int .u32 0, .iface 114 (.pointer (some ⟨t, 0, none⟩)), .slice none 0 0] 68 := hbt
  have htd : Blk w1.drew t tabLR.toArray 113 := htt
  have hb2 : Blk ((w1.drew.setCell ⟨b, 0, none⟩ (.int .u32 1)).setCell ⟨b, 0 + 1, none⟩ (.int .i32 0)) b #[.int .u32 1, .int .i32 0, .int .u32 0, .iface 114 (.pointer (some ⟨t, 0, none⟩)), .slice none 0 0] 68 := (hbd.set 0 (.int .u32 1)).set 1 (.int .i32 0)
  have htne : t ≠ b := by have := hb.lt; omega
  have ht2 : Blk ((w1.drew.setCell ⟨b, 0, none⟩ (.int .u32 1)).setCell ⟨b, 0 + 1, none⟩ (.int .i32 0)) t tabLR.toArray 113 := (htd.other ⟨b, 0, none⟩ _ htne).other ⟨b, 1, none⟩ _ htne
  have hl2 : Below B w ((w1.drew.setCell ⟨b, 0, none⟩ (.int .u32 1)).setCell ⟨b, 0 + 1, none⟩ (.int .i32 0)) := ((below_drewN' hl1 1).setCell (p := ⟨b, 0, none⟩) hB _).setCell (p := ⟨b, 1, none⟩) hB _
  generalize (w1.drew.setCell ⟨b, 0, none⟩ (.int .u32 1)).setCell ⟨b, 0 + 1, none⟩ (.int .i32 0) = W2 at hb2 ht2 hl2 ⊢
  have d3 := hb2.cell 3 (v := .iface 114 (.pointer (some ⟨t, 0, none⟩))) rfl
  clear hbd htd hbt htt
  go_wp2_with fail
  refine (byteReplace_any t s _ hs ht2).mono ?_
  rintro e w3 ⟨rfl, hl3⟩
  obtain ⟨r, hr⟩ : ∃ r : ByteArray, r = ⟨(s.data.toList.map swB).toArray⟩ := ⟨_, rfl⟩
  rw [← hr]
  have HR := Lib.hid hr
  have hl4 := hl2.trans (hl3.mono (by have := hl2.size; have := hb.lt; omega))
  clear hr
  go_wp2_with fail
  go_ret
  exact ⟨congrArg (fun x => Ending.returned (.string x)) HR.out, hl4⟩
end Go.Proofs.YtjpfbonnohodhaaGreatDoor
