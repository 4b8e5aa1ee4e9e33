/- Contracts of MirrorFolds, the model's and the program's: both answer mfR and mfC. -/
import Derived.Test.YtjpfbonnohodhaaGreatDoorRepl
import Derived.Test.YtjpfbonnohodhaaGreatDoorStIs
import Derived.BigRegion
namespace Go.Proofs.YtjpfbonnohodhaaGreatDoor
open Go.RowKit Go.Shelf

def mfR (l : List UInt8) : ByteArray := if St.foldsB l = true then ⟨(l.map swB).toArray⟩ else ⟨#[]⟩
def mfC (l : List UInt8) : Int := if St.foldsB l = true then 0 else 1
/-- Bytes of a byte's number. -/
def UM (x : Int) : Value := .int .u8 x
theorem infoUM : (Tryz.prog.info? 5).map (fun i => (i.zero, i.size, i.bytes)) = some (some (.int .u8 0), 1, 1) := by kernel_rfl
def mfI (l : List UInt8) : List Int := l.map fun x => ((swB x).toNat : Int)
theorem mfI_next (l : List UInt8) (k : Nat) (x : UInt8) (hx : l[k]? = some x) : mfI (l.take (k + 1)) = mfI (l.take k) ++ [((swB x).toNat : Int)] := by
  rw [take_more l k x hx, mfI, List.map_append]
  rfl

set_option maxRecDepth 100000 in
set_option maxHeartbeats 2000000 in
theorem specMf_any (s : ByteArray) (w : World) (hs : s.size ≤ 1048576) :
    Calls Tryz.prog 7 #[.string s] w fun e w' => e = .returned (.tuple #[.string (mfR s.data.toList), .int .i64 (mfC s.data.toList)]) ∧ Below w.heap.size w w' := by
  obtain ⟨i0, hi0, hz0, hz1, hz2⟩ := info_parts infoUM
  by_cases hf : St.foldsB s.data.toList = true
  · have HF := Lib.hid hf
    have HR : Hid (mfR s.data.toList = ⟨(s.data.toList.map swB).toArray⟩) := by unfold mfR; rw [if_pos hf]; exact Lib.hid rfl
    have HC : Hid (mfC s.data.toList = 0) := by unfold mfC; rw [if_pos hf]; exact Lib.hid rfl
    clear hf
    obtain ⟨r, hr⟩ : ∃ r, mfR s.data.toList = r := ⟨_, rfl⟩
    rw [hr, HC.out]
    have HRr : Hid (r = ⟨(s.data.toList.map swB).toArray⟩) := Lib.hid (hr.symm.trans HR.out)
    clear hr
    go_enter Tryz.func7, Tryz.ntmps7
    go_wp2_with fail
    refine (specIsFolds_any s _ hs).mono ?_
    rintro e _ ⟨rfl, rfl⟩
    rw [HF.out]
    have hl0 := Own.lit0 UM w 5
    have hb0 : Below w.heap.size w (w.alloc (.cells #[] 5)) := (Below.refl _ _).alloc (Nat.le_refl _) _
    go_wp2_with fail
    go_loopw [4, 5] (fun o i wr => ∃ (k : Nat) (g c : Nat), o = .slice (some ⟨g, 0, none⟩) k c ∧ i = .int .i64 (k : Int) ∧ k ≤ s.size ∧ Own UM wr w.heap.size wr.heap.size 5 (.slice (some ⟨g, 0, none⟩) k c) (mfI (s.data.toList.take k)) ∧ Below w.heap.size w wr) (fun _ i _ => s.size - (intOf i).toNat)
    case atStart => exact ⟨0, _, _, rfl, rfl, by omega, by simpa [mfI] using hl0.mono (Nat.le_refl _) (by simp), hb0⟩
    case round =>
      clear hl0 hb0
      obtain ⟨k, g, c, rfl, rfl, hk, ho, hb⟩ := hrel
      have hzr := hb.size
      by_cases hlt : k < s.size
      · obtain ⟨x, hx⟩ := str_get s k hlt
        have hix := index_str s k x hx
        have HX := Lib.hid (mfI_next _ k x hx)
        have hlr := St.folds_all HF.out x (List.mem_of_getElem? hx)
        clear hx
        rcases hlr with rfl | rfl
        · have hix' : ∀ W : World, (Instr.index 9 (.string s) (.int .i64 (k : Int))).run Tryz.prog W = .ok (.int .u8 76) W := hix
          clear hix
          go_wp2_with (at_builtin; refine wp_push (enc := UM) _ rfl _ _ 22 rfl 5 i0 _ 1 Tryz.underlying22 hi0 hz0 hz1 hz2 rfl (some ⟨g, 0, none⟩) k c _ _ _ rfl ho 82 rfl rfl (by omega) (by omega) (by omega) ?_; intro A4 c4 w4 ho4 hm4)
          have ho5 : Own UM w4 w.heap.size w4.heap.size 5 (.slice A4 (k + 1) c4) (mfI (s.data.toList.take (k + 1))) := by rw [HX.out]; exact ho4
          obtain ⟨g4, _, rfl, _, _, _, _⟩ := ho4.at_ (k := 0) (by omega)
          have HB := Lib.hid (hb.trans (hm4.below (Nat.le_refl _) hzr))
          go_roundw
          case rel => exact ⟨k + 1, g4, c4, rfl, rfl, by omega, ho5, HB.out⟩
          case measure => simp [intOf]; omega
        · have hix' : ∀ W : World, (Instr.index 9 (.string s) (.int .i64 (k : Int))).run Tryz.prog W = .ok (.int .u8 82) W := hix
          clear hix
          go_wp2_with (at_builtin; refine wp_push (enc := UM) _ rfl _ _ 22 rfl 5 i0 _ 1 Tryz.underlying22 hi0 hz0 hz1 hz2 rfl (some ⟨g, 0, none⟩) k c _ _ _ rfl ho 76 rfl rfl (by omega) (by omega) (by omega) ?_; intro A4 c4 w4 ho4 hm4)
          have ho5 : Own UM w4 w.heap.size w4.heap.size 5 (.slice A4 (k + 1) c4) (mfI (s.data.toList.take (k + 1))) := by rw [HX.out]; exact ho4
          obtain ⟨g4, _, rfl, _, _, _, _⟩ := ho4.at_ (k := 0) (by omega)
          have HB := Lib.hid (hb.trans (hm4.below (Nat.le_refl _) hzr))
          go_roundw
          case rel => exact ⟨k + 1, g4, c4, rfl, rfl, by omega, ho5, HB.out⟩
          case measure => simp [intOf]; omega
      · obtain rfl : k = s.size := by omega
        have hrun := run_convert_bytes_back (P := Tryz.prog) wr 22 9 5 ⟨g, 0, none⟩ c (s.data.toList.map swB) Tryz.underlying22 Tryz.underlying5 Tryz.underlying9 fun j hj => by
          obtain ⟨g', y, hg', _, _, _, hy, hcy, _⟩ := ho.at_ (k := j) (by simpa [toList_len] using hj)
          injection hg' with hg'
          injection hg' with hg' _ _
          subst hg'
          rw [addr_zero, hcy, List.take_of_length_le (Nat.le_of_eq (toList_len s))] at *
          rw [mfI, List.getElem?_map] at hy
          have hj' : j < s.data.toList.length := by simpa using hj
          rw [List.getElem?_eq_getElem hj'] at hy
          injection hy with hy
          rw [← hy, List.getElem_map]
          rfl
        rw [List.length_map, toList_len, ← HRr.out] at hrun
        clear ho
        go_wp2_with fail
        go_ret2
        exact ⟨rfl, hb⟩
  · have HF : Hid (St.foldsB s.data.toList = false) := Lib.hid (by simpa using hf)
    have HR : Hid (mfR s.data.toList = ⟨#[]⟩) := by unfold mfR; rw [if_neg hf]; exact Lib.hid rfl
    have HC : Hid (mfC s.data.toList = 1) := by unfold mfC; rw [if_neg hf]; exact Lib.hid rfl
    clear hf
    rw [HR.out, HC.out]
    go_enter Tryz.func7, Tryz.ntmps7
    go_wp2_with fail
    refine (specIsFolds_any s _ hs).mono ?_
    rintro e _ ⟨rfl, rfl⟩
    rw [HF.out]
    go_wp2_with fail
    go_ret2
    exact ⟨rfl, Below.refl _ _⟩

set_option maxRecDepth 100000 in
set_option maxHeartbeats 2000000 in
theorem implMf_any (s : ByteArray) (w : World) (hs : s.size ≤ 1048576) :
    Calls Tryz.prog 6 #[.string s] w fun e w' => e = .returned (.tuple #[.string (mfR s.data.toList), .int .i64 (mfC s.data.toList)]) ∧ Below w.heap.size w w' := by
  by_cases hf : St.foldsB s.data.toList = true
  · have HF := Lib.hid hf
    have HR : Hid (mfR s.data.toList = ⟨(s.data.toList.map swB).toArray⟩) := by unfold mfR; rw [if_pos hf]; exact Lib.hid rfl
    have HC : Hid (mfC s.data.toList = 0) := by unfold mfC; rw [if_pos hf]; exact Lib.hid rfl
    clear hf
    obtain ⟨r, hr⟩ : ∃ r, mfR s.data.toList = r := ⟨_, rfl⟩
    rw [hr, HC.out]
    have HRr : Hid (r = ⟨(s.data.toList.map swB).toArray⟩) := Lib.hid (hr.symm.trans HR.out)
    clear hr
    go_enter Tryz.func6, Tryz.ntmps6
    go_wp2_with fail
    refine (implIsFolds_any s _ hs).mono ?_
    rintro e w1 ⟨rfl, hb1⟩
    rw [HF.out]
    have hz1 := hb1.size
    go_wp2_with fail
    have hg : Blk (w1.alloc (.cells lrrl.toArray 9)) w1.heap.size lrrl.toArray 9 := Blk.new _ _ rfl
    have hb2 : Below w.heap.size w (w1.alloc (.cells lrrl.toArray 9)) := hb1.alloc hz1 _
    refine (newReplacer_any w1.heap.size _ hg).mono ?_
    rintro e w3 ⟨b, g1, c1, rfl, hb, hbk, ho, hne, hb3⟩
    have hz3 := hb2.size
    have hb4 := hb2.trans (hb3.mono hz3)
    have hlt : w.heap.size ≤ b := by omega
    go_wp2_with fail
    refine (replace_any b w.heap.size s _ hs ⟨g1, c1, _, hb, hbk, ho, hne⟩ hlt).mono ?_
    rintro e w5 ⟨rfl, hb5⟩
    rw [← HRr.out]
    have hb6 := hb4.trans hb5
    go_wp2_with fail
    go_ret2
    exact ⟨rfl, hb6⟩
  · have HF : Hid (St.foldsB s.data.toList = false) := Lib.hid (by simpa using hf)
    have HR : Hid (mfR s.data.toList = ⟨#[]⟩) := by unfold mfR; rw [if_neg hf]; exact Lib.hid rfl
    have HC : Hid (mfC s.data.toList = 1) := by unfold mfC; rw [if_neg hf]; exact Lib.hid rfl
    clear hf
    rw [HR.out, HC.out]
    go_enter Tryz.func6, Tryz.ntmps6
    go_wp2_with fail
    refine (implIsFolds_any s _ hs).mono ?_
    rintro e w1 ⟨rfl, hb1⟩
    rw [HF.out]
    go_wp2_with fail
    go_ret2
    exact ⟨rfl, hb1⟩
end Go.Proofs.YtjpfbonnohodhaaGreatDoor
