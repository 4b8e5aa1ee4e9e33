/- Contracts of the two functions that tell whether a list may be a stack, the model's and the program's: both answer isMk. -/
import Derived.Test.YtjpfbonnohodhaaDoorOrd2
import Derived.Test.YtjpfbonnohodhaaDoorStCell
import Derived.Test.YtjpfbonnohodhaaDoorStRows
import Derived.Deep.RegionLaw
namespace Go.Proofs.YtjpfbonnohodhaaDoor
open Go.RowKit

def isMk (l : List Int) : Bool := decide (l ≠ []) && isOrdB (l.map St.cellOf)
theorem mk_ord {l : List Int} (h : isMk l = true) : l ≠ [] ∧ isOrd (l.map St.cellOf) := by
  unfold isMk isOrdB at h
  simp only [Bool.and_eq_true, decide_eq_true_eq] at h
  exact h
theorem ord_sm {l : List Int} (h : isOrd (l.map St.cellOf)) : ∀ x ∈ l, -64 ≤ x ∧ x ≤ 64 ∧ x ≠ 0 := by
  intro x hx
  have h1 := h.2.1 (St.cellOf x) (List.mem_map.2 ⟨x, hx, rfl⟩)
  have h2 := h.1
  rw [List.length_map] at h1 h2
  unfold St.cellOf at h1
  omega
theorem mk_sm {l : List Int} (h : isMk l = true) : inSm l := fun x hx => by
  have := ord_sm (mk_ord h).2 x hx
  omega
theorem mk_len {l : List Int} (h : isMk l = true) : 0 < l.length ∧ l.length ≤ 64 := by
  have h1 := mk_ord h
  have h2 := h1.2.1
  rw [List.length_map] at h2
  exact ⟨List.length_pos_iff.2 h1.1, h2⟩
theorem mk_no_far {l : List Int} {x : Int} (hx : x ∈ l) (h : x < -64 ∨ 64 < x) : isMk l = false := by
  rw [← Bool.not_eq_true]
  intro hm
  have := ord_sm (mk_ord hm).2 x hx
  omega
theorem mk_no_len {l : List Int} (h : l.length = 0 ∨ 64 < l.length) : isMk l = false := by
  rw [← Bool.not_eq_true]
  intro hm
  have := mk_len hm
  omega
theorem mk_some {l : List Int} (h : 0 < l.length) : isMk l = isOrdB (l.map St.cellOf) := by
  unfold isMk
  rw [decide_eq_true (List.length_pos_iff.1 h), Bool.true_and]
theorem cap_le {w : World} {lo hi n c : Nat} {e : TypeId} {α : Type} {enc : α → Value} {A : Option Addr} {l : List α} (h : Own enc w lo hi e (.slice A n c) l) : n ≤ c := by
  obtain ⟨_, c', hv, hc'⟩ := h.form
  injection hv with _ _ hv
  have := h.rd.1
  omega

set_option maxRecDepth 100000 in
set_option maxHeartbeats 4000000 in
theorem specMk_any (A : Option Addr) (n c B : Nat) (l : List Int) (w : World) (h : Rd I w B A n l) (hB : B ≤ w.heap.size) (hn : n ≤ 1048576) :
    Calls Tryd.prog 42 #[.slice A n c] w fun e w' => e = .returned (.bool (isMk l)) ∧ Below w.heap.size w w' := by
  obtain ⟨i0, hi0, hz0, hz1, hz2⟩ := info_parts infoI
  have HL : Hid (l.length = n) := h.1
  have hl0 := Own.lit0 I w 2
  have hb3 : Below w.heap.size w (w.alloc (.cells #[] 2)) := (Below.refl _ _).alloc (Nat.le_refl _) _
  go_enter Tryd.func42, Tryd.ntmps42
  go_wp2_with fail
  go_loopw [3, 4] (fun v i wr => ∃ k : Nat, k ≤ n ∧ i = .int .i64 (k : Int) ∧ (∃ A3 c3, v = .slice A3 k c3 ∧ Own I wr w.heap.size wr.heap.size 2 (.slice A3 k c3) ((l.take k).map St.cellOf)) ∧ Below w.heap.size w wr) (fun _ i _ => n - (intOf i).toNat)
  case atStart => exact ⟨0, Nat.zero_le _, rfl, ⟨_, _, rfl, by simpa using hl0.mono (Nat.le_refl _) (by simp)⟩, hb3⟩
  case round =>
    clear hl0 hb3
    obtain ⟨k, hk, rfl, ⟨A3, c3, rfl, ho⟩, hb⟩ := hrel
    have hsz := hb.size
    by_cases hlt : k < n
    · obtain ⟨b, o, x, rfl, hbB, hx, hcx⟩ := (h.below hb hB).at_ hlt
      have HX := Lib.hid hx
      clear hx
      by_cases hin : -64 ≤ x ∧ x ≤ 64
      · obtain ⟨hin0, hin1⟩ := hin
        have HNX : Hid ((l.take (k + 1)).map St.cellOf = (l.take k).map St.cellOf ++ [St.cellOf x]) := by rw [take_next l k x HX.out, List.map_append]; exact Lib.hid rfl
        have u1 : IntKind.i64.wrap (-x) = -x := IntWalk.i64_in _ (by omega)
        have u2 : IntKind.i64.wrap (-x - 1) = -x - 1 := IntWalk.i64_in _ (by omega)
        have u3 : IntKind.i64.wrap (x - 1) = x - 1 := IntWalk.i64_in _ (by omega)
        have hoD : Own I wr.drew w.heap.size wr.heap.size 2 (.slice A3 k c3) ((l.take k).map St.cellOf) := ho
        have HK : Hid (k ≤ 1099511627776) := show k ≤ 1099511627776 by omega
        by_cases hneg : x < 0
        · have hm : x < -x := by omega
          have em : (if x < -x then -x else x) = -x := if_pos hm
          have HCE := Lib.hid (cell_neg hneg)
          clear hneg
          go_wp2_with fail
          refine (l01In_yes x (-64) 64 _ hin0 hin1).mono ?_
          rintro e _ ⟨rfl, rfl⟩
          go_wp2_with fail
          go_region_law (refine step_push3 _ rfl (.tmp 18) (.tmp 30) 25 rfl 2 i0 _ 8 Tryd.underlying25 hi0 hz0 hz1 hz2 rfl A3 k c3 _ _ _ (by rfl) hoD (-x - 1) (by rfl) rfl HK.out (by omega) hsz ?_; intro A4 c4 w4 ho4 hm4 hk4)
          all_goals
            have hb4 := hm4.below (B := w.heap.size) (Nat.le_refl _) hsz
            go_wp2_with fail
            go_roundw
            case rel => exact ⟨k + 1, by omega, by go_num, ⟨_, _, rfl, by rw [HNX.out, HCE.out]; exact ho4⟩, hb.drew.trans hb4⟩
            case measure => simp [intOf]; omega
        · have hm : ¬ x < -x := by omega
          have em : (if x < -x then -x else x) = x := if_neg hm
          have HCE := Lib.hid (cell_pos hneg)
          clear hneg
          go_wp2_with fail
          refine (l01In_yes x (-64) 64 _ hin0 hin1).mono ?_
          rintro e _ ⟨rfl, rfl⟩
          go_wp2_with fail
          go_region_law (refine step_push3 _ rfl (.tmp 18) (.tmp 30) 25 rfl 2 i0 _ 8 Tryd.underlying25 hi0 hz0 hz1 hz2 rfl A3 k c3 _ _ _ (by rfl) hoD (x - 1) (by rfl) rfl HK.out (by omega) hsz ?_; intro A4 c4 w4 ho4 hm4 hk4)
          all_goals
            have hb4 := hm4.below (B := w.heap.size) (Nat.le_refl _) hsz
            go_wp2_with fail
            go_roundw
            case rel => exact ⟨k + 1, by omega, by go_num, ⟨_, _, rfl, by rw [HNX.out, HCE.out]; exact ho4⟩, hb.drew.trans hb4⟩
            case measure => simp [intOf]; omega
      · have HN := Lib.hid (mk_no_far (List.mem_of_getElem? HX.out) (by omega))
        go_wp2_with fail
        refine (l01In_no x (-64) 64 _ (by omega)).mono ?_
        rintro e _ ⟨rfl, rfl⟩
        go_wp2_with fail
        go_ret
        exact ⟨ret_b HN.out.symm, hb⟩
    · obtain rfl : k = n := by omega
      by_cases h0 : k = 0
      · subst h0
        have HN := Lib.hid (mk_no_len (l := l) (.inl HL.out))
        go_wp2_with fail
        go_ret
        exact ⟨ret_b HN.out.symm, hb⟩
      · have HN : Hid (isMk l = isOrdB ((l.take k).map St.cellOf)) := by
          rw [List.take_of_length_le (Nat.le_of_eq HL.out)]
          exact Lib.hid (mk_some (by have := HL.out; omega))
        have h0' : 0 < k := by omega
        clear h0
        go_wp2_with fail
        refine (specIsOrder_any A3 k c3 _ _ _ ho.rd hn (cap_le ho)).mono ?_
        rintro e w5 ⟨rfl, hq⟩
        rw [← HN.out]
        go_wp2_with fail
        go_ret
        exact ⟨rfl, hb.trans (hq.below _)⟩

set_option maxRecDepth 100000 in
set_option maxHeartbeats 1000000 in
theorem markedCells_any (A : Option Addr) (n c B : Nat) (l : List Int) (w : World) (h : Rd I w B A n l) (hB : B ≤ w.heap.size) (hn : n ≤ 1048576) (hl : ∀ x ∈ l, -9223372036854775808 ≤ x ∧ x ≤ 9223372036854775807) :
    Calls Tryd.prog 47 #[.slice A n c] w fun e w' => ∃ g, e = .returned (.slice (some ⟨g, 0, none⟩) n n) ∧ Own I w' w.heap.size w'.heap.size 2 (.slice (some ⟨g, 0, none⟩) n n) (l.map St.cellOf) ∧ Below w.heap.size w w' := by
  obtain ⟨i0, hi0, hz0, hz1, hz2⟩ := info_parts infoI
  have HL : Hid (l.length = n) := h.1
  have HLB := Lib.hid hl
  clear hl
  go_enter Tryd.func47, Tryd.ntmps47
  go_wp2_with (at_make; refine wp_fresh _ rfl _ _ 25 rfl 2 i0 (0 : Int) 8 Tryd.underlying25 hi0 hz0 hz1 hz2 rfl .i64 .i64 _ _ n rfl rfl rfl rfl (by omega) (by omega) ?_; intro g w1 ho1 hb1)
  have hs1 := hb1.size
  go_loopw [4, 5, 11] (fun _ _ i wr => ∃ k : Nat, k ≤ n ∧ i = .int .i64 k ∧ Own I wr w.heap.size w1.heap.size 2 (.slice (some ⟨g, 0, none⟩) n n) ((l.map St.cellOf).take k ++ List.replicate (n - k) 0) ∧ Below w.heap.size w wr ∧ w1.heap.size ≤ wr.heap.size) (fun _ _ i _ => n - (intOf i).toNat)
  case atStart => exact ⟨0, Nat.zero_le _, rfl, by simpa using ho1, hb1, Nat.le_refl _⟩
  case round =>
    clear ho1
    obtain ⟨k, hk, rfl, ho, hb, hsz⟩ := hrel
    by_cases hlt : k < n
    · obtain ⟨b, o, x, rfl, hbB, hx, hc⟩ := (h.below hb hB).at_ hlt
      have hxb := HLB.out x (List.mem_of_getElem? hx)
      have HY : Hid ((l.map St.cellOf)[k]? = some (St.cellOf x)) := by rw [List.getElem?_map, hx]; exact Lib.hid rfl
      obtain ⟨g', z, hg, hg1, hg2, hg3, hz, hc2, hf2⟩ := ho.at_ hlt
      injection hg with hg
      injection hg with hg _ _
      subst hg
      have hset := ho.set_ (k := k) (St.cellOf x)
      clear hx hz
      go_wp2_with fail
      refine (markedCell_any x _ hxb).mono ?_
      rintro e _ ⟨rfl, rfl⟩
      go_wp2_with fail
      go_roundw
      case rel =>
        refine ⟨k + 1, by omega, by go_num, ?_, hb.trans (hset.2.below (Nat.le_refl _) hb.size), Nat.le_trans hsz hset.2.size⟩
        have := hset.1
        rwa [copy_step (l.map St.cellOf) k n (St.cellOf x) (by rw [List.length_map]; exact HL.out) HY.out hlt] at this
      case measure => simp [intOf]; omega
    · obtain rfl : k = n := by omega
      go_wp2_with fail
      go_ret
      refine ⟨g, rfl, ?_, hb⟩
      have hle : (l.map St.cellOf).length = k := by rw [List.length_map]; exact HL.out
      simpa [List.take_of_length_le (Nat.le_of_eq hle)] using ho.mono (Nat.le_refl _) hsz

set_option maxRecDepth 100000 in
set_option maxHeartbeats 1000000 in
theorem implMk_any (A : Option Addr) (n c B : Nat) (l : List Int) (w : World) (h : Rd I w B A n l) (hB : B ≤ w.heap.size) (hn : n ≤ 1048576) (hl : ∀ x ∈ l, -9223372036854775808 ≤ x ∧ x ≤ 9223372036854775807) :
    Calls Tryd.prog 38 #[.slice A n c] w fun e w' => e = .returned (.bool (isMk l)) ∧ Below w.heap.size w w' := by
  have HL : Hid (l.length = n) := h.1
  by_cases h1 : 1 ≤ n
  · by_cases h2 : n ≤ 64
    · have HN : Hid (isMk l = isOrdB (l.map St.cellOf)) := Lib.hid (mk_some (by have := HL.out; omega))
      go_enter Tryd.func38, Tryd.ntmps38
      go_wp2_with fail
      refine (markedCells_any A n c B l _ h hB hn hl).mono ?_
      rintro e w1 ⟨g, rfl, ho, hb⟩
      go_wp2_with fail
      refine (IsOrder_any _ n n _ _ _ ho.rd (Nat.le_refl _) hn).mono ?_
      rintro e w2 ⟨rfl, hb2⟩
      rw [← HN.out]
      have HB := Lib.hid (hb.trans (hb2.mono hb.size))
      go_wp2_with fail
      go_ret
      exact ⟨rfl, HB.out⟩
    · have HN := Lib.hid (mk_no_len (l := l) (.inr (by have := HL.out; omega)))
      have h2' : 64 < n := by omega
      clear h2
      go_enter Tryd.func38, Tryd.ntmps38
      go_wp2_with fail
      go_ret
      exact ⟨ret_b HN.out.symm, Below.refl _ _⟩
  · have HN := Lib.hid (mk_no_len (l := l) (.inl (by have := HL.out; omega)))
    obtain rfl : n = 0 := by omega
    clear h1
    go_enter Tryd.func38, Tryd.ntmps38
    go_wp2_with fail
    go_ret
    exact ⟨ret_b HN.out.symm, Below.refl _ _⟩
end Go.Proofs.YtjpfbonnohodhaaDoor
