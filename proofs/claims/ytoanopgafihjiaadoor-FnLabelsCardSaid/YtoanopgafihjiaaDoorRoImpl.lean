/- Contracts of the program's roman numerals: written greedily. -/
import Derived.Test.YtoanopgafihjiaaDoorRoTab
import Derived.Test.YtoanopgafihjiaaDoorBld
namespace Go.Proofs.YtoanopgafihjiaaDoor
open Go.RowKit Ro

theorem signSize : (Tryd.prog.info? 72).map (·.size) = some signCells.size := by kernel_rfl
theorem greedy_hit (f k m : Nat) (h : k < 13) (hv : sgV k ≤ m) : greedy (f + 1) (signs.drop k) m = sgS k ++ greedy f (signs.drop k) (m - sgV k) := by
  rw [(sign_at k h).1, greedy, if_pos hv]
theorem greedy_miss (f k m : Nat) (h : k < 13) (hv : m < sgV k) : greedy (f + 1) (signs.drop k) m = greedy f (signs.drop (k + 1)) m := by
  rw [(sign_at k h).1, greedy, if_neg (by omega)]
/-- What has been written, and what is left to be written. -/
def Wr (n0 : Nat) (f k m : Nat) (T : List UInt8) : Prop := T ++ greedy f (signs.drop k) m = romanL n0 ∧ m + (13 - k) < f
theorem Wr.start {n0 : Nat} (h : n0 < 4000) : Wr n0 (n0 + 14) 0 n0 [] := ⟨greedy_roman n0 h, by omega⟩
theorem Wr.len {n0 f k m : Nat} {T : List UInt8} (h : Wr n0 f k m T) (hn : n0 < 4000) : T.length ≤ 15 := by
  have h1 := roman_len n0 hn
  rw [← h.1, List.length_append] at h1
  omega
theorem Wr.hit {n0 f k m : Nat} {T : List UInt8} (h : Wr n0 f k m T) (hk : k < 13) (hv : sgV k ≤ m) : ∃ f', Wr n0 f' k (m - sgV k) (T ++ sgS k) := by
  obtain ⟨h1, h2⟩ := h
  obtain ⟨f', rfl⟩ : ∃ f', f = f' + 1 := ⟨f - 1, by omega⟩
  have h3 := (sign_at k hk).2.1
  rw [greedy_hit f' k m hk hv, ← List.append_assoc] at h1
  exact ⟨f', h1, by omega⟩
theorem Wr.miss {n0 f k m : Nat} {T : List UInt8} (h : Wr n0 f k m T) (hk : k < 13) (hv : m < sgV k) : ∃ f', Wr n0 f' (k + 1) m T := by
  obtain ⟨h1, h2⟩ := h
  obtain ⟨f', rfl⟩ : ∃ f', f = f' + 1 := ⟨f - 1, by omega⟩
  rw [greedy_miss f' k m hk hv] at h1
  exact ⟨f', h1, by omega⟩
theorem Wr.done {n0 f m : Nat} {T : List UInt8} (h : Wr n0 f 13 m T) : T = romanL n0 := by
  have := h.1
  rwa [show signs.drop 13 = [] from rfl, greedy_nil, List.append_nil] at this

set_option maxRecDepth 100000 in
set_option maxHeartbeats 2000000 in
theorem implRoman_any (n : Int) (w : World) (hsg : Sg w) :
    Calls Tryd.prog 17 #[.int .i64 n] w fun e w' => e = .returned (.string (St (romI n))) ∧ Below w.heap.size w w' := by
  by_cases hn : 1 ≤ n ∧ n ≤ 3999
  · have HR : Hid (romI n = romanL n.toNat) := if_pos hn
    obtain ⟨h1, h2⟩ := hn
    obtain ⟨n0, rfl⟩ := Int.eq_ofNat_of_zero_le (show 0 ≤ n by omega)
    have hn4 : n0 < 4000 := by omega
    have hgl := hsg.lt
    have hb0 : Below w.heap.size w (w.alloc (.cells #[.pointer none, .slice none 0 0] 69)) := (Below.refl w.heap.size w).alloc (Nat.le_refl _) _
    have hbld0 := Bld.new w
    obtain ⟨tt, fr, hg⟩ := hsg.below hb0 hgl
    have HBL := Lib.hid hbld0
    clear hbld0
    go_enter Tryd.func17, Tryd.ntmps17
    go_wp2_with (refine wpList_load_row rfl 72 (.global 0) rfl 0 rfl tt signCells fr _ hg Tryd.underlying72 rfl signSize ?_)
    clear hg
    go_loopw [0, 13] (fun nn i wr => ∃ (k f m : Nat) (T : List UInt8), k ≤ 13 ∧ i = .int .i64 k ∧ nn = .int .i64 m ∧ m ≤ 3999 ∧ Hid (Wr n0 f k m T) ∧ Hid (Bld wr w.heap.size w.heap.size T) ∧ Below w.heap.size w wr) (fun _ i _ => 13 - (intOf i).toNat)
    case atStart => exact ⟨0, n0 + 14, n0, [], by omega, rfl, rfl, by omega, Wr.start hn4, HBL, hb0⟩
    case round =>
      clear HBL hb0
      obtain ⟨k, f, m, T, hk, rfl, rfl, hm, hW, hbld, hb⟩ := hrel
      have hlt := hbld.out.lt
      obtain ⟨wo, rfl⟩ : ∃ wo : World, wo = wr := ⟨_, rfl⟩
      by_cases hlt13 : k < 13
      · have hd13 : decide ((k : Int) < 13) = true := decide_eq_true (by omega)
        have hix := fun W => sign_index k hlt13 W
        obtain ⟨_, v1, v2, l1, l2⟩ := sign_at k hlt13
        obtain ⟨v, hv⟩ : ∃ v, sgV k = v := ⟨_, rfl⟩
        obtain ⟨sg, hs⟩ : ∃ sg, St (sgS k) = sg := ⟨_, rfl⟩
        have hss : sg.size ≤ 2 := by rw [← hs, St_size]; exact l2
        rw [hv] at v1 v2
        rw [hv, hs] at hix
        have HV := Lib.hid hv
        have HS := Lib.hid hs
        clear hv hs l1 l2
        have hbx : Blk (wo.alloc (.cells #[.string sg, .int .i64 v] 71)) wo.heap.size #[.string sg, .int .i64 v] 71 := Blk.new _ _ rfl
        have hbA := hb.alloc (by omega) (.cells #[.string sg, .int .i64 v] 71)
        have hbldA : Hid (Bld (wo.alloc (.cells #[.string sg, .int .i64 v] 71)) w.heap.size w.heap.size T) := hbld.out.alloc _
        go_wp2_with fail
        go_loopw [0] (fun nn wi => ∃ (f m : Nat) (T : List UInt8), nn = .int .i64 m ∧ m ≤ 3999 ∧ Hid (Wr n0 f k m T) ∧ Hid (Bld wi w.heap.size w.heap.size T) ∧ Below w.heap.size w wi ∧ Blk wi wo.heap.size #[.string sg, .int .i64 v] 71) (fun nn _ => (intOf nn).toNat)
        case atStart => exact ⟨f, m, T, rfl, hm, hW, hbldA, hbA, hbx⟩
        case round =>
          clear hW hbldA hbA hbx hbld hm hix
          obtain ⟨f, m, T, rfl, hm, hW, hbld, hb, hbx⟩ := hrel
          have b0 := hbx.cell 0 (v := .string sg) rfl
          have b1 := hbx.cell 1 (v := .int .i64 v) rfl
          have hlen := hW.out.len hn4
          by_cases hvm : v ≤ m
          · go_wp2_with fail
            refine (writeString_any _ _ _ _ _ hbld.out (by omega) (by have := hb.size; omega)).mono ?_
            rintro e w2 ⟨rfl, hbld2, hb2, hoth⟩
            have hbx2 := hoth _ _ _ (by decide) (by have := hbx.lt; omega) hbx
            have c0 := hbx2.cell 0 (v := .string sg) rfl
            have c1 := hbx2.cell 1 (v := .int .i64 v) rfl
            clear b0 b1
            go_wp2_with fail
            go_roundw
            case rel =>
              obtain ⟨f', hW'⟩ := hW.out.hit hlt13 (by rw [HV.out]; exact hvm)
              refine ⟨f', m - v, T ++ sgS k, ?_, by omega, ?_, ?_, hb.trans (hb2.mono (Nat.le_refl _)), hbx2⟩
              · rw [Int.ofNat_sub hvm]
              · rw [HV.out] at hW'
                exact hW'
              · rw [← HS.out, St_list] at hbld2
                exact hbld2
            case measure => simp [intOf]; omega
          · have hvm' : m < v := by omega
            go_wp2_with fail
            go_roundw
            case rel =>
              obtain ⟨f', hW'⟩ := hW.out.miss hlt13 (by rw [HV.out]; exact hvm')
              exact ⟨k + 1, f', m, T, by omega, by go_num, rfl, hm, hW', hbld, hb⟩
            case measure => simp [intOf]; omega
      · obtain rfl : k = 13 := by omega
        have hT := hW.out.done
        subst hT
        go_wp2_with fail
        refine (Tryd.Builder_String_any _ _ _ _ hbld.out (by have := hb.size; omega)).mono ?_
        rintro e w2 ⟨rfl, hb2⟩
        go_wp2_with fail
        go_ret
        exact ⟨ret_s (by rw [HR.out]; rfl), hb.trans hb2⟩
  · have HR : Hid (St (romI n) = ⟨#[]⟩) := by show _ = _; unfold romI; rw [if_neg hn]; rfl
    by_cases h1 : n < 1
    · clear hn
      go_enter Tryd.func17, Tryd.ntmps17
      go_wp2_with fail
      go_ret
      exact ⟨ret_s HR.out.symm, Below.refl _ _⟩
    · have h2 : 3999 < n := by omega
      clear hn
      go_enter Tryd.func17, Tryd.ntmps17
      go_wp2_with fail
      go_ret
      exact ⟨ret_s HR.out.symm, Below.refl _ _⟩
end Go.Proofs.YtoanopgafihjiaaDoor
