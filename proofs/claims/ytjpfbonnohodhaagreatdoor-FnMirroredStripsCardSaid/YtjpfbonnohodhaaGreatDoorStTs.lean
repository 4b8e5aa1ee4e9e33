/- Contracts of TurnStack, the model's and the program's: both answer tsR and tsC. -/
import Derived.Test.YtjpfbonnohodhaaGreatDoorStMk
import Derived.Laws.CopyOwn
import Derived.BigRegion
namespace Go.Proofs.YtjpfbonnohodhaaGreatDoor
open Go.RowKit

/-- 'copy(own, list)' of two slices of one length. -/
theorem wp_copy {P : Program} {α : Type} {enc : α → Value} {w : World} {ops : Array Oper} {rest : List Oper} {o : Oper} {a : Act} {Q : Exit → Act → World → Prop} (hgd : o.guard = none) (d s : Operand) (t : TypeId)
    (ho : o.op = .call { callee := .builtin .copy, args := #[d, s], argTypes := #[t, t] }) (e : TypeId) (hu : P.underlying t = some (.slice e)) (hsz : (P.info? e).map (·.size) = some 1)
    (g n lo hi B : Nat) (A : Option Addr) (c : Nat) (l0 l : List α) (hd : a.eval d = .slice (some ⟨g, 0, none⟩) n n) (hs : a.eval s = .slice A n c)
    (hown : Own enc w lo hi e (.slice (some ⟨g, 0, none⟩) n n) l0) (hr : Rd enc w B A n l) (h1 : ∀ x, (enc x).oneCell' = true)
    (h : ∀ w', Own enc w' lo hi e (.slice (some ⟨g, 0, none⟩) n n) l → Only lo hi w w' → wpList P ops Q rest (a.put o.dst (.int .i64 (n : Int))) w') : wpList P ops Q (o :: rest) a w := by
  have hl0 : l0.length = n := hown.rd.1
  have hl : l.length = n := hr.1
  rcases Nat.eq_zero_or_pos n with h0 | hp
  · subst h0
    refine wpList_copy_nothing hgd d s t t ho e hu hsz _ A 0 0 0 c hd hs (by simp) ?_
    obtain rfl := List.eq_nil_of_length_eq_zero hl0
    obtain rfl := List.eq_nil_of_length_eq_zero hl
    exact h w hown (Only.refl _ _ _)
  · obtain ⟨b, off, rfl, hb, hc⟩ := hr.2 hp
    have hlt := hown.lt g rfl
    rcases hown.1.2 with ⟨_, hz⟩ | ⟨g', cap, cur, hv, hlo, hg, hnc, hcm, hcs, htk⟩
    · omega
    · injection hv with hv1 hv2 hv3
      injection hv1 with hv1
      injection hv1 with hv1 _ _
      subst hv1
      have hcap : cap = n := hv3.symm
      subst hcap
      have hcsz : cur.size = cap := by simpa using hcs
      refine wpList_copy_own hgd d s t t ho e hu hsz g 0 cap cap ⟨b, off, none⟩ cap c hd hs cur e hg (l.map enc) (by simp [hl]) (fun j v hj => ?_) (by simp [hl, hcsz]) (fun v hv => by obtain ⟨x, _, rfl⟩ := List.mem_map.1 hv; exact h1 x) ?_
      · rw [List.getElem?_map] at hj
        obtain ⟨x, hx, rfl⟩ := Option.map_eq_some_iff.1 hj
        rw [addr_plain]
        exact hc j x hx
      · have hrow : (cur.toList.take 0 ++ (l.map enc ++ cur.toList.drop (0 + (l.map enc).length))).toArray = (l.map enc).toArray := by
          rw [List.take_zero, List.nil_append, List.drop_of_length_le (by simp [hl, hcsz]), List.append_nil]
        rw [hrow, List.length_map, hl]
        refine h _ ⟨⟨by simp, .inr ⟨g, cap, (l.map enc).toArray, by rw [hl], hlo, setRow_heap w g cur _ e _ hg, by omega, hcm, by simp [hl], by simp [hl]; exact List.take_of_length_le (by simp [hl])⟩⟩, fun k hk => ?_⟩ ⟨rfl, rfl, rfl, by simp [World.setRow], fun k _ hk => setRow_other w g k _ (by omega)⟩
        simp only [Value.ownBlock, Option.some.injEq] at hk
        omega

/-- The list with its first k and its last k places exchanged. -/
def rvTo (l : List Int) (k : Nat) : List Int := (List.range l.length).map fun j => if j < k ∨ l.length ≤ j + k then l.getD (l.length - 1 - j) 0 else l.getD j 0
theorem rvTo_len (l : List Int) (k : Nat) : (rvTo l k).length = l.length := by simp [rvTo]
theorem rvTo_get (l : List Int) (k j : Nat) (hj : j < l.length) : (rvTo l k)[j]? = some (if j < k ∨ l.length ≤ j + k then l.getD (l.length - 1 - j) 0 else l.getD j 0) := by
  simp [rvTo, hj]
theorem rvTo_zero (l : List Int) : rvTo l 0 = l := by
  apply List.ext_getElem?
  intro j
  by_cases hj : j < l.length
  · rw [rvTo_get l 0 j hj, if_neg (by omega), List.getElem?_eq_getElem hj, List.getD_eq_getElem?_getD, List.getElem?_eq_getElem hj]
    rfl
  · rw [List.getElem?_eq_none (by rw [rvTo_len]; omega), List.getElem?_eq_none (by omega)]
theorem rvTo_end (l : List Int) (k : Nat) (h : l.length ≤ 2 * k + 1) : rvTo l k = l.reverse := by
  apply List.ext_getElem?
  intro j
  by_cases hj : j < l.length
  · rw [rvTo_get l k j hj, List.getElem?_reverse hj, List.getElem?_eq_getElem (show l.length - 1 - j < l.length by omega)]
    by_cases hc : j < k ∨ l.length ≤ j + k
    · rw [if_pos hc, List.getD_eq_getElem?_getD, List.getElem?_eq_getElem (show l.length - 1 - j < l.length by omega)]
      rfl
    · have hm : l.length - 1 - j = j := by omega
      rw [if_neg hc, List.getD_eq_getElem?_getD, List.getElem?_eq_getElem hj]
      simp [hm]
  · rw [List.getElem?_eq_none (by rw [rvTo_len]; omega), List.getElem?_eq_none (by rw [List.length_reverse]; omega)]
theorem rvTo_step (l : List Int) (k i : Nat) (h : k < i) (hi : i + k + 1 = l.length) (x y : Int) (hx : (rvTo l k)[k]? = some x) (hy : (rvTo l k)[i]? = some y) :
    ((rvTo l k).set k y).set i x = rvTo l (k + 1) := by
  rw [rvTo_get l k k (by omega), if_neg (by omega)] at hx
  rw [rvTo_get l k i (by omega), if_neg (by omega)] at hy
  injection hx with hx
  injection hy with hy
  apply List.ext_getElem?
  intro j
  by_cases hj : j < l.length
  · rw [rvTo_get l (k + 1) j hj, List.getElem?_set, List.getElem?_set, List.length_set, rvTo_len]
    by_cases h1 : i = j
    · subst h1
      rw [if_pos rfl, if_pos hj, if_pos (by omega), ← hx, show l.length - 1 - i = k by omega]
    · rw [if_neg h1]
      by_cases h2 : k = j
      · subst h2
        rw [if_pos rfl, if_pos hj, if_pos (by omega), ← hy, show l.length - 1 - k = i by omega]
      · rw [if_neg h2, rvTo_get l k j hj]
        by_cases h3 : j < k ∨ l.length ≤ j + k
        · rw [if_pos h3, if_pos (by omega)]
        · rw [if_neg h3, if_neg (by omega)]
  · rw [List.getElem?_eq_none (by simp only [List.length_set, rvTo_len]; omega), List.getElem?_eq_none (by rw [rvTo_len]; omega)]

set_option maxRecDepth 100000 in
set_option maxHeartbeats 2000000 in
theorem reverse_any (g n lo hi : Nat) (l : List Int) (w : World) (h : Own I w lo hi 2 (.slice (some ⟨g, 0, none⟩) n n) l) (hn : n ≤ 1048576) :
    Calls Tryz.prog 21 #[.slice (some ⟨g, 0, none⟩) n n] w fun e w' => e = .returned (.tuple #[]) ∧ Own I w' lo hi 2 (.slice (some ⟨g, 0, none⟩) n n) l.reverse ∧ Only lo hi w w' := by
  have HL : Hid (l.length = n) := h.rd.1
  have e0 : IntKind.i64.wrap ((n : Int) - 1) = (n : Int) - 1 := IntWalk.i64_in _ (by omega)
  go_enter Tryz.func21, Tryz.ntmps21
  go_wp2_with fail
  go_loopw [2, 3] (fun i j wr => ∃ k : Nat, k ≤ n ∧ i = .int .i64 (k : Int) ∧ j = .int .i64 ((n : Int) - 1 - (k : Int)) ∧ Own I wr lo hi 2 (.slice (some ⟨g, 0, none⟩) n n) (rvTo l k) ∧ Only lo hi w wr) (fun i _ _ => n - (intOf i).toNat)
  case atStart => exact ⟨0, Nat.zero_le _, rfl, by simp, by rw [rvTo_zero]; exact h, Only.refl _ _ _⟩
  case round =>
    obtain ⟨k, hk, rfl, rfl, ho, hO⟩ := hrel
    by_cases hlt : 2 * k + 1 < n
    · obtain ⟨i, hi'⟩ : ∃ i : Nat, i + k + 1 = n := ⟨n - 1 - k, by omega⟩
      have hj : (n : Int) - 1 - (k : Int) = (i : Int) := by omega
      have hki : k < i := by omega
      have hin : i < n := by omega
      have hkn : k < n := by omega
      have e1 : IntKind.i64.wrap ((k : Int) + 1) = (k : Int) + 1 := IntWalk.i64_in _ (by omega)
      have e2 : IntKind.i64.wrap ((i : Int) - 1) = (i : Int) - 1 := IntWalk.i64_in _ (by omega)
      obtain ⟨g1, x, hg1, _, _, _, hx, cx, fx⟩ := ho.at_ hkn
      obtain ⟨g2, y, hg2, _, _, _, hy, cy, fy⟩ := ho.at_ hin
      injection hg1 with hg1
      injection hg1 with hg1 _ _
      subst hg1
      injection hg2 with hg2
      injection hg2 with hg2 _ _
      subst hg2
      have HST := Lib.hid (rvTo_step l k i hki (by have := HL.out; omega) x y hx hy)
      have hs1 := ho.set_ (k := k) y
      have hs2 := hs1.1.set_ (k := i) x
      have HO2 := Lib.hid hs2.1
      have HOO := Lib.hid ((hO.trans hs1.2).trans hs2.2)
      have HI := Lib.hid hi'
      rw [hj]
      clear hx hy hs1 hs2 hj hi' ho
      go_wp2_with fail
      go_region
      all_goals
        go_wp2_with fail
        go_roundw
        case rel =>
          refine ⟨k + 1, by omega, by go_num, ?_, ?_, ?_⟩
          · have := HI.out
            congr 1
            omega
          · rw [← HST.out]
            exact HO2.out
          · exact HOO.out.drew
        case measure => simp [intOf]; omega
    · have hge : ¬ (k : Int) < (n : Int) - 1 - (k : Int) := by omega
      have hge' : (n : Int) - 1 - (k : Int) ≤ (k : Int) := by omega
      have HE := Lib.hid (rvTo_end l k (by have := HL.out; omega))
      rw [HE.out] at ho
      go_wp2_with fail
      go_end0
      exact ⟨rfl, ho, hO⟩

def tsR (l : List Int) : List Int := if isMk l = true then St.turn l else []
def tsC (l : List Int) : Int := if isMk l = true then 0 else 1

set_option maxRecDepth 100000 in
set_option maxHeartbeats 1000000 in
theorem specTs_any (A : Option Addr) (n c B : Nat) (l : List Int) (w : World) (h : Rd I w B A n l) (hB : B ≤ w.heap.size) (hn : n ≤ 1048576) :
    Calls Tryz.prog 10 #[.slice A n c] w fun e w' => LC w (tsR l) (tsC l) e w' := by
  by_cases hm : isMk l = true
  · have HR : Hid (tsR l = St.turn l) := by unfold tsR; rw [if_pos hm]; exact Lib.hid rfl
    have HC : Hid (tsC l = 0) := by unfold tsC; rw [if_pos hm]; exact Lib.hid rfl
    have HM := Lib.hid hm
    clear hm
    go_enter Tryz.func10, Tryz.ntmps10
    go_wp2_with fail
    refine (specMk_any A n c B l _ h hB hn).mono ?_
    rintro e w1 ⟨rfl, hb1⟩
    rw [HM.out]
    go_wp2_with fail
    refine (turn_any A n c B l _ (h.below hb1 hB) (Nat.le_trans hB hb1.size) hn (mk_sm HM.out)).mono ?_
    rintro e w2 ⟨A2, c2, rfl, ho, hb2⟩
    have hz1 := hb1.size
    go_wp2_with fail
    go_ret2
    exact LC.mk_ HR.out HC.out ho hz1 (Nat.le_refl _) hn (hb1.trans (hb2.mono hz1))
  · have HR : Hid (tsR l = []) := by unfold tsR; rw [if_neg hm]; exact Lib.hid rfl
    have HC : Hid (tsC l = 1) := by unfold tsC; rw [if_neg hm]; exact Lib.hid rfl
    have HM : Hid (isMk l = false) := Lib.hid (by simpa using hm)
    clear hm
    go_enter Tryz.func10, Tryz.ntmps10
    go_wp2_with fail
    refine (specMk_any A n c B l _ h hB hn).mono ?_
    rintro e w1 ⟨rfl, hb1⟩
    rw [HM.out]
    go_wp2_with fail
    go_ret2
    exact LC.nil_ HR.out HC.out hb1

theorem sizeI : (Tryz.prog.info? 2).map (·.size) = some 1 := by kernel_rfl

set_option maxRecDepth 100000 in
set_option maxHeartbeats 2000000 in
theorem implTs_any (A : Option Addr) (n c B : Nat) (l : List Int) (w : World) (h : Rd I w B A n l) (hB : B ≤ w.heap.size) (hn : n ≤ 1048576) (hl : ∀ x ∈ l, -9223372036854775808 ≤ x ∧ x ≤ 9223372036854775807) :
    Calls Tryz.prog 9 #[.slice A n c] w fun e w' => LC w (tsR l) (tsC l) e w' := by
  obtain ⟨i0, hi0, hz0, hz1, hz2⟩ := info_parts infoI
  by_cases hm : isMk l = true
  · have HR : Hid (tsR l = St.turn l) := by unfold tsR; rw [if_pos hm]; exact Lib.hid rfl
    have HC : Hid (tsC l = 0) := by unfold tsC; rw [if_pos hm]; exact Lib.hid rfl
    have HM := Lib.hid hm
    have HSM := Lib.hid (mk_sm hm)
    have HL : Hid (l.length = n) := h.1
    clear hm
    go_enter Tryz.func9, Tryz.ntmps9
    go_wp2_with fail
    refine (implMk_any A n c B l _ h hB hn hl).mono ?_
    rintro e w1 ⟨rfl, hb1⟩
    rw [HM.out]
    have hzz1 := hb1.size
    have h1 := h.below hb1 hB
    go_wp2_with (first
      | (at_make; refine wp_fresh w1 rfl _ _ 27 rfl 2 i0 (0 : Int) 8 Tryz.underlying27 hi0 hz0 hz1 hz2 rfl .i64 .i64 _ _ n rfl rfl rfl rfl (by omega) (by omega) ?_; intro g w2 ho2 hb2)
      | (with_reducible refine wp_copy rfl (.tmp 12) (.tmp 13) 27 rfl 2 Tryz.underlying27 sizeI g n _ _ B A c _ l rfl rfl ho2 (h1.below hb2 (by omega)) (fun _ => rfl) ?_; intro w3 ho3 hm3))
    refine (reverse_any g n _ _ l _ ho3 hn).mono ?_
    rintro e w4 ⟨rfl, ho4, hm4⟩
    have hb2s := hb2.size
    have hm3s := hm3.size
    have hm4s := hm4.size
    have HB4 : Hid (Below w.heap.size w w4) := (((hb1.trans (hb2.mono hzz1)).trans (hm3.below hzz1 (by omega))).trans (hm4.below hzz1 (by omega)))
    have ho5 := ho4.mono hzz1 (Nat.le_refl _)
    have HLR : Hid (l.reverse.length = n) := Lib.hid (by rw [List.length_reverse]; exact HL.out)
    clear ho2 ho3 ho4 hm3 hm4 hb2
    go_wp2_with fail
    go_loopw [5, 19] (fun _ i wr => ∃ k : Nat, k ≤ n ∧ i = .int .i64 (k : Int) ∧ Own I wr w.heap.size w2.heap.size 2 (.slice (some ⟨g, 0, none⟩) n n) ((St.turn l).take k ++ l.reverse.drop k) ∧ Below w.heap.size w wr ∧ w2.heap.size ≤ wr.heap.size) (fun _ i _ => n - (intOf i).toNat)
    case atStart => exact ⟨0, Nat.zero_le _, rfl, by simpa using ho5, HB4.out, by omega⟩
    case round =>
      clear ho5
      obtain ⟨k, hk, rfl, ho, hb, hsz⟩ := hrel
      by_cases hlt : k < n
      · obtain ⟨g', x, hg, _, _, _, hx, hc2, hf2⟩ := ho.at_ hlt
        injection hg with hg
        injection hg with hg _ _
        subst hg
        have hxr : l.reverse[k]? = some x := by
          rw [List.getElem?_append_right (by rw [List.length_take, turn_len, HL.out]; omega), List.length_take, turn_len, HL.out, Nat.min_eq_left hk, Nat.sub_self, List.getElem?_drop] at hx
          simpa using hx
        have HT : Hid ((St.turn l)[k]? = some (-x)) := by
          unfold St.turn
          rw [List.getElem?_map, hxr]
          exact Lib.hid rfl
        have hxs := HSM.out x (List.mem_reverse.1 (List.mem_of_getElem? hxr))
        have u1 : IntKind.i64.wrap (-x) = -x := IntWalk.i64_in _ (by omega)
        have hset := ho.set_ (k := k) (-x)
        clear hx hxr
        go_wp2_with fail
        go_roundw
        case rel =>
          refine ⟨k + 1, by omega, by go_num, ?_, hb.trans (hset.2.below (Nat.le_refl _) hb.size), Nat.le_trans hsz hset.2.size⟩
          have := hset.1
          rwa [mark_step (St.turn l) l.reverse k n (-x) (by rw [turn_len]; exact HL.out) HLR.out HT.out hlt] at this
        case measure => simp [intOf]; omega
      · obtain rfl : k = n := by omega
        go_wp2_with fail
        go_ret2
        refine LC.mk_ HR.out HC.out (R' := St.turn l) ?_ (Nat.le_refl _) hsz hn hb
        have h1 : (St.turn l).take k = St.turn l := List.take_of_length_le (by rw [turn_len]; exact Nat.le_of_eq HL.out)
        have h2 : l.reverse.drop k = [] := List.drop_of_length_le (Nat.le_of_eq HLR.out)
        rw [h1, h2, List.append_nil] at ho
        exact ho
  · have HR : Hid (tsR l = []) := by unfold tsR; rw [if_neg hm]; exact Lib.hid rfl
    have HC : Hid (tsC l = 1) := by unfold tsC; rw [if_neg hm]; exact Lib.hid rfl
    have HM : Hid (isMk l = false) := Lib.hid (by simpa using hm)
    clear hm
    go_enter Tryz.func9, Tryz.ntmps9
    go_wp2_with fail
    refine (implMk_any A n c B l _ h hB hn hl).mono ?_
    rintro e w1 ⟨rfl, hb1⟩
    rw [HM.out]
    go_wp2_with fail
    go_ret2
    exact LC.nil_ HR.out HC.out hb1
end Go.Proofs.YtjpfbonnohodhaaGreatDoor
