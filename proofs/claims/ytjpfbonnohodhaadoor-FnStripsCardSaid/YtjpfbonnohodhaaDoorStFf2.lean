/- Contracts of FindFolds, the model's and the program's. -/
import Derived.Test.YtjpfbonnohodhaaDoorStFf
namespace Go.Proofs.YtjpfbonnohodhaaDoor
open Go.RowKit Go.Shelf

def ffR (l : List Int) : ByteArray := if isMk l = true then (match St.ans l with | some r => ⟨r.toArray⟩ | none => ⟨#[]⟩) else ⟨#[]⟩
def ffC (l : List Int) : Int := if isMk l = true then (match St.ans l with | some _ => 0 | none => 4) else 1

set_option maxRecDepth 100000 in
set_option maxHeartbeats 2000000 in
theorem specFf_any (A : Option Addr) (n c B : Nat) (l : List Int) (w : World) (h : Rd I w B A n l) (hB : B ≤ w.heap.size) (hn : n ≤ 1048576) :
    Calls Tryd.prog 16 #[.slice A n c] w fun e w' => e = .returned (.tuple #[.string (ffR l), .int .i64 (ffC l)]) ∧ Below w.heap.size w w' := by
  by_cases hm : isMk l = true
  · have hlen := mk_len hm
    have hnl : n = l.length := h.1.symm
    have HFA := Lib.hid (St.fnd_ans l hlen.1 hlen.2)
    have hR : ffR l = match St.ans l with | some r => ⟨r.toArray⟩ | none => ⟨#[]⟩ := by unfold ffR; rw [if_pos hm]
    have hC : ffC l = match St.ans l with | some _ => 0 | none => 4 := by unfold ffC; rw [if_pos hm]
    have HR := Lib.hid hR
    have HC := Lib.hid hC
    have HM := Lib.hid hm
    have hn64 : n ≤ 64 := by omega
    clear hm hR hC hlen hnl
    go_enter Tryd.func16, Tryd.ntmps16
    go_wp2_with fail
    refine (specMk_any A n c B l _ h hB hn).mono ?_
    rintro e w1 ⟨rfl, hb1⟩
    rw [HM.out]
    have hz1 := hb1.size
    go_wp2_with fail
    refine (find_any A n c B l hn64 7 ⟨#[]⟩ _ (by decide) rfl (h.below hb1 hB) (Nat.le_trans hB hz1)).mono ?_
    rintro e w2 ⟨t, b, rfl, hres, hb2⟩
    have hf : St.fnd l 7 (⟨#[]⟩ : ByteArray).data.toList = St.ans l := HFA.out
    rw [hf] at hres
    have HRES := Lib.hid hres
    have HB := Lib.hid (hb1.trans (hb2.mono hz1))
    clear hres hf
    cases b with
    | true =>
      go_wp2_with fail
      go_ret2
      have h1 := HRES.out
      have h2 := HR.out
      have h3 := HC.out
      cases hx : St.ans l with
      | some r =>
        rw [hx] at h1 h2 h3
        exact ⟨by rw [h2, h3, h1.2]; rfl, HB.out⟩
      | none =>
        rw [hx] at h1
        cases h1
    | false =>
      go_wp2_with fail
      go_ret2
      have h1 := HRES.out
      have h2 := HR.out
      have h3 := HC.out
      cases hx : St.ans l with
      | some r =>
        rw [hx] at h1
        cases h1.1
      | none =>
        rw [hx] at h2 h3
        exact ⟨by rw [h2, h3]; rfl, HB.out⟩
  · have HR : Hid (ffR l = ⟨#[]⟩) := by unfold ffR; rw [if_neg hm]; exact Lib.hid rfl
    have HC : Hid (ffC l = 1) := by unfold ffC; rw [if_neg hm]; exact Lib.hid rfl
    rw [HR.out, HC.out]
    have HM : Hid (isMk l = false) := Lib.hid (by simpa using hm)
    clear hm
    go_enter Tryd.func16, Tryd.ntmps16
    go_wp2_with fail
    refine (specMk_any A n c B l _ h hB hn).mono ?_
    rintro e w1 ⟨rfl, hb1⟩
    rw [HM.out]
    go_wp2_with fail
    go_ret2
    exact ⟨rfl, hb1⟩

theorem len_small : ∀ n : Nat, n < 65 → 0 < n → Lib.bitLen n = Nat.log2 n + 1 := by decide +kernel
theorem and_small : ∀ z : Nat, z < 64 → bits .and .i64 (z : Int) 1 = ((z % 2 : Nat) : Int) := by decide +kernel
theorem writeByte_L (B b : Nat) (l : List UInt8) (w : World) (h : Bld w B b l) (hlen : l.length ≤ 1048576) (hBw : B ≤ w.heap.size) :
    Calls Tryd.prog 49 #[.pointer (some ⟨b, 0, none⟩), .int .u8 76] w fun e w' => e = .returned .nilIface ∧ Bld w' B b (l ++ [76]) ∧ Below B w w' ∧ Oth b w w' := writeByte_any B b l 76 w h hlen hBw
theorem writeByte_R (B b : Nat) (l : List UInt8) (w : World) (h : Bld w B b l) (hlen : l.length ≤ 1048576) (hBw : B ≤ w.heap.size) :
    Calls Tryd.prog 49 #[.pointer (some ⟨b, 0, none⟩), .int .u8 82] w fun e w' => e = .returned .nilIface ∧ Bld w' B b (l ++ [82]) ∧ Below B w w' ∧ Oth b w w' := writeByte_any B b l 82 w h hlen hBw

set_option maxRecDepth 100000 in
set_option maxHeartbeats 4000000 in
theorem bottom_any (c n : Nat) (w : World) (hc : c < 64) (hn0 : 0 < n) (hn : n ≤ 64) :
    Calls Tryd.prog 39 #[.int .i64 (c : Int), .int .i64 (n : Int)] w fun e w' => e = .returned (.string ⟨(St.bot c (Nat.log2 n)).toArray⟩) ∧ Below w.heap.size w w' := by
  obtain ⟨k, hk⟩ : ∃ k, k = Nat.log2 n := ⟨_, rfl⟩
  have hk6 : k ≤ 6 := by
    have := (Nat.log2_lt (by omega : n ≠ 0)).2 (show n < 2 ^ 7 by omega)
    omega
  have HLB : Hid ((Lib.bitLen ((n : Int)).toNat : Int) = (k : Int) + 1) := by
    rw [Int.toNat_natCast, len_small n (by omega) hn0, ← hk]
    exact Lib.hid rfl
  rw [← hk]
  have u1 : IntKind.u64.wrap (n : Int) = (n : Int) := by
    show (n : Int) % 18446744073709551616 = _
    omega
  have e1 : IntKind.i64.wrap ((k : Int) + 1 - 2) = (k : Int) - 1 := by rw [IntWalk.i64_in _ (by omega)]; omega
  have hbn := Bld.new w
  have hb0 : Below w.heap.size w (w.alloc (.cells #[.pointer none, .slice none 0 0] 64)) := (Below.refl _ _).alloc (Nat.le_refl _) _
  clear hk
  go_enter Tryd.func39, Tryd.ntmps39
  go_wp2_with fail
  refine (Tryd.bits_Len64 (n : Int) _ (by omega) (by omega)).mono ?_
  rintro e _ ⟨rfl, rfl⟩
  rw [HLB.out]
  go_wp2_with fail
  go_loopw [6] (fun i wr => ∃ d : Nat, d ≤ k ∧ i = .int .i64 ((d : Int) - 1) ∧ (∃ T, Bld wr w.heap.size w.heap.size T ∧ Hid (T ++ St.bot c d = St.bot c k)) ∧ Below w.heap.size w wr) (fun i _ => (intOf i + 1).toNat)
  case atStart => exact ⟨k, Nat.le_refl _, rfl, ⟨[], hbn, Lib.hid rfl⟩, hb0⟩
  case round =>
    clear hbn hb0
    obtain ⟨d, hd, rfl, ⟨T, hT, HT⟩, hb⟩ := hrel
    have hsz := hb.size
    have hTl : T.length ≤ 6 := by
      have := congrArg List.length HT.out
      rw [List.length_append, St.bot_len, St.bot_len] at this
      omega
    by_cases h0 : d = 0
    · subst h0
      have HE : Hid (T = St.bot c k) := by
        have := HT.out
        rw [St.bot, List.append_nil] at this
        exact Lib.hid this
      go_wp2_with fail
      refine (Tryd.Builder_String_any w.heap.size w.heap.size T _ hT hsz).mono ?_
      rintro e w5 ⟨rfl, hb5⟩
      rw [HE.out]
      go_wp2_with fail
      go_ret
      exact ⟨rfl, hb.trans hb5⟩
    · obtain ⟨j, rfl⟩ : ∃ j, d = j + 1 := ⟨d - 1, by omega⟩
      have ej : ((j + 1 : Nat) : Int) - 1 = (j : Int) := by omega
      have e2 : IntKind.i64.wrap ((j : Int) - 1) = (j : Int) - 1 := IntWalk.i64_in _ (by omega)
      obtain ⟨z, hz⟩ : ∃ z : Nat, z = c / 2 ^ j := ⟨_, rfl⟩
      have hz64 : z < 64 := by rw [hz]; exact Nat.lt_of_le_of_lt (Nat.div_le_self _ _) hc
      have s1 : (c : Int) / 2 ^ j = (z : Int) := by rw [hz]; simp
      have b1 := and_small z hz64
      obtain ⟨r, hr⟩ : ∃ r : Nat, r = z % 2 := ⟨_, rfl⟩
      rw [← hr] at b1
      have HBT : Hid (St.bot c (j + 1) = (if r = 1 then 76 else 82) :: St.bot c j) := by
        rw [St.bot, ← hz, ← hr]
        exact Lib.hid rfl
      have hr2 : r < 2 := by omega
      rw [ej]
      clear ej h0 hz hr
      by_cases h1 : r = 1
      · subst h1
        have HN : Hid ((T ++ [76]) ++ St.bot c j = St.bot c k) := Lib.hid (by rw [← HT.out, HBT.out]; simp)
        go_wp2_with fail
        refine (writeByte_L w.heap.size w.heap.size T _ hT (by omega) hsz).mono ?_
        rintro e w5 ⟨rfl, h5, hb5, _⟩
        go_wp2_with fail
        go_roundw
        case rel => exact ⟨j, by omega, rfl, ⟨_, h5, HN⟩, hb.trans hb5⟩
        case measure => simp [intOf]
      · obtain rfl : r = 0 := by omega
        have HN : Hid ((T ++ [82]) ++ St.bot c j = St.bot c k) := Lib.hid (by rw [← HT.out, HBT.out]; simp)
        clear h1
        go_wp2_with fail
        refine (writeByte_R w.heap.size w.heap.size T _ hT (by omega) hsz).mono ?_
        rintro e w5 ⟨rfl, h5, hb5, _⟩
        go_wp2_with fail
        go_roundw
        case rel => exact ⟨j, by omega, rfl, ⟨_, h5, HN⟩, hb.trans hb5⟩
        case measure => simp [intOf]

set_option maxRecDepth 100000 in
set_option maxHeartbeats 4000000 in
theorem implFf_any (A : Option Addr) (n c B : Nat) (l : List Int) (w : World) (h : Rd I w B A n l) (hB : B ≤ w.heap.size) (hn : n ≤ 1048576) (hl : ∀ x ∈ l, -9223372036854775808 ≤ x ∧ x ≤ 9223372036854775807) :
    Calls Tryd.prog 15 #[.slice A n c] w fun e w' => e = .returned (.tuple #[.string (ffR l), .int .i64 (ffC l)]) ∧ Below w.heap.size w w' := by
  by_cases hm : isMk l = true
  · have hlen := mk_len hm
    have hnl : l.length = n := h.1
    have HNL := Lib.hid hnl
    obtain ⟨p, hp⟩ : ∃ p, n = p + 1 := ⟨n - 1, by omega⟩
    have hp64 : p < 64 := by omega
    have hR : ffR l = match St.ans l with | some r => ⟨r.toArray⟩ | none => ⟨#[]⟩ := by unfold ffR; rw [if_pos hm]
    have hC : ffC l = match St.ans l with | some _ => 0 | none => 4 := by unfold ffC; rw [if_pos hm]
    have HR := Lib.hid hR
    have HC := Lib.hid hC
    have HM := Lib.hid hm
    have hn64 : n ≤ 64 := by omega
    have hpn : p < n := by omega
    have e1 : IntKind.i64.wrap ((n : Int) - 1) = (p : Int) := by rw [IntWalk.i64_in _ (by omega)]; omega
    have HP := Lib.hid hp
    clear hm hR hC hlen hnl hp
    go_enter Tryd.func15, Tryd.ntmps15
    go_wp2_with fail
    refine (implMk_any A n c B l _ h hB hn hl).mono ?_
    rintro e w1 ⟨rfl, hb1⟩
    rw [HM.out]
    have hz1 := hb1.size
    have h1 := h.below hb1 hB
    obtain ⟨b, o, x, rfl, hbB, hx, hcx⟩ := h1.at_ hpn
    have hxs := ord_sm (mk_ord HM.out).2 x (List.mem_of_getElem? hx)
    have hlast : (St.lastC l : Int) = St.cellOf x := by
      have hg : l.getLast? = some x := by
        rw [List.getLast?_eq_getElem?, HNL.out, HP.out]
        exact hx
      unfold St.lastC St.cellOf
      rw [hg]
      show ((x.natAbs - 1 : Nat) : Int) = _
      omega
    have HLC := Lib.hid hlast
    have hc64 : Hid (St.lastC l < 64) := by
      refine Lib.hid ?_
      unfold St.cellOf at hlast
      omega
    clear hlast hx
    go_wp2_with fail
    refine (markedCell_any x _ (by omega)).mono ?_
    rintro e _ ⟨rfl, rfl⟩
    rw [← HLC.out]
    go_wp2_with fail
    refine (bottom_any (St.lastC l) n _ hc64.out (by omega) hn64).mono ?_
    rintro e w2 ⟨rfl, hb2⟩
    have hz2 := hb2.size
    have HB2 := Lib.hid (hb1.trans (hb2.mono hz1))
    have hk6 : Nat.log2 n ≤ 6 := by
      have := (Nat.log2_lt (by omega : n ≠ 0)).2 (show n < 2 ^ 7 by omega)
      omega
    have HFO := Lib.hid (St.bot_folds (St.lastC l) (Nat.log2 n) hk6)
    have HANS : Hid (St.ans l = if St.stack (St.bot (St.lastC l) (Nat.log2 n)) = l then some (St.bot (St.lastC l) (Nat.log2 n)) else none) := by
      unfold St.ans
      rw [HNL.out]
      exact Lib.hid rfl
    have HBL := Lib.hid (St.bot_len (St.lastC l) (Nat.log2 n))
    generalize St.bot (St.lastC l) (Nat.log2 n) = T at HFO HANS HBL ⊢
    obtain ⟨s, hs⟩ : ∃ s : ByteArray, s = ⟨T.toArray⟩ := ⟨_, rfl⟩
    have HTS : Hid (s.data.toList = T) := by rw [hs]; exact Lib.hid (by simp)
    have hss : s.size ≤ 1048576 := by
      have := congrArg List.length HTS.out
      rw [toList_len] at this
      have := HBL.out
      omega
    rw [← hs]
    have HS := Lib.hid hs
    clear hs hk6
    go_wp2_with fail
    refine (implFs_any s _ hss).mono ?_
    rintro e w3 ⟨A3, n3, c3, rfl, ho3, hn3, hb3⟩
    have hfr : fsR s.data.toList = St.stack T := by unfold fsR; rw [HTS.out, if_pos HFO.out]
    have hfc : fsC s.data.toList = 0 := by unfold fsC; rw [HTS.out, if_pos HFO.out]
    rw [hfr] at ho3
    rw [hfc]
    have HB3 := Lib.hid (HB2.out.trans (hb3.mono (by omega)))
    have h3 := (h.below HB2.out hB).below hb3 (by omega)
    clear hfr hfc
    go_wp2_with fail
    refine (equal_any A3 (some ⟨b, o, none⟩) n3 n c3 c _ B _ l _ ho3.rd h3 hn3 hn).mono ?_
    rintro e w4 ⟨rfl, hq⟩
    have HB4 := Lib.hid (HB3.out.trans (hq.below _))
    have hr := HR.out
    have hcc := HC.out
    rw [HANS.out] at hr hcc
    by_cases he : St.stack T = l
    · rw [if_pos he] at hr hcc
      have HR2 := Lib.hid hr
      have HC2 := Lib.hid hcc
      rw [decide_eq_true he]
      clear hr hcc he
      go_wp2_with fail
      go_ret2
      exact ⟨by rw [HR2.out, HC2.out, HS.out]; rfl, HB4.out⟩
    · rw [if_neg he] at hr hcc
      have HR2 := Lib.hid hr
      have HC2 := Lib.hid hcc
      rw [decide_eq_false he]
      clear hr hcc he
      go_wp2_with fail
      go_ret2
      exact ⟨by rw [HR2.out, HC2.out]; rfl, HB4.out⟩
  · have HR : Hid (ffR l = ⟨#[]⟩) := by unfold ffR; rw [if_neg hm]; exact Lib.hid rfl
    have HC : Hid (ffC l = 1) := by unfold ffC; rw [if_neg hm]; exact Lib.hid rfl
    rw [HR.out, HC.out]
    have HM : Hid (isMk l = false) := Lib.hid (by simpa using hm)
    clear hm
    go_enter Tryd.func15, Tryd.ntmps15
    go_wp2_with fail
    refine (implMk_any A n c B l _ h hB hn hl).mono ?_
    rintro e w1 ⟨rfl, hb1⟩
    rw [HM.out]
    go_wp2_with fail
    go_ret2
    exact ⟨rfl, hb1⟩
end Go.Proofs.YtjpfbonnohodhaaDoor
