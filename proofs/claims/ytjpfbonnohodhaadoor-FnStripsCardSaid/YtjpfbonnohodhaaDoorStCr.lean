/- The contract of the program's CreasesOf. -/
import Derived.Test.YtjpfbonnohodhaaDoorStFs
import Derived.Test.YtjpfbonnohodhaaDoorStMk
import Derived.Test.YtjpfbonnohodhaaDoorInv2
import Derived.Test.YtjpfbonnohodhaaDoorBld2
namespace Go.Proofs.YtjpfbonnohodhaaDoor
open Go.RowKit Go.Shelf

def crR (l : List UInt8) : ByteArray := if St.foldsB l = true then ⟨(St.crB (St.crI l)).toArray⟩ else ⟨#[]⟩
theorem writeByte_V (B b : Nat) (l : List UInt8) (w : World) (h : Bld w B b l) (hlen : l.length ≤ 1048576) (hBw : B ≤ w.heap.size) :
    Calls Tryd.prog 49 #[.pointer (some ⟨b, 0, none⟩), .int .u8 86] w fun e w' => e = .returned .nilIface ∧ Bld w' B b (l ++ [86]) ∧ Below B w w' ∧ Oth b w w' := writeByte_any B b l 86 w h hlen hBw
theorem writeByte_M (B b : Nat) (l : List UInt8) (w : World) (h : Bld w B b l) (hlen : l.length ≤ 1048576) (hBw : B ≤ w.heap.size) :
    Calls Tryd.prog 49 #[.pointer (some ⟨b, 0, none⟩), .int .u8 77] w fun e w' => e = .returned .nilIface ∧ Bld w' B b (l ++ [77]) ∧ Below B w w' ∧ Oth b w w' := writeByte_any B b l 77 w h hlen hBw
theorem inv_range (l : List Int) (k : Nat) : ∀ x ∈ St.invTo l k, 0 ≤ x ∧ (x < (k : Int) ∨ x = 0) := by
  induction k with
  | zero =>
    intro x hx
    simp [St.invTo] at hx
    omega
  | succ k ih =>
    intro x hx
    rw [St.invTo] at hx
    rcases List.mem_or_eq_of_mem_set hx with hx | hx
    · have := ih x hx
      omega
    · subst hx
      omega
theorem cri_at (st : List Int) (n k : Nat) (P P2 x : Int) (hk : k < n - 1) (h1 : (St.invTo (st.map St.cellOf) n)[k]? = some P) (h2 : (St.invTo (st.map St.cellOf) n)[k + 1]? = some P2) (h3 : st[P.toNat]? = some x) :
    (St.crIof st n)[k]? = some (if decide (x < 0) = decide (P < P2) then 86 else 77) := by
  unfold St.crIof
  simp only [List.getElem?_map, List.getElem?_range hk, Option.map_some, List.getD_eq_getElem?_getD, h1, h2, Option.getD_some, h3]
theorem cri_len (st : List Int) (n : Nat) : (St.crIof st n).length = n - 1 := by simp [St.crIof]
theorem crB_next {l : List Nat} {k v : Nat} (h : l[k]? = some v) : St.crB (l.take (k + 1)) = St.crB (l.take k) ++ [UInt8.ofNat v] := by
  rw [List.take_add_one, h]
  simp [St.crB]
theorem ord_cr {l : List UInt8} (hf : St.foldsB l = true) : isOrd ((St.stack l).map St.cellOf) := by
  have hc := St.cr_facts hf
  have hl := stack_len l hf
  refine ⟨?_, fun x hx => ?_, hc.nodup⟩
  · rw [List.length_map, hl]
    exact pow_le6 (St.folds_len hf)
  · rw [List.mem_map] at hx
    obtain ⟨y, hy, rfl⟩ := hx
    rw [List.length_map, hl]
    exact hc.range y hy
theorem stack_in {l : List UInt8} (hf : St.foldsB l = true) : ∀ x ∈ St.stack l, -9223372036854775808 ≤ x ∧ x ≤ 9223372036854775807 := by
  intro x hx
  rw [← marks_map l hf, List.mem_map] at hx
  obtain ⟨p, _, rfl⟩ := hx
  have := mkB_small l p (St.folds_len hf)
  omega

set_option maxRecDepth 100000 in
set_option maxHeartbeats 4000000 in
theorem implCr_any (s : ByteArray) (w : World) (hs : s.size ≤ 1048576) :
    Calls Tryd.prog 26 #[.string s] w fun e w' => e = .returned (.tuple #[.string (crR s.data.toList), .int .i64 (fsC s.data.toList)]) ∧ Below w.heap.size w w' := by
  by_cases hf : St.foldsB s.data.toList = true
  · have HR : Hid (crR s.data.toList = ⟨(St.crB (St.crI s.data.toList)).toArray⟩) := by unfold crR; rw [if_pos hf]; exact Lib.hid rfl
    have HC : Hid (fsC s.data.toList = 0) := by unfold fsC; rw [if_pos hf]; exact Lib.hid rfl
    have HFR : Hid (fsR s.data.toList = St.stack s.data.toList) := by unfold fsR; rw [if_pos hf]; exact Lib.hid rfl
    have HORD := Lib.hid (ord_cr hf)
    have HIN := Lib.hid (stack_in hf)
    have HSL := Lib.hid (stack_len _ hf)
    have h6 : s.size ≤ 6 := St.folds_len hf
    obtain ⟨N, hN⟩ : ∃ N : Nat, N = 2 ^ s.size := ⟨_, rfl⟩
    have h64 : N ≤ 64 := by rw [hN]; exact pow_le6 h6
    have hN0 : 0 < N := by rw [hN]; exact Nat.pow_pos (by omega)
    have HCI : Hid (St.crI s.data.toList = St.crIof (St.stack s.data.toList) N) := by
      unfold St.crI
      rw [toList_len, ← hN]
      exact Lib.hid rfl
    have HN := Lib.hid hN
    rw [HC.out]
    clear hf hN
    generalize hst : St.stack s.data.toList = st at HFR HORD HIN HSL HCI
    have HSL2 : Hid (st.length = N) := Lib.hid (by rw [HSL.out, toList_len]; exact HN.out.symm)
    go_enter Tryd.func26, Tryd.ntmps26
    go_wp2_with fail
    refine (implFs_any s _ hs).mono ?_
    rintro e w1 ⟨A, n, c, rfl, ho1, hn1, hb1⟩
    rw [HFR.out] at ho1
    rw [HC.out]
    obtain rfl : n = N := ho1.rd.1.symm.trans HSL2.out
    have hz1 := hb1.size
    go_wp2_with fail
    refine (markedCells_any A n c _ st _ ho1.rd (Nat.le_refl _) hn1 HIN.out).mono ?_
    rintro e w2 ⟨g2, rfl, ho2, hb2⟩
    have hz2 := hb2.size
    go_wp2_with fail
    refine (implInverse_any _ n n _ _ _ ho2.rd (Nat.le_refl _) hn1 HORD.out).mono ?_
    rintro e w3 ⟨g3, rfl, ho3, hb3⟩
    have hz3 := hb3.size
    have r1 := (ho1.rd.below hb2 (Nat.le_refl _)).below hb3 (by omega)
    have hB3 : Below w.heap.size w w3 := (hb1.trans (hb2.mono hz1)).trans (hb3.mono (by omega))
    have r3 := ho3.rd
    have hbn := Bld.new w3
    have hb0 : Below w3.heap.size w3 (w3.alloc (.cells #[.pointer none, .slice none 0 0] 64)) := (Below.refl _ _).alloc (Nat.le_refl _) _
    have HIV := Lib.hid (inv_range (st.map St.cellOf) n)
    obtain ⟨m, hm⟩ : ∃ m, n = m + 1 := ⟨n - 1, by omega⟩
    have e1 : IntKind.i64.wrap ((n : Int) - 1) = (m : Int) := by rw [IntWalk.i64_in _ (by omega)]; omega
    have hmn : m < n := by omega
    have hmn' : m ≤ n := by omega
    have HM := Lib.hid hm
    have HZ := Lib.hid hz1
    have HZ2 := Lib.hid hz2
    have HZ3 := Lib.hid hz3
    have HB3 := Lib.hid hB3
    clear hm ho1 ho2 ho3 hb1 hb2 hb3 hz1 hz2 hz3 hB3
    go_wp2_with fail
    go_loopw [8, 9, 10, 11, 29] (fun _ _ _ _ i wr => ∃ k : Nat, k ≤ m ∧ i = .int .i64 (k : Int) ∧ (∃ T, Bld wr w3.heap.size w3.heap.size T ∧ Hid (T = St.crB ((St.crIof st n).take k))) ∧ Below w3.heap.size w3 wr) (fun _ _ _ _ i _ => m - (intOf i).toNat)
    case atStart => exact ⟨0, Nat.zero_le _, rfl, ⟨[], hbn, Lib.hid rfl⟩, hb0⟩
    case round =>
      clear hbn hb0
      obtain ⟨k, hk, rfl, ⟨T, hT, HT⟩, hb⟩ := hrel
      have hsz := hb.size
      have hTl : T.length ≤ 64 := by
        have := congrArg List.length HT.out
        rw [St.crB, List.length_map, List.length_take, cri_len] at this
        omega
      by_cases hlt : k < m
      · have hkn : k < n := by omega
        have hkn1 : k + 1 < n := by have := HM.out; omega
        obtain ⟨b3, o3, P, hA3, _, hP, cP⟩ := (r3.below hb (by have := HZ3.out; omega)).at_ hkn
        obtain ⟨b3', o3', P2, hA3', _, hP2, cP2⟩ := (r3.below hb (by have := HZ3.out; omega)).at_ hkn1
        injection hA3 with hA3
        injection hA3 with q1 q2 _
        subst q1 q2
        injection hA3' with hA3'
        injection hA3' with q1 q2 _
        subst q1 q2
        have hPr := HIV.out P (List.mem_of_getElem? hP)
        obtain ⟨p, rfl⟩ := Int.eq_ofNat_of_zero_le hPr.1
        have hpn : p < n := by omega
        obtain ⟨b1, o1, x, rfl, _, hx, cx⟩ := (r1.below hb (by have := HZ2.out; have := HZ3.out; omega)).at_ hpn
        have HV := Lib.hid (cri_at st n k (p : Int) P2 x (by omega) hP hP2 (by simpa using hx))
        obtain ⟨k1, hk1⟩ : ∃ k1, k1 = k + 1 := ⟨_, rfl⟩
        have e2 : IntKind.i64.wrap ((k : Int) + 1) = (k1 : Int) := by rw [IntWalk.i64_in _ (by omega)]; omega
        have hk1n : k1 < n := by omega
        have cP' : wr.cell? ⟨g3, k, none⟩ = some (.int .i64 (p : Int)) := by simpa using cP
        have cP2' : wr.cell? ⟨g3, k1, none⟩ = some (.int .i64 P2) := by rw [hk1]; simpa using cP2
        have HK1 := Lib.hid hk1
        clear hP hP2 hx hPr cP cP2 hk1
        by_cases hx : x < 0
        · by_cases hu : (p : Int) < P2
          · have HV2 : Hid ((St.crIof st n)[k]? = some 86) := by
              have := HV.out
              rw [if_pos (by rw [decide_eq_true hx, decide_eq_true hu])] at this
              exact Lib.hid this
            have HTN : Hid (T ++ [86] = St.crB ((St.crIof st n).take (k + 1))) := Lib.hid (by rw [crB_next HV2.out, HT.out]; rfl)
            go_wp2_with fail
            refine (writeByte_V w3.heap.size w3.heap.size T _ hT (by omega) hsz).mono ?_
            rintro e w5 ⟨rfl, h5, hb5, _⟩
            have HB5 := Lib.hid (hb.trans hb5)
            go_wp2_with fail
            go_roundw
            case rel => exact ⟨k1, by have := HK1.out; omega, rfl, ⟨_, h5, by rw [HK1.out]; exact HTN⟩, HB5.out⟩
            case measure => have := HK1.out; simp [intOf]; omega
          · have HV2 : Hid ((St.crIof st n)[k]? = some 77) := by
              have := HV.out
              rw [if_neg (by rw [decide_eq_true hx, decide_eq_false hu]; decide)] at this
              exact Lib.hid this
            have HTN : Hid (T ++ [77] = St.crB ((St.crIof st n).take (k + 1))) := Lib.hid (by rw [crB_next HV2.out, HT.out]; rfl)
            go_wp2_with fail
            refine (writeByte_M w3.heap.size w3.heap.size T _ hT (by omega) hsz).mono ?_
            rintro e w5 ⟨rfl, h5, hb5, _⟩
            have HB5 := Lib.hid (hb.trans hb5)
            go_wp2_with fail
            go_roundw
            case rel => exact ⟨k1, by have := HK1.out; omega, rfl, ⟨_, h5, by rw [HK1.out]; exact HTN⟩, HB5.out⟩
            case measure => have := HK1.out; simp [intOf]; omega
        · by_cases hu : (p : Int) < P2
          · have HV2 : Hid ((St.crIof st n)[k]? = some 77) := by
              have := HV.out
              rw [if_neg (by rw [decide_eq_false hx, decide_eq_true hu]; decide)] at this
              exact Lib.hid this
            have HTN : Hid (T ++ [77] = St.crB ((St.crIof st n).take (k + 1))) := Lib.hid (by rw [crB_next HV2.out, HT.out]; rfl)
            go_wp2_with fail
            refine (writeByte_M w3.heap.size w3.heap.size T _ hT (by omega) hsz).mono ?_
            rintro e w5 ⟨rfl, h5, hb5, _⟩
            have HB5 := Lib.hid (hb.trans hb5)
            go_wp2_with fail
            go_roundw
            case rel => exact ⟨k1, by have := HK1.out; omega, rfl, ⟨_, h5, by rw [HK1.out]; exact HTN⟩, HB5.out⟩
            case measure => have := HK1.out; simp [intOf]; omega
          · have HV2 : Hid ((St.crIof st n)[k]? = some 86) := by
              have := HV.out
              rw [if_pos (by rw [decide_eq_false hx, decide_eq_false hu])] at this
              exact Lib.hid this
            have HTN : Hid (T ++ [86] = St.crB ((St.crIof st n).take (k + 1))) := Lib.hid (by rw [crB_next HV2.out, HT.out]; rfl)
            go_wp2_with fail
            refine (writeByte_V w3.heap.size w3.heap.size T _ hT (by omega) hsz).mono ?_
            rintro e w5 ⟨rfl, h5, hb5, _⟩
            have HB5 := Lib.hid (hb.trans hb5)
            go_wp2_with fail
            go_roundw
            case rel => exact ⟨k1, by have := HK1.out; omega, rfl, ⟨_, h5, by rw [HK1.out]; exact HTN⟩, HB5.out⟩
            case measure => have := HK1.out; simp [intOf]; omega
      · obtain rfl : k = m := by omega
        have HE : Hid (T = St.crB (St.crI s.data.toList)) := by
          rw [HT.out, HCI.out, List.take_of_length_le (by rw [cri_len]; have := HM.out; omega)]
          exact Lib.hid rfl
        go_wp2_with fail
        refine (Tryd.Builder_String_any w3.heap.size w3.heap.size T _ hT hsz).mono ?_
        rintro e w5 ⟨rfl, hb5⟩
        have HB5 := Lib.hid (HB3.out.trans ((hb.trans hb5).mono (by have := HZ.out; have := HZ2.out; have := HZ3.out; omega)))
        go_wp2_with fail
        go_ret2
        exact ⟨by rw [HR.out, HE.out]; rfl, HB5.out⟩
  · have HR : Hid (crR s.data.toList = ⟨#[]⟩) := by unfold crR; rw [if_neg hf]; exact Lib.hid rfl
    have HC : Hid (fsC s.data.toList = 1) := by unfold fsC; rw [if_neg hf]; exact Lib.hid rfl
    rw [HR.out, HC.out]
    clear hf
    go_enter Tryd.func26, Tryd.ntmps26
    go_wp2_with fail
    refine (implFs_any s _ hs).mono ?_
    rintro e w1 ⟨A, n, c, rfl, ho1, hn1, hb1⟩
    rw [HC.out]
    go_wp2_with fail
    go_ret2
    exact ⟨rfl, hb1⟩
end Go.Proofs.YtjpfbonnohodhaaDoor
