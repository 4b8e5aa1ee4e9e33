/- The contract of the model's CreasesOf. -/
import Derived.Test.YtjpfbonnohodhaaDoorStCr
import Derived.BigRegion
namespace Go.Proofs.YtjpfbonnohodhaaDoor
open Go.RowKit Go.Shelf

/-- Numbers as bytes. -/
abbrev EN (x : Nat) : Value := .int .u8 (x : Int)
theorem neUI : (5 : TypeId) ≠ 2 := by decide
theorem neUL : (5 : TypeId) ≠ 25 := by decide
/-- What lies in blocks of another type than bytes stays where only block g of bytes is written. -/
theorem Own.apart {α : Type} {enc : α → Value} {w w' : World} {lo hi g : Nat} {e : TypeId} {v : Value} {l : List α} {cs : Array Value} {fr : Nat × Nat} (h : Own enc w lo hi e v l) (hg : w.heap[g]? = some (.cells cs 5 fr)) (ht : (5 : TypeId) ≠ e) (ho : Only g (g + 1) w w') : Own enc w' lo hi e v l :=
  h.keepT fun b cs' fr' _ hb => ho.block b (Array.getElem?_eq_some_iff.1 hb).1 (by
    have hne : b ≠ g := by
      rintro rfl
      have := hg.symm.trans hb
      injection this with this
      injection this with _ this
      exact ht this
    omega)
theorem Stk.apart {w w' : World} {lo n c g : Nat} {A : Option Addr} {ls : List (List Int)} {cs : Array Value} {fr : Nat × Nat} (h : Stk w lo A n c ls) (hg : w.heap[g]? = some (.cells cs 5 fr)) (ho : Only g (g + 1) w w') : Stk w' lo A n c ls := by
  obtain ⟨hs, h1, h2, h3⟩ := h
  refine ⟨hs, (h1.apart hg neUL ho).mono (Nat.le_refl _) ho.size, ⟨h2.1, fun j hh hj => ?_⟩, h3⟩
  obtain ⟨l, hl, hd⟩ := h2.2 j hh hj
  exact ⟨l, hl, (Own.apart hd hg neUI ho).mono (Nat.le_refl _) ho.size⟩
theorem Own.heap {α : Type} {enc : α → Value} {w : World} {lo hi g n c : Nat} {e : TypeId} {l : List α} (h : Own enc w lo hi e (.slice (some ⟨g, 0, none⟩) n c) l) (_hn : 0 < n ∨ True) : (∃ cs fr, w.heap[g]? = some (.cells cs e fr)) := by
  rcases h.1.2 with ⟨hv, _⟩ | ⟨g', cap, cur, hv, hlo, hg, _⟩
  · cases hv
  · injection hv with hv _ _
    injection hv with hv
    injection hv with hv _ _
    subst hv
    exact ⟨cur, _, hg⟩
theorem Own.only1 {α : Type} {enc : α → Value} {w : World} {lo hi g n c k : Nat} {e : TypeId} {l : List α} (_h : Own enc w lo hi e (.slice (some ⟨g, 0, none⟩) n c) l) (x : α) : Only g (g + 1) w (w.setCell ⟨g, k, none⟩ (enc x)) :=
  ⟨rfl, rfl, rfl, by simp, fun b _ hne => heap_setCell_other w ⟨g, k, none⟩ b _ (fun e => by have e' : b = g := e; omega)⟩
theorem toN_small (l : List UInt8) (i : Nat) : ∀ v ∈ St.crToN l i, v < 256 := by
  have hin : ∀ (left right : List Int) (k : Nat) (out : List Nat), (∀ v ∈ out, v < 256) → ∀ v ∈ St.crInN left right out k, v < 256 := by
    intro left right k
    induction k with
    | zero => intro out h; exact h
    | succ k ih =>
      intro out h v hv
      rw [St.crInN_next] at hv
      rcases List.mem_or_eq_of_mem_set hv with hv | hv
      · exact ih out h v hv
      · subst hv
        unfold St.crVal
        split <;> omega
  induction i with
  | zero => intro v hv; simp [St.crToN] at hv; omega
  | succ i ih => exact hin _ _ _ _ ih

theorem crB_get (l : List Nat) (j : Nat) (hj : j < (St.crB l).length) (z : Nat) (hz : l[j]? = some z) (h : z < 256) : (((St.crB l)[j]).toNat : Int) = (z : Int) := by
  have h1 : (St.crB l)[j]? = some (UInt8.ofNat z) := by simp [St.crB, hz]
  rw [(List.getElem?_eq_some_iff.1 h1).2]
  simp [UInt8.toNat_ofNat']
  omega

set_option maxRecDepth 100000 in
set_option maxHeartbeats 4000000 in
theorem specCr_any (s : ByteArray) (w : World) (hs : s.size ≤ 1048576) :
    Calls Tryd.prog 27 #[.string s] w fun e w' => e = .returned (.tuple #[.string (crR s.data.toList), .int .i64 (fsC s.data.toList)]) ∧ Below w.heap.size w w' := by
  by_cases hf : St.foldsB s.data.toList = true
  · have HR : Hid (crR s.data.toList = ⟨(St.crB (St.crI s.data.toList)).toArray⟩) := by unfold crR; rw [if_pos hf]; exact Lib.hid rfl
    have HC : Hid (fsC s.data.toList = 0) := by unfold fsC; rw [if_pos hf]; exact Lib.hid rfl
    have HF := Lib.hid hf
    have HCF : Hid (St.CrF s.data.toList) := St.cr_facts hf
    have h6 : s.size ≤ 6 := St.folds_len hf
    have HLR := Lib.hid (St.folds_all hf)
    obtain ⟨N, hN⟩ : ∃ N : Nat, N = 2 ^ s.size := ⟨_, rfl⟩
    have h64 : N ≤ 64 := by rw [hN]; exact pow_le6 h6
    have hN0 : 0 < N := by rw [hN]; exact Nat.pow_pos (by omega)
    have hsh2 : IntKind.i64.wrap (2 ^ s.size) = (N : Int) := by rw [hN]; exact shl_one' _ h6
    have huw : IntKind.u64.wrap (s.size : Int) = (s.size : Int) := by
      show (s.size : Int) % 18446744073709551616 = _
      omega
    obtain ⟨q, hq⟩ : ∃ q, N = q + 1 := ⟨N - 1, by omega⟩
    have e1 : IntKind.i64.wrap ((N : Int) - 1) = (q : Int) := by rw [IntWalk.i64_in _ (by omega)]; omega
    have hq64 : q < 64 := by omega
    have HQ := Lib.hid hq
    have HN := Lib.hid hN
    obtain ⟨i0, hi0, hz0, hz1, hz2⟩ := info_parts infoU
    rw [HC.out]
    clear hf hN hq
    go_enter Tryd.func27, Tryd.ntmps27
    go_wp2_with fail
    refine (specIsFolds_any s _ hs).mono ?_
    rintro e _ ⟨rfl, rfl⟩
    rw [HF.out]
    go_wp2_with (at_make; refine wp_fresh (enc := EN) _ rfl _ _ 22 rfl 5 i0 (0 : Nat) 1 Tryd.underlying22 hi0 hz0 hz1 hz2 rfl .i64 .i64 _ _ q rfl rfl rfl rfl (by omega) (by omega) ?_; intro g w1 ho1 hb1)
    have hzz1 := hb1.size
    refine (start_any N _ h64).mono ?_
    rintro e w2 ⟨A2, c2, rfl, s2, hb2⟩
    have hzz2 := hb2.size
    have ho2 := ho1.below hb2 (Nat.le_refl _)
    have HB2 := Lib.hid (hb1.trans (hb2.mono hzz1))
    have HZ1 := Lib.hid hzz1
    have HZ2 := Lib.hid hzz2
    clear ho1 hb1 hb2
    go_wp2_with fail
    go_loopw [6, 7] (fun v i wr => ∃ k m : Nat, k ≤ s.size ∧ i = .int .i64 (k : Int) ∧ m = 2 ^ (s.size - k) ∧ (∃ A3 c3 LS, v = .slice A3 m c3 ∧ Hid (LS = St.lvlAt s.data.toList k) ∧ Stk wr w1.heap.size A3 m c3 LS) ∧ Own EN wr w.heap.size w1.heap.size 5 (.slice (some ⟨g, 0, none⟩) q q) (St.crToN s.data.toList k) ∧ Below w.heap.size w wr ∧ w1.heap.size ≤ wr.heap.size) (fun _ i _ => s.size - (intOf i).toNat)
    case atStart =>
      refine ⟨0, N, Nat.zero_le _, rfl, HN.out, ⟨_, _, _, rfl, Lib.hid (by rw [St.lvlAt_zero, toList_len, ← HN.out]), s2⟩, ?_, HB2.out, HZ2.out⟩
      have : St.crToN s.data.toList 0 = List.replicate q 0 := by
        rw [St.crToN, toList_len, ← HN.out, HQ.out]
        rfl
      rw [this]
      exact ho2
    case round =>
      clear s2 ho2
      obtain ⟨k, m, hk, rfl, hm, ⟨A3, c3, LS, rfl, HLS, hst⟩, hout, hb, hzr⟩ := hrel
      have hsz := hb.size
      have HM := Lib.hid hm
      have HLV : Hid (lvl LS m (2 ^ k)) := by
        rw [HLS.out, hm]
        unfold St.lvlAt
        rw [toList_len]
        exact lvl_all _ s.size k (by rw [List.length_take, toList_len]; omega) hk h6
      clear hm
      by_cases hlt : k < s.size
      · obtain ⟨ch, hch⟩ := str_get s k hlt
        have hix := index_str s k ch hch
        have HCH := Lib.hid hch
        have hcb := HLR.out ch (List.mem_of_getElem? hch)
        clear hch
        obtain ⟨m', hm'⟩ : ∃ m', m' = 2 ^ (s.size - (k + 1)) := ⟨_, rfl⟩
        have hmm : m = 2 * m' := by
          have := HM.out
          rw [this, hm', show s.size - k = (s.size - (k + 1)) + 1 from by omega, Nat.pow_succ, Nat.mul_comm]
        have hm0 : 0 < m' := by rw [hm']; exact Nat.pow_pos (by omega)
        have hm64 : m ≤ 64 := by
          have := HM.out
          rw [this]
          exact pow_le6 (by omega)
        have hm32 : m' ≤ 32 := by omega
        obtain ⟨r, hr⟩ : ∃ r, m' = r + 1 := ⟨m' - 1, by omega⟩
        have HM' := Lib.hid hm'
        have HNX := Lib.hid (take_more s.data.toList k ch HCH.out)
        have HIS : Hid (inSt LS) := HLV.out.inSt (pow_le6 (by omega))
        have d2 : (m : Int).tdiv 2 = (m' : Int) := by rw [Int.tdiv_eq_ediv_of_nonneg (by omega)]; omega
        have f1 : IntKind.i64.wrap (m' : Int) = (m' : Int) := IntWalk.i64_in _ (by omega)
        have f2 : IntKind.i64.wrap ((m' : Int) - 1) = (r : Int) := by rw [IntWalk.i64_in _ (by omega)]; omega
        have hrm : r < m := by omega
        have hmm' : m' < m := by omega
        have HMM := Lib.hid hmm
        obtain ⟨bA, oA, rfl, hbA⟩ := hst.in_.addr (by omega)
        obtain ⟨lol, Al, nl, cl, celll, rdl⟩ := hst.in_.at_ hrm
        obtain ⟨lor, Ar, nr, cr, cellr, rdr⟩ := hst.in_.at_ hmm'
        have hlen : LS.length = m := HLV.out.1
        have HLl : Hid (LS.getD r [] = St.leftOf LS) := by
          unfold St.leftOf
          rw [hlen, show m / 2 - 1 = r by omega]
          exact Lib.hid rfl
        have HRr : Hid (LS.getD m' [] = St.rightOf LS) := by
          unfold St.rightOf
          rw [hlen, show m / 2 = m' by omega]
          exact Lib.hid rfl
        rw [HLl.out] at rdl
        rw [HRr.out] at rdr
        have hmeml : St.leftOf LS ∈ LS := by rw [← HLl.out]; exact getD_mem (by omega)
        have hmemr : St.rightOf LS ∈ LS := by rw [← HRr.out]; exact getD_mem (by omega)
        have hll := (HLV.out.2 _ hmeml)
        have hlr := (HLV.out.2 _ hmemr)
        obtain rfl : nl = 2 ^ k := rdl.rd.1.symm.trans hll.2
        obtain rfl : nr = 2 ^ k := rdr.rd.1.symm.trans hlr.2
        have HOK := Lib.hid (HCF.out.ok k (by rw [toList_len]; exact hlt))
        rw [← HLS.out] at HOK
        have HSML := Lib.hid hll.1
        have HSMR := Lib.hid hlr.1
        have HLLEN := Lib.hid hll.2
        have HRLEN := Lib.hid hlr.2
        obtain ⟨K, hK⟩ : ∃ K, K = 2 ^ k := ⟨_, rfl⟩
        rw [← hK] at celll cellr rdl rdr
        have hK64 : K ≤ 64 := by rw [hK]; exact pow_le6 (by omega)
        have HK := Lib.hid hK
        clear hmm hm' hr hlen hmeml hmemr hll hlr hK
        have hlt' : decide ((k : Int) < (s.size : Int)) = true := by simp; omega
        have hgh := Own.heap hout (.inr trivial)
        obtain ⟨gcs, gfr, hgh⟩ := hgh
        have HGH := Lib.hid hgh
        have HST := Lib.hid hst
        have HDL := Lib.hid rdl
        have HDR := Lib.hid rdr
        clear hgh hst rdl rdr
        go_wp2_with fail
        go_quiet (fail)
        go_wp2_with fail
        go_loopw [11] (fun i wj => ∃ j : Nat, j ≤ K ∧ i = .int .i64 (j : Int) ∧ Own EN wj w.heap.size w1.heap.size 5 (.slice (some ⟨g, 0, none⟩) q q) (St.crInN (St.leftOf LS) (St.rightOf LS) (St.crToN s.data.toList k) j) ∧ Only g (g + 1) wr wj) (fun i _ => K - (intOf i).toNat)
        case atStart => exact ⟨0, Nat.zero_le _, rfl, hout.drewN _, (Only.refl _ _ _).drewN _⟩
        case round =>
          clear hout
          obtain ⟨j, hj, rfl, hoj, hO⟩ := hrel
          have hszj := hO.size
          by_cases hjl : j < K
          · obtain ⟨b5, o5, x, rfl, _, hx, cx⟩ := (Own.apart HDL.out HGH.out neUI hO).rd.at_ hjl
            obtain ⟨b6, o6, y, rfl, _, hy, cy⟩ := (Own.apart HDR.out HGH.out neUI hO).rd.at_ hjl
            have hok := HOK.out j (by rw [HLLEN.out, ← HK.out]; exact hjl)
            have gx : (St.leftOf LS).getD j 0 = x := by rw [List.getD_eq_getElem?_getD, hx]; rfl
            have gy : (St.rightOf LS).getD j 0 = y := by rw [List.getD_eq_getElem?_getD, hy]; rfl
            have hxs := HSML.out x (List.mem_of_getElem? hx)
            have hys := HSMR.out y (List.mem_of_getElem? hy)
            rw [gx, gy, toList_len, ← HN.out] at hok
            obtain ⟨d, hd⟩ : ∃ d, d = St.crIdx (St.leftOf LS) (St.rightOf LS) j := ⟨_, rfl⟩
            rw [← hd] at hok
            have hdq : d < q := by have := HQ.out; omega
            have hdv : d = min x.natAbs y.natAbs - 1 := by rw [hd]; unfold St.crIdx; rw [gx, gy]
            have HCV : Hid (St.crVal (St.leftOf LS) j = if x < 0 then 77 else 86) := by unfold St.crVal; rw [gx]; exact Lib.hid rfl
            have HD := Lib.hid hd
            obtain ⟨a, ha⟩ : ∃ a : Int, a = (x.natAbs : Int) := ⟨_, rfl⟩
            obtain ⟨b, hb'⟩ : ∃ b : Int, b = (y.natAbs : Int) := ⟨_, rfl⟩
            obtain ⟨e5, he5⟩ : ∃ e : Int, e = (d : Int) + 1 := ⟨_, rfl⟩
            have u1 : IntKind.i64.wrap (-x) = -x := IntWalk.i64_in _ (by omega)
            have u2 : IntKind.i64.wrap (-y) = -y := IntWalk.i64_in _ (by omega)
            have em1 : (if x < -x then -x else x) = a := by split <;> omega
            have em2 : (if y < -y then -y else y) = b := by split <;> omega
            have em3 : (if b < a then b else a) = e5 := by split <;> omega
            have em1' : max x (-x) = a := by omega
            have em2' : max y (-y) = b := by omega
            have em3' : min a b = e5 := by omega
            have em4' : min b a = e5 := by omega
            have u3 : IntKind.i64.wrap (e5 - 1) = (d : Int) := by rw [IntWalk.i64_in _ (by omega)]; omega
            obtain ⟨g', z, hg, _, _, _, _, cd, fd⟩ := hoj.at_ hdq
            injection hg with hg
            injection hg with hg _ _
            subst hg
            have hs1 := hoj.set_ (k := d) (86 : Nat)
            have hs2 := hs1.1.set_ (k := d) (77 : Nat)
            have o1 := Own.only1 (k := d) hoj (86 : Nat)
            have o2 := Own.only1 (k := d) hs1.1 (77 : Nat)
            obtain ⟨b7, o7, x2, hb7, _, hx2, cx2⟩ := (Own.apart HDL.out HGH.out neUI (hO.trans o1)).rd.at_ hjl
            injection hb7 with hb7
            injection hb7 with hb7 ho7 _
            subst hb7
            subst ho7
            obtain rfl : x = x2 := Option.some.inj (hx.symm.trans hx2)
            clear hx2
            have cx3 : (wr.setCell ⟨g, d, none⟩ (.int .u8 86)).cell? ⟨b5, o5 + j, none⟩ = some (.int .i64 x) := cx2
            clear cx2
            have HS1 := Lib.hid hs1.1
            have HS2 := Lib.hid hs2.1
            have HO1 := Lib.hid (hO.trans o1)
            have HO2 := Lib.hid ((hO.trans o1).trans o2)
            clear hs1 hs2 o1 o2 hx hy gx gy hok hdv hd ha hb' he5
            have hxn : x < 0 ∨ ¬ x < 0 := by omega
            go_wp2_with fail
            go_region
            go_wp2_with fail
            · have hv : St.crVal (St.leftOf LS) j = 77 := by rw [HCV.out, if_pos (by omega)]
              refine ⟨⟨j + 1, by omega, by go_num, ?_, HO2.out.drewN _⟩, by simp [intOf]; omega⟩
              rw [St.crInN_next, ← HD.out, hv]
              have := HS2.out
              rw [List.set_set] at this
              exact this.drewN _
            · have hv : St.crVal (St.leftOf LS) j = 86 := by rw [HCV.out, if_neg (by omega)]
              refine ⟨⟨j + 1, by omega, by go_num, ?_, HO1.out.drewN _⟩, by simp [intOf]; omega⟩
              rw [St.crInN_next, ← HD.out, hv]
              exact HS1.out.drewN _
          · obtain rfl : j = K := by omega
            have HHO := Lib.hid hO
            have HOJ := Lib.hid hoj
            clear hO hoj
            go_wp2_with fail
            refine (fold_any _ m m' c3 _ LS ch wr hcb (Stk.apart HST.out HGH.out HHO.out).in_ (Nat.le_refl _) hm64 HMM.out hm0 HIS.out).mono ?_
            rintro e w4 ⟨A4, c4, rfl, s4, hb4⟩
            have hgl := HOJ.out.lt g rfl
            have hzo := HHO.out.size
            have hz4 := hb4.size
            go_wp2_with fail
            go_roundw
            case rel =>
              refine ⟨k + 1, m', by omega, by go_num, HM'.out, ⟨_, _, _, rfl, Lib.hid (show St.fold LS ch = _ by unfold St.lvlAt; rw [HNX.out, List.foldl_append, HLS.out]; rfl), ?_⟩, ?_, (hb.trans (HHO.out.below (B := w.heap.size) hgl.1 hsz)).trans (hb4.mono (by omega)), by omega⟩
              · obtain ⟨hs, ho, hr, hc⟩ := s4
                exact ⟨hs, ho.mono (by omega) (Nat.le_refl _), hr.more (by omega) (Nat.le_refl _), hc⟩
              · have := HOJ.out.below hb4 (by omega)
                show Own EN _ _ _ _ _ (St.crInN (St.leftOf (St.lvlAt s.data.toList k)) (St.rightOf (St.lvlAt s.data.toList k)) (St.crToN s.data.toList k) (St.leftOf (St.lvlAt s.data.toList k)).length)
                rw [← HLS.out, HLLEN.out, ← HK.out]
                exact this
            case measure => simp [intOf]; omega
      · obtain rfl : k = s.size := by omega
        have hlt' : decide ((s.size : Int) < (s.size : Int)) = false := by simp
        have HOUT := Lib.hid hout
        have hle : (St.crToN s.data.toList s.size).length = q := by rw [St.crToN_len, toList_len, ← HN.out, HQ.out]; rfl
        obtain ⟨cv, hcv⟩ : ∃ b : ByteArray, b = ⟨(St.crB (St.crToN s.data.toList s.size)).toArray⟩ := ⟨_, rfl⟩
        have hrun : (convert 22 9 (.slice (some ⟨g, 0, none⟩) q q)).run Tryd.prog wr = .ok (.string cv) wr := by
          rw [hcv]
          have hle2 : (St.crB (St.crToN s.data.toList s.size)).length = q := by unfold St.crB; rw [List.length_map, hle]
          have := run_convert_bytes_back wr 22 9 5 ⟨g, 0, none⟩ q (St.crB (St.crToN s.data.toList s.size)) Tryd.underlying22 Tryd.underlying5 Tryd.underlying9 fun j hj => by
            obtain ⟨g', z, hg', _, _, _, hz, cd, _⟩ := HOUT.out.at_ (k := j) (by omega)
            injection hg' with hg'
            injection hg' with hg' _ _
            subst hg'
            have hz256 := toN_small _ _ z (List.mem_of_getElem? hz)
            have e := crB_get _ j hj z hz hz256
            rw [e]
            have : (Addr.add ⟨g, 0, none⟩ j) = ⟨g, j, none⟩ := by
              unfold Addr.add
              by_cases h0 : j = 0
              · subst h0; rfl
              · rw [if_neg h0]; simp
            rw [this]
            exact cd
          rw [hle2] at this
          exact this
        have HEND : Hid (cv = crR s.data.toList) := by
          rw [HR.out, hcv]
          have := HCF.out.same
          rw [toList_len] at this
          rw [this]
          exact Lib.hid rfl
        clear hcv hout hle
        go_wp2_with fail
        go_ret2
        rw [HEND.out]
        exact ⟨rfl, hb⟩
  · have HR : Hid (crR s.data.toList = ⟨#[]⟩) := by unfold crR; rw [if_neg hf]; exact Lib.hid rfl
    have HC : Hid (fsC s.data.toList = 1) := by unfold fsC; rw [if_neg hf]; exact Lib.hid rfl
    rw [HR.out, HC.out]
    have HF : Hid (St.foldsB s.data.toList = false) := Lib.hid (by simpa using hf)
    clear hf
    go_enter Tryd.func27, Tryd.ntmps27
    go_wp2_with fail
    refine (specIsFolds_any s _ hs).mono ?_
    rintro e _ ⟨rfl, rfl⟩
    rw [HF.out]
    go_wp2_with fail
    go_ret2
    exact ⟨rfl, Below.refl _ _⟩
end Go.Proofs.YtjpfbonnohodhaaDoor
