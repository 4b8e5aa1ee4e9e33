/- The walk of the law FnSignatures, out of the contracts. -/
import Derived.Test.YtamnhbambklmkaaSgDx
import Derived.Test.YtamnhbambklmkaaSgGs
import Derived.Test.YtamnhbambklmkaaSgMath2
import Derived.Test.YtamnhbambklmkaaSgLk
namespace Go.Proofs.Ytamnhbambklmkaa
open Go.RowKit

theorem count_next (l : List Int) (k : Nat) (x : Int) (hx : l[k]? = some x) : (l.take (k + 1)).count 0 = (l.take k).count 0 + if x = 0 then 1 else 0 := by
  rw [take_next l k x hx, List.count_append, List.count_singleton]
  by_cases h : x = 0
  · subst h; simp
  · simp [h]

set_option maxRecDepth 100000 in
set_option maxHeartbeats 4000000 in
theorem w_FnSignatures (A : Option Addr) (N C : Nat) (l : List Int) (w : World) (h : Rd U w w.heap.size A N l) (hl : inByte l) :
    Calls Try.prog 3 #[.slice A N C] w fun e w' => e = .returned (.bool true) ∧ Below w.heap.size w w' := by
  by_cases hN : N ≤ 4096
  · have HF : Hid (decide (4096 < N) = false) := decide_eq_false (by omega)
    go_enter Try.func3, Try.ntmps3
    go_wp2_with fail
    refine (sgBig_any A N C _).mono ?_
    rintro e _ ⟨rfl, rfl⟩
    rw [HF.out]
    go_wp2_with fail
    refine (DrawSig_any N C w.heap.size A l w h hl (Nat.le_refl _) (by omega)).mono ?_
    rintro e w1 ⟨p, u, x, rfl, hp, hu, hx, hb1⟩
    have z1 := hb1.size
    have h1 := h.below hb1 (Nat.le_refl _)
    obtain ⟨r, hr⟩ : ∃ r, Sg.soR p u x = r := ⟨_, rfl⟩
    obtain ⟨k, hk⟩ : ∃ k, Sg.soK p u x = k := ⟨_, rfl⟩
    obtain ⟨c, hc⟩ : ∃ c, Sg.soC p u x = c := ⟨_, rfl⟩
    obtain ⟨n, hn⟩ : ∃ n, Sg.scR p u = n := ⟨_, rfl⟩
    obtain ⟨d, hd⟩ : ∃ d, Sg.scC p u = d := ⟨_, rfl⟩
    have HR := Lib.hid hr
    have HK := Lib.hid hk
    have HC := Lib.hid hc
    have HS := Lib.hid hn
    have HD := Lib.hid hd
    clear hr hk hc hn hd
    go_wp2_with fail
    refine (implSig_any p u x r k c w1 HR.out HK.out HC.out).mono ?_
    rintro e w2 ⟨rfl, hb2⟩
    have z2 := hb2.size
    have hB2 := hb1.trans (hb2.mono z1)
    go_wp2_with fail
    refine (specSig_any p u x r k c w2 HR.out HK.out HC.out).mono ?_
    rintro e w3 ⟨rfl, hb3⟩
    have z3 := hb3.size
    have hB3 := hB2.trans (hb3.mono (by omega))
    go_wp2_with fail
    refine (implSc_any p u n d w3 HS.out HD.out (by omega) (by omega)).mono ?_
    rintro e w4 ⟨rfl, hb4⟩
    have z4 := hb4.size
    have hB4 := hB3.trans (hb4.mono (by omega))
    go_wp2_with fail
    refine (specSc_any p u n d w4 HS.out HD.out).mono ?_
    rintro e w5 ⟨rfl, hb5⟩
    have z5 := hb5.size
    have hB5 := hB4.trans (hb5.mono (by omega))
    go_wp2_with fail
    refine (DrawGa_any N C w.heap.size A l w5 (h.below hB5 (Nat.le_refl _)) hl (by omega) (by omega)).mono ?_
    rintro e w6 ⟨P, V, A1, n1, c1, L, rfl, hP, hV, hn1, ho1, hb6⟩
    have z6 := hb6.size
    have hB6 := hB5.trans (hb6.mono (by omega))
    have hc1 : n1 ≤ c1 := by
      obtain ⟨_, cc, hv, hc'⟩ := ho1.form
      injection hv with _ _ hv
      have := ho1.rd.1
      omega
    obtain ⟨R, hR⟩ : ∃ R, Sg.gaR P V L = R := ⟨_, rfl⟩
    obtain ⟨q, hq⟩ : ∃ q, Sg.gaC P V L = q := ⟨_, rfl⟩
    have HGR := Lib.hid hR
    have HGC := Lib.hid hq
    clear hR hq h h1
    go_wp2_with fail
    refine (implGa_any P V A1 n1 c1 _ L R q w6 ho1.rd (Nat.le_refl _) (by omega) HGR.out HGC.out (by omega) (by omega)).mono ?_
    rintro e w7 ⟨A2, n2, c2, rfl, ho2, hn2, hb7⟩
    have z7 := hb7.size
    have hB7 := hB6.trans (hb7.mono (by omega))
    have r7 := ho1.below hb7 (Nat.le_refl _)
    go_wp2_with fail
    refine (specGa_any P V A1 n1 c1 _ L R q w7 r7.rd (by omega) (by omega) hc1 HGR.out HGC.out).mono ?_
    rintro e w8 ⟨A3, n3, c3, rfl, ho3, hn3, hb8⟩
    have z8 := hb8.size
    have hB8 := hB7.trans (hb8.mono (by omega))
    have r8 := r7.below hb8 (by omega)
    have s8 := ho2.below hb8 (Nat.le_refl _)
    obtain ⟨ub, hub⟩ : ∃ ub, Sg.un u = ub := ⟨_, rfl⟩
    have HUB := Lib.hid hub
    clear hub
    go_wp2_with fail
    refine (sgLike_true A2 A3 n2 n3 c2 c3 _ _ R w8 s8.rd ho3.rd hn2).mono ?_
    rintro e w9 ⟨rfl, hq9⟩
    have z9 := hq9.le
    have hB9 := hB8.trans (hq9.below _)
    have r9 := r8.q hq9
    have s9 := s8.q hq9
    go_wp2_with fail
    refine (implUnit_any u ub w9 HUB.out).mono ?_
    rintro e w10 ⟨rfl, hb10⟩
    have z10 := hb10.size
    have hB10 := hB9.trans (hb10.mono (by omega))
    have r10 := r9.below hb10 (by omega)
    have s10 := s9.below hb10 (by omega)
    go_wp2_with fail
    refine (l06Unit_any u ub w10 HUB.out).mono ?_
    rintro e w11 ⟨rfl, hb11⟩
    have z11 := hb11.size
    have hB11 := hB10.trans (hb11.mono (by omega))
    have HO := Lib.hid (r10.below hb11 (by omega))
    have HL := Lib.hid (s10.below hb11 (by omega))
    have HB := Lib.hid hB11
    clear ho1 ho2 ho3 hb1 hb2 hb3 hb4 hb5 hb6 hb7 hb8 hq9 hb10 hb11 hB2 hB3 hB4 hB5 hB6 hB7 hB8 hB9 hB10 hB11 r7 r8 s8 r9 s9 r10 s10 HD
    cases hg : Sg.gaOk P V L
    · have HZ2 : Hid (q = 2) := Lib.hid (by rw [← HGC.out]; unfold Sg.gaC; rw [hg]; rfl)
      rw [HZ2.out]
      clear hg
      cases hs : Sg.soOk p u x
      · have HZ : Hid (c = 2) := Lib.hid (by rw [← HC.out]; unfold Sg.soC; rw [hs]; rfl)
        rw [HZ.out]
        clear hs
        go_wp2_with fail
        go_ret
        exact ⟨rfl, HB.out⟩
      · have HZ : Hid (c = 0) := Lib.hid (by rw [← HC.out]; unfold Sg.soC; rw [if_pos hs])
        obtain ⟨b1, b2, b3, b4, b5, b6, b7⟩ := Sg.so_back hs
        rw [HR.out, HS.out] at b2
        rw [HK.out] at b3 b4 b7
        rw [HR.out] at b1 b5 b6 b7
        obtain ⟨y, hy⟩ : ∃ y, r * u = y := ⟨_, rfl⟩
        rw [hy] at b5 b6 b7
        have f1 : IntKind.i64.wrap (r * u) = y := by rw [hy]; exact IntWalk.i64_in _ (by omega)
        have f2 : IntKind.i64.wrap (y + k) = x := by rw [IntWalk.i64_in _ (by omega)]; exact b7
        clear hs hy b7 b5 b6
        rw [HZ.out]
        go_wp2_with fail
        go_ret
        exact ⟨rfl, HB.out⟩
    · obtain ⟨eR, eC⟩ := Sg.ga_yes hg HGR.out HGC.out
      obtain ⟨hf, hord, hlen⟩ := Sg.ga_out hg
      have hcnt := Sg.ga_count hg
      rw [← eR] at hcnt
      have hvb := Sg.un_bd (Sg.fits_out hf).2
      have hpb := (Sg.fits_out hf).1
      obtain ⟨M, rfl⟩ := Int.eq_ofNat_of_zero_le (show 0 ≤ V by omega)
      have eR' : R = Sg.gath P (M : Int) M L := by simpa using eR
      have hL64 : L.length ≤ 64 := hord.1
      have hn1L : n1 = L.length := HO.out.rd.1.symm
      have hn2L : n2 = L.length * M := by rw [← HL.out.rd.1, eR', Sg.gath_len]
      have hn2b : n2 ≤ 8192 := by rw [hn2L]; exact Nat.mul_le_mul hL64 (show M ≤ 128 by omega)
      have HCNT : Hid ((n2 : Int) - ((R.count 0 : Nat) : Int) = P) := Lib.hid (by rw [← HL.out.rd.1]; exact hcnt)
      have HRE := Lib.hid eR'
      have HF2 := Lib.hid hf
      have HORD := Lib.hid hord
      have HN2 := Lib.hid hn2L
      have HN1 := Lib.hid hn1L
      have HZ2 := Lib.hid eC
      clear eR eC hf hord hlen hcnt eR' hn1L hn2L hg hL64
      rw [HZ2.out]
      go_wp2_with fail
      go_loopw [23, 24] (fun s i wr => ∃ (j b : Nat), j ≤ n2 ∧ i = .int .i64 (j : Int) ∧ s = .int .i64 (b : Int) ∧ b ≤ j ∧ Hid ((R.take j).count 0 = b) ∧ Below w11.heap.size w11 wr) (fun _ i _ => n2 - (intOf i).toNat)
      case atStart => exact ⟨0, 0, Nat.zero_le _, rfl, rfl, Nat.le_refl _, Lib.hid (by simp), Below.refl _ _⟩
      case round =>
        obtain ⟨j, b, hj, rfl, rfl, hbj, HBC, hbb⟩ := hrel
        have zz := hbb.size
        have hrl := (HL.out.below hbb (by omega)).rd
        have hrd := (HO.out.below hbb (by omega)).rd
        by_cases hlt : j < n2
        · obtain ⟨b1, o1, y, rfl, _, hy, hcy⟩ := hrl.at_ hlt
          have hM0 : 0 < M := by omega
          have hdm : M * (j / M) + j % M = j := Nat.div_add_mod j M
          have hmod : j % M < M := Nat.mod_lt _ hM0
          have hkn : j / M < L.length := by rw [Nat.div_lt_iff_lt_mul hM0, ← HN2.out]; exact hlt
          have hkd : (j : Int) / (M : Int) = ((j / M : Nat) : Int) := rfl
          have hmd : (j : Int) % (M : Int) = ((j % M : Nat) : Int) := rfl
          obtain ⟨kq, hkq⟩ : ∃ kq, j / M = kq := ⟨_, rfl⟩
          obtain ⟨m, hm⟩ : ∃ m, j % M = m := ⟨_, rfl⟩
          rw [hkq] at hdm hkn hkd
          rw [hm] at hdm hmod hmd
          obtain ⟨i, hi⟩ : ∃ i, L[kq]? = some i := ⟨_, List.getElem?_eq_getElem hkn⟩
          have hxg : Sg.pg P (i * (M : Int) + (m : Int) + 1) = y := by
            have h1 := Sg.gath_at P (M : Int) M L kq m i hi hmod
            rw [Nat.mul_comm kq M, hdm, ← HRE.out, hy] at h1
            exact (Option.some.inj h1).symm
          have hi0 : 0 ≤ i := (HORD.out.2.1 i (List.mem_of_getElem? hi)).1
          have HCN := Lib.hid (count_next R j y hy)
          have hkn1 : kq < n1 := by rw [HN1.out]; exact hkn
          obtain ⟨b2, o2, i', rfl, _, hi', hci⟩ := hrd.at_ hkn1
          obtain rfl : i = i' := Option.some.inj (hi.symm.trans hi')
          have HPL : Hid (¬ y = 0 → Sg.soR P (M : Int) y = i ∧ Sg.soK P (M : Int) y = (m : Int) + 1 ∧ Sg.soC P (M : Int) y = 0) := Lib.hid (fun h0 => Sg.so_place HF2.out hi0 (by omega) hxg h0)
          have t1 : (j : Int).tdiv (M : Int) = (kq : Int) := by rw [Int.tdiv_eq_ediv_of_nonneg (by omega)]; exact hkd
          have t2 : (j : Int).tmod (M : Int) = (m : Int) := by rw [Int.tmod_eq_emod_of_nonneg (by omega)]; exact hmd
          have hkq2 : kq ≤ j := by rw [← hkq]; exact Nat.div_le_self j M
          have f1 : IntKind.i64.wrap (kq : Int) = (kq : Int) := IntWalk.i64_in _ (by omega)
          have f2 : IntKind.i64.wrap (m : Int) = (m : Int) := IntWalk.i64_in _ (by omega)
          have f3 : IntKind.i64.wrap ((m : Int) + 1) = (m : Int) + 1 := IntWalk.i64_in _ (by omega)
          have M0 : ¬ (M : Int) = 0 := by omega
          have M1 : ¬ M = 0 := by omega
          have HLI := Lib.hid hi
          clear hdm hkq hm hi hi' hxg hy hkd hmd hrd hrl hci
          by_cases hy0 : y = 0
          · subst hy0
            have HBN : Hid ((R.take (j + 1)).count 0 = b + 1) := Lib.hid (by rw [HCN.out, HBC.out]; rfl)
            go_wp2
            go_roundw
            case rel => exact ⟨j + 1, b + 1, by omega, by go_num, by go_num, by omega, HBN, hbb⟩
            case measure => simp [intOf]; omega
          · have HBN : Hid ((R.take (j + 1)).count 0 = b) := Lib.hid (by rw [HCN.out, HBC.out, if_neg hy0]; rfl)
            have hy1 : (y == 0) = false := by simpa using hy0
            obtain ⟨w12, rfl⟩ : ∃ w12, w12 = wr := ⟨_, rfl⟩
            have HPQ := Lib.hid (HPL.out hy0)
            have HB12 := Lib.hid hbb
            clear HPL HCN hbb
            go_wp2_with fail
            refine (implSig_any P (M : Int) y i ((m : Int) + 1) 0 w12 HPQ.out.1 HPQ.out.2.1 HPQ.out.2.2).mono ?_
            rintro e w13 ⟨rfl, hb13⟩
            have hB13 := HB12.out.trans (hb13.mono zz)
            obtain ⟨b3, o3, i3, e3, _, hi3, hci⟩ := (HO.out.below hB13 (by omega)).rd.at_ hkn1
            injection e3 with e3
            injection e3 with e3 e4 _
            subst e3 e4
            obtain rfl : i = i3 := Option.some.inj (HLI.out.symm.trans hi3)
            clear hi3
            go_wp2_with fail
            go_roundw
            case rel => exact ⟨j + 1, b, by omega, by go_num, rfl, by omega, HBN, hB13⟩
            case measure => simp [intOf]; omega
        · obtain rfl : j = n2 := by omega
          have f1 : IntKind.i64.wrap ((j : Int) - (b : Int)) = P := by
            have h1 := HCNT.out
            have h2 := HBC.out
            rw [List.take_of_length_le (Nat.le_of_eq HL.out.rd.1)] at h2
            rw [h2] at h1
            rw [IntWalk.i64_in _ (by omega)]
            exact h1
          have HBE := Lib.hid (HB.out.trans (hbb.mono (by omega)))
          cases hs : Sg.soOk p u x
          · have HZ : Hid (c = 2) := Lib.hid (by rw [← HC.out]; unfold Sg.soC; rw [hs]; rfl)
            rw [HZ.out]
            clear hs
            go_wp2_with fail
            go_ret
            exact ⟨rfl, HBE.out⟩
          · have HZ : Hid (c = 0) := Lib.hid (by rw [← HC.out]; unfold Sg.soC; rw [if_pos hs])
            obtain ⟨b1, b2, b3, b4, b5, b6, b7⟩ := Sg.so_back hs
            rw [HR.out, HS.out] at b2
            rw [HK.out] at b3 b4 b7
            rw [HR.out] at b1 b5 b6 b7
            obtain ⟨y, hy⟩ : ∃ y, r * u = y := ⟨_, rfl⟩
            rw [hy] at b5 b6 b7
            have f1 : IntKind.i64.wrap (r * u) = y := by rw [hy]; exact IntWalk.i64_in _ (by omega)
            have f2 : IntKind.i64.wrap (y + k) = x := by rw [IntWalk.i64_in _ (by omega)]; exact b7
            clear hs hy b7 b5 b6
            rw [HZ.out]
            go_wp2_with fail
            go_ret
            exact ⟨rfl, HBE.out⟩
  · have HF : Hid (decide (4096 < N) = true) := decide_eq_true (by omega)
    go_enter Try.func3, Try.ntmps3
    go_wp2_with fail
    refine (sgBig_any A N C _).mono ?_
    rintro e _ ⟨rfl, rfl⟩
    rw [HF.out]
    go_wp2_with fail
    go_ret
    exact ⟨rfl, Below.refl _ _⟩
end Go.Proofs.Ytamnhbambklmkaa
