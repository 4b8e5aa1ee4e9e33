/- The walk of the law of ranks: the drawn order and its rank, the drawn rank and its order, and the next one. -/
import Derived.Test.YtokljgdfhogcoaaRanks
namespace Go.Proofs.Ytokljgdfhogcoaa
open Go.RowKit

theorem orkC_no (n r : Int) (h : ¬ orkOk n r) : (orkC n r == 0) = false := by unfold orkC; rw [if_neg h]; rfl

set_option maxRecDepth 100000 in
set_option maxHeartbeats 8000000 in
theorem w_FnRanks (A : Option Addr) (N C : Nat) (l : List Int) (w : World) (h : Rd U w w.heap.size A N l) (hl : inByte l) :
    Calls Try.prog 4 #[.slice A N C] w fun e w' => e = .returned (.bool true) ∧ Below w.heap.size w w' := by
  by_cases hN : N ≤ 4096
  · have HF : Hid (decide (4096 < N) = false) := decide_eq_false (by omega)
    go_enter Try.func4, Try.ntmps4
    go_wp2_with fail
    refine (big_any A N C _).mono ?_
    rintro e _ ⟨rfl, rfl⟩
    rw [HF.out]
    go_wp2_with fail
    refine (DrawRankOrder_any N C _ A l _ h hl (Nat.le_refl _) (by omega)).mono ?_
    rintro e w1 ⟨AP, nP, cP, p, rfl, hp1, hcP, hnP, hB1⟩
    have hz1 := hB1.size
    go_wp2_with fail
    refine (implRankOrder_any AP nP cP _ p _ hp1 (Nat.le_refl _) (by omega) hcP).mono ?_
    rintro e w2 ⟨rfl, hb2⟩
    have hz2 := hb2.size
    have hB2 := hB1.trans (hb2.mono hz1)
    have hp2 := hp1.below hb2 (Nat.le_refl _)
    go_wp2_with fail
    refine (specRankOrder_any AP nP cP _ p _ hp2 (by omega) (by omega) hcP).mono ?_
    rintro e w3 ⟨rfl, hb3⟩
    have hz3 := hb3.size
    have hB3 := hB2.trans (hb3.mono (by omega))
    have hp3 := hp2.below hb3 (by omega)
    go_wp2_with fail
    refine (DrawOrk_any N C _ A l _ (h.below hB3 (Nat.le_refl _)) hl (by omega) (by omega)).mono ?_
    rintro e w4 ⟨n, r, rfl, hn, hr, hb4⟩
    have hz4 := hb4.size
    have hB4 := hB3.trans (hb4.mono (by omega))
    have hp4 := hp3.below hb4 (by omega)
    go_wp2_with fail
    refine (implOrk_any n r _ (by omega) (by omega)).mono ?_
    rintro e w5 ⟨AQ, nQ, cQ, rfl, hQ, hnQ, hb5⟩
    have hz5 := hb5.size
    have hB5 := hB4.trans (hb5.mono (by omega))
    have hp5 := hp4.below hb5 (by omega)
    go_wp2_with fail
    refine (specOrk_any n r _ (by omega) (by omega)).mono ?_
    rintro e w6 ⟨AR, nR, cR, rfl, hR, hnR, hb6⟩
    have hz6 := hb6.size
    have hB6 := hB5.trans (hb6.mono (by omega))
    have hp6 := hp5.below hb6 (by omega)
    have hQ6 := hQ.below hb6 (by omega)
    obtain rfl : nQ = nR := hQ6.rd.1.symm.trans hR.rd.1
    go_wp2_with fail
    refine (likeInts_true _ _ _ _ _ _ _ _ _ hQ6.rd hR.rd hnQ).mono ?_
    rintro e w7 ⟨rfl, hq7⟩
    have hz7 := hq7.le
    have hB7 := hB6.trans (hq7.below _)
    have hp7 := hp6.q hq7
    have hQ7 := hQ6.q hq7
    clear hp1 hp2 hp3 hp4 hp5 hp6 hQ hQ6 hR
    by_cases hok : orkOk n r
    · obtain ⟨m, rfl⟩ := Int.eq_ofNat_of_zero_le hok.1.1
      have hm : m ≤ 12 := by have := hok.1.2; omega
      have hr0 := hok.2.1
      have hr1 : r < fac m := by simpa using hok.2.2
      have hC : orkC m r = 0 := by unfold orkC; rw [if_pos hok]
      have hRq : orkR m r = oO m r m := by unfold orkR; rw [if_pos hok]; rfl
      obtain ⟨hqo, hql⟩ := oO_ord m hm r hr0 hr1
      have hrk := rank_of_order m hm r hr0 hr1
      have HRC : Hid (rankC (oO m r m) = 0) := by unfold rankC; rw [if_pos hqo, if_pos (by omega)]; exact rfl
      have HRR : Hid (rankR (oO m r m) = r) := by show _ = _; unfold rankR; rw [if_pos ⟨hqo, by omega⟩, hql]; exact hrk
      have hfm := fac_bd m hm
      have hr2 : r ≤ 479001600 := by omega
      rw [hRq] at hQ7
      rw [hC]
      obtain rfl : nQ = m := hQ7.rd.1.symm.trans hql
      have hcapQ := hQ7.cap
      have HQO := Lib.hid hqo
      have HQL := Lib.hid hql
      have HRK := Lib.hid hrk
      have HR1 := Lib.hid hr1
      clear hok hC hRq hqo hql hrk hfm hr1
      go_wp2_with fail
      refine (implRankOrder_any AQ nQ cQ _ _ _ hQ7.rd (by omega) (by omega) hcapQ).mono ?_
      rintro e w8 ⟨rfl, hb8⟩
      have hz8 := hb8.size
      have hB8 := hB7.trans (hb8.mono (by omega))
      have hp8 := hp7.below hb8 (by omega)
      have hQ8 := hQ7.below hb8 (by omega)
      rw [HRC.out, HRR.out]
      go_wp2_with fail
      refine (implOrk_any nQ (r + 1) _ (by omega) (by omega)).mono ?_
      rintro e w9 ⟨AX, nX, cX, rfl, hX, hnX, hb9⟩
      have hz9 := hb9.size
      have hB9 := hB8.trans (hb9.mono (by omega))
      have hp9 := hp8.below hb9 (by omega)
      have hQ9 := hQ8.below hb9 (by omega)
      by_cases hok2 : orkOk nQ (r + 1)
      · have hr3 : r + 1 < fac nQ := by simpa using hok2.2.2
        have hC2 : orkC nQ (r + 1) = 0 := by unfold orkC; rw [if_pos hok2]
        have hR2 : orkR nQ (r + 1) = oO nQ (r + 1) nQ := by unfold orkR; rw [if_pos hok2]; rfl
        obtain ⟨hqo2, hql2⟩ := oO_ord nQ hm (r + 1) (by omega) hr3
        have hrk2 := rank_of_order nQ hm (r + 1) (by omega) hr3
        rw [hR2] at hX
        rw [hC2]
        obtain rfl : nX = nQ := hX.rd.1.symm.trans hql2
        have HLEX : Hid (∀ (i : Nat) (x y : Int), (oO nX r nX).take i = (oO nX (r + 1) nX).take i → (oO nX r nX)[i]? = some x → (oO nX (r + 1) nX)[i]? = some y → ¬ y < x) := by
          intro i x y h1 h2 h3 h4
          have := rank_lex _ _ HQO.out hqo2 (by rw [HQL.out, hql2]) i x y h1 h2 h3 h4
          rw [HQL.out, hql2, HRK.out, hrk2] at this
          omega
        have HNE : Hid ((oO nX r nX).take nX ≠ (oO nX (r + 1) nX).take nX) := by
          intro h1
          rw [List.take_of_length_le (Nat.le_of_eq HQL.out), List.take_of_length_le (Nat.le_of_eq hql2)] at h1
          have h2 := HRK.out
          rw [h1, hrk2] at h2
          omega
        clear hok2 hC2 hR2 hqo2 hql2 hrk2 hr3
        go_wp2_with fail
        go_loopw [18] (fun i wr => ∃ k : Nat, k ≤ nX ∧ i = .int .i64 k ∧ Hid ((oO nX r nX).take k = (oO nX (r + 1) nX).take k) ∧ Q w9 wr) (fun i _ => nX - (intOf i).toNat)
        case atStart => exact ⟨0, Nat.zero_le _, rfl, (rfl : (oO nX r nX).take 0 = (oO nX (r + 1) nX).take 0), Q.refl _⟩
        case round =>
          obtain ⟨k, hk, rfl, hpre, hqr⟩ := hrel
          have hQr := (hQ9.q hqr).rd
          have hXr := (hX.q hqr).rd
          by_cases hlt : k < nX
          · obtain ⟨b, o, x, rfl, _, hx, hcx⟩ := hQr.at_ hlt
            obtain ⟨b', o', y, rfl, _, hy, hcy⟩ := hXr.at_ hlt
            have HLX := Lib.hid (HLEX.out k x y hpre.out hx hy)
            by_cases hxy : x = y
            · subst hxy
              have HP : Hid ((oO nX r nX).take (k + 1) = (oO nX (r + 1) nX).take (k + 1)) := by
                show _ = _
                rw [take_next _ k _ hx, take_next _ k _ hy, hpre.out]
              clear hx hy
              go_wp2_with fail
              go_quiet (fail)
              go_wp2_with fail
              go_roundw
              case rel => exact ⟨k + 1, by omega, by go_num, HP, hqr.more _⟩
              case measure => simp [intOf]; omega
            · have hne : (x == y) = false := by simpa using hxy
              have hle : x ≤ y := by have := HLX.out; omega
              have hnl : decide (y < x) = false := by have := HLX.out; simp; omega
              have hkn : ((k : Int) == (nX : Int)) = false := by simp; omega
              have hpr := hp9.q hqr
              have hBr := hB9.trans (hqr.below _)
              have hzr := hqr.le
              clear hx hy hxy hpre
              go_wp2_with fail
              go_quiet (fail)
              go_wp2_with fail
              go_quiet (fail)
              by_cases hbad : isOrd p ∧ p.length ≤ 12
              · obtain ⟨hpo, hpl⟩ := hbad
                have hCp : rankC p = 0 := by unfold rankC; rw [if_pos hpo, if_pos hpl]
                have hRp : rankR p = rk p p.length := by unfold rankR; rw [if_pos ⟨hpo, hpl⟩]
                have hrr := rk_range p
                have hff := fac_bd p.length hpl
                have hpn : p.length = nP := hpr.1
                have hok : orkOk nP (rankR p) := ⟨by omega, by rw [hRp]; exact hrr.1, by rw [hRp]; simpa [hpn] using hrr.2⟩
                have HOC : Hid (orkC nP (rankR p) = 0) := by unfold orkC; rw [if_pos hok]; exact rfl
                have HOR : Hid (orkR nP (rankR p) = p) := by
                  show _ = _
                  unfold orkR
                  rw [if_pos hok, hRp, Int.toNat_natCast, ← hpn]
                  exact order_of_rank p hpo
                have hk0 : -9223372036854775808 ≤ rankR p ∧ rankR p ≤ 9223372036854775807 := by rw [hRp]; omega
                rw [hCp]
                clear hok hRp hrr hff hpn hpo hpl hCp
                go_wp2_with fail
                refine (implOrk_any nP (rankR p) _ (by omega) hk0).mono ?_
                rintro e wx ⟨AX, nX, cX, rfl, hX, hnX, hbx⟩
                have hBx := (below_drewN' hBr _).trans (hbx.mono (by first | omega | (simp; omega)))
                have hpx := (hpr.drewN _).below hbx (by first | omega | (simp; omega))
                rw [HOR.out] at hX
                rw [HOC.out]
                obtain rfl : nX = nP := hX.rd.1.symm.trans hpx.1
                go_wp2_with fail
                refine (likeInts_true _ _ _ _ _ _ _ _ _ hX.rd hpx hnX).mono ?_
                rintro e wy ⟨rfl, hqy⟩
                go_wp2_with fail
                go_ret
                exact ⟨rfl, hBx.trans (hqy.below _)⟩
              · have hCp : (rankC p != 0) = true := by
                  unfold rankC
                  by_cases hpo : isOrd p
                  · rw [if_pos hpo, if_neg (fun hh => hbad ⟨hpo, hh⟩)]; rfl
                  · rw [if_neg hpo]; rfl
                clear hbad
                go_wp2_with fail
                go_ret
                exact ⟨rfl, below_drewN' hBr _⟩
          · obtain rfl : k = nX := by omega
            exact absurd hpre.out HNE.out
      · have hC2 := orkC_no _ _ hok2
        clear hok2
        by_cases hbad : isOrd p ∧ p.length ≤ 12
        · obtain ⟨hpo, hpl⟩ := hbad
          have hCp : rankC p = 0 := by unfold rankC; rw [if_pos hpo, if_pos hpl]
          have hRp : rankR p = rk p p.length := by unfold rankR; rw [if_pos ⟨hpo, hpl⟩]
          have hrr := rk_range p
          have hff := fac_bd p.length hpl
          have hpn : p.length = nP := hp9.1
          have hok : orkOk nP (rankR p) := ⟨by omega, by rw [hRp]; exact hrr.1, by rw [hRp]; simpa [hpn] using hrr.2⟩
          have HOC : Hid (orkC nP (rankR p) = 0) := by unfold orkC; rw [if_pos hok]; exact rfl
          have HOR : Hid (orkR nP (rankR p) = p) := by
            show _ = _
            unfold orkR
            rw [if_pos hok, hRp, Int.toNat_natCast, ← hpn]
            exact order_of_rank p hpo
          have hk0 : -9223372036854775808 ≤ rankR p ∧ rankR p ≤ 9223372036854775807 := by rw [hRp]; omega
          rw [hCp]
          clear hok hRp hrr hff hpn hpo hpl hCp
          go_wp2_with fail
          refine (implOrk_any nP (rankR p) _ (by omega) hk0).mono ?_
          rintro e wx ⟨AX, nX, cX, rfl, hX, hnX, hbx⟩
          have hBx := (hB9).trans (hbx.mono (by first | omega | (simp; omega)))
          have hpx := hp9.below hbx (by first | omega | (simp; omega))
          rw [HOR.out] at hX
          rw [HOC.out]
          obtain rfl : nX = nP := hX.rd.1.symm.trans hpx.1
          go_wp2_with fail
          refine (likeInts_true _ _ _ _ _ _ _ _ _ hX.rd hpx hnX).mono ?_
          rintro e wy ⟨rfl, hqy⟩
          go_wp2_with fail
          go_ret
          exact ⟨rfl, hBx.trans (hqy.below _)⟩
        · have hCp : (rankC p != 0) = true := by
            unfold rankC
            by_cases hpo : isOrd p
            · rw [if_pos hpo, if_neg (fun hh => hbad ⟨hpo, hh⟩)]; rfl
            · rw [if_neg hpo]; rfl
          clear hbad
          go_wp2_with fail
          go_ret
          exact ⟨rfl, hB9⟩
    · have hC := orkC_no n r hok
      clear hok
      by_cases hbad : isOrd p ∧ p.length ≤ 12
      · obtain ⟨hpo, hpl⟩ := hbad
        have hCp : rankC p = 0 := by unfold rankC; rw [if_pos hpo, if_pos hpl]
        have hRp : rankR p = rk p p.length := by unfold rankR; rw [if_pos ⟨hpo, hpl⟩]
        have hrr := rk_range p
        have hff := fac_bd p.length hpl
        have hpn : p.length = nP := hp7.1
        have hok : orkOk nP (rankR p) := ⟨by omega, by rw [hRp]; exact hrr.1, by rw [hRp]; simpa [hpn] using hrr.2⟩
        have HOC : Hid (orkC nP (rankR p) = 0) := by unfold orkC; rw [if_pos hok]; exact rfl
        have HOR : Hid (orkR nP (rankR p) = p) := by
          show _ = _
          unfold orkR
          rw [if_pos hok, hRp, Int.toNat_natCast, ← hpn]
          exact order_of_rank p hpo
        have hk0 : -9223372036854775808 ≤ rankR p ∧ rankR p ≤ 9223372036854775807 := by rw [hRp]; omega
        rw [hCp]
        clear hok hRp hrr hff hpn hpo hpl hCp
        go_wp2_with fail
        refine (implOrk_any nP (rankR p) _ (by omega) hk0).mono ?_
        rintro e wx ⟨AX, nX, cX, rfl, hX, hnX, hbx⟩
        have hBx := (hB7).trans (hbx.mono (by first | omega | (simp; omega)))
        have hpx := hp7.below hbx (by first | omega | (simp; omega))
        rw [HOR.out] at hX
        rw [HOC.out]
        obtain rfl : nX = nP := hX.rd.1.symm.trans hpx.1
        go_wp2_with fail
        refine (likeInts_true _ _ _ _ _ _ _ _ _ hX.rd hpx hnX).mono ?_
        rintro e wy ⟨rfl, hqy⟩
        go_wp2_with fail
        go_ret
        exact ⟨rfl, hBx.trans (hqy.below _)⟩
      · have hCp : (rankC p != 0) = true := by
          unfold rankC
          by_cases hpo : isOrd p
          · rw [if_pos hpo, if_neg (fun hh => hbad ⟨hpo, hh⟩)]; rfl
          · rw [if_neg hpo]; rfl
        clear hbad
        go_wp2_with fail
        go_ret
        exact ⟨rfl, hB7⟩
  · have HF : Hid (decide (4096 < N) = true) := decide_eq_true (by omega)
    go_enter Try.func4, Try.ntmps4
    go_wp2_with fail
    refine (big_any A N C _).mono ?_
    rintro e _ ⟨rfl, rfl⟩
    rw [HF.out]
    go_wp2_with fail
    go_ret
    exact ⟨rfl, Below.refl _ _⟩
end Go.Proofs.Ytokljgdfhogcoaa
