/- The walk of the law FnNested, out of the contracts. -/
import Derived.Test.YtfiefjbipjalpaaSgDx
import Derived.Test.YtfiefjbipjalpaaSgNq
import Derived.Test.YtfiefjbipjalpaaSgMath2
import Derived.Test.YtfiefjbipjalpaaSgLk
namespace Go.Proofs.Ytfiefjbipjalpaa
open Go.RowKit

theorem four_cells {w : World} {lo hi n2 c2 : Nat} {A : Option Addr} {n k : Int} (h : Own I w lo hi 2 (.slice A n2 c2) (Sg.four n k)) :
    ∃ g, A = some ⟨g, 0, none⟩ ∧ n2 = 4 ∧ w.cell? ⟨g, 0, none⟩ = some (.int .i64 (4 * n - 2 * k)) ∧ w.cell? ⟨g, 1, none⟩ = some (.int .i64 (2 * k + 1)) ∧ w.cell? ⟨g, 2, none⟩ = some (.int .i64 (2 * k + 2)) ∧ w.cell? ⟨g, 3, none⟩ = some (.int .i64 (4 * n - 2 * k - 1)) := by
  obtain rfl : n2 = 4 := h.rd.1.symm
  obtain ⟨b, o, hA, _, hc⟩ := h.rd.2 (by omega)
  obtain ⟨g, x, hg, _⟩ := h.at_ (k := 0) (by omega)
  rw [hg] at hA
  injection hA with hA
  injection hA with h1 h2 _
  subst h1 h2
  exact ⟨g, hg, rfl, hc 0 _ rfl, hc 1 _ rfl, hc 2 _ rfl, hc 3 _ rfl⟩

set_option maxRecDepth 100000 in
set_option maxHeartbeats 4000000 in
theorem w_FnNested (A : Option Addr) (N C : Nat) (l : List Int) (w : World) (h : Rd U w w.heap.size A N l) (hl : inByte l) :
    Calls Try.prog 6 #[.slice A N C] w fun e w' => e = .returned (.bool true) ∧ Below w.heap.size w w' := by
  by_cases hN : N ≤ 4096
  · have HF : Hid (decide (4096 < N) = false) := decide_eq_false (by omega)
    go_enter Try.func6, Try.ntmps6
    go_wp2_with fail
    refine (sgBig_any A N C _).mono ?_
    rintro e _ ⟨rfl, rfl⟩
    rw [HF.out]
    go_wp2_with fail
    refine (DrawNp_any N C w.heap.size A l w h hl (Nat.le_refl _) (by omega)).mono ?_
    rintro e w1 ⟨n, k, rfl, hn, hk, hb1⟩
    have z1 := hb1.size
    have h1 := h.below hb1 (Nat.le_refl _)
    obtain ⟨R, hR⟩ : ∃ R, Sg.npR n k = R := ⟨_, rfl⟩
    obtain ⟨q, hq⟩ : ∃ q, Sg.npC n k = q := ⟨_, rfl⟩
    have HR := Lib.hid hR
    have HQ := Lib.hid hq
    clear hR hq
    go_wp2_with fail
    refine (implNp_any n k R q w1 HR.out HQ.out).mono ?_
    rintro e w2 ⟨A2, n2, c2, rfl, ho2, hn2, hb2⟩
    have z2 := hb2.size
    have hB2 := hb1.trans (hb2.mono z1)
    have h2 := h1.below hb2 z1
    go_wp2_with fail
    refine (specNp_any n k R q w2 HR.out HQ.out).mono ?_
    rintro e w3 ⟨A3, n3, c3, rfl, ho3, hn3, hb3⟩
    have z3 := hb3.size
    have hB3 := hB2.trans (hb3.mono (by omega))
    have h3 := h2.below hb3 (by omega)
    have r3 := ho2.below hb3 (Nat.le_refl _)
    go_wp2_with fail
    refine (DrawNs_any N C w.heap.size A l w3 h3 hl (by omega) (by omega)).mono ?_
    rintro e w4 ⟨m, p, rfl, hm, hp, hb4⟩
    have z4 := hb4.size
    have hB4 := hB3.trans (hb4.mono (by omega))
    have r4 := r3.below hb4 z3
    have s4 := ho3.below hb4 (Nat.le_refl _)
    obtain ⟨a, ha⟩ : ∃ a, Sg.nsA m p = a := ⟨_, rfl⟩
    obtain ⟨b, hb⟩ : ∃ b, Sg.nsB m p = b := ⟨_, rfl⟩
    obtain ⟨c, hc⟩ : ∃ c, Sg.nsC m p = c := ⟨_, rfl⟩
    obtain ⟨r, hr⟩ : ∃ r, Sg.ptR m p = r := ⟨_, rfl⟩
    have HA := Lib.hid ha
    have HBB := Lib.hid hb
    have HC := Lib.hid hc
    have HP := Lib.hid hr
    clear ha hb hc hr h h1 h2 h3
    go_wp2_with fail
    refine (implNs_any m p a b c w4 HA.out HBB.out HC.out).mono ?_
    rintro e w5 ⟨rfl, hb5⟩
    have z5 := hb5.size
    have hB5 := hB4.trans (hb5.mono (by omega))
    have r5 := r4.below hb5 (by omega)
    have s5 := s4.below hb5 z4
    go_wp2_with fail
    refine (specNs_any m p a b c w5 HA.out HBB.out HC.out).mono ?_
    rintro e w6 ⟨rfl, hb6⟩
    have z6 := hb6.size
    have hB6 := hB5.trans (hb6.mono (by omega))
    have r6 := r5.below hb6 (by omega)
    have s6 := s5.below hb6 (by omega)
    go_wp2_with fail
    refine (implPt_any m p r c w6 HP.out HC.out).mono ?_
    rintro e _ ⟨rfl, rfl⟩
    go_wp2_with fail
    refine (specPt_any m p r c w6 HP.out HC.out).mono ?_
    rintro e _ ⟨rfl, rfl⟩
    go_wp2_with fail
    refine (sgLike_true A2 A3 n2 n3 c2 c3 _ _ R w6 r6.rd s6.rd hn2).mono ?_
    rintro e w7 ⟨rfl, hq7⟩
    have hB7 := hB6.trans (hq7.below _)
    have r7 := r6.q hq7
    have z7 := hq7.le
    have HB7 := Lib.hid hB7
    have HR7 := Lib.hid r7
    clear ho2 ho3 hb1 hb2 hb3 hb4 hb5 hb6 hB2 hB3 hB4 hB5 hB6 hB7 r3 r4 r5 r6 r7 s4 s5 s6 hq7
    cases hs : Sg.nsOk m p
    · have HZ : Hid (c = 2) := Lib.hid (by rw [← HC.out]; unfold Sg.nsC; rw [hs]; rfl)
      rw [HZ.out]
      clear hs
      cases ho : Sg.npOk n k
      · have HY : Hid (q = 2) := Lib.hid (by rw [← HQ.out]; unfold Sg.npC; rw [ho]; rfl)
        rw [HY.out]
        clear ho
        go_wp2_with fail
        go_quiet (fail)
        go_wp2_with fail
        go_ret
        exact ⟨rfl, HB7.out.trans ((Q.drewN _ _).below _)⟩
      · obtain ⟨e1, e2⟩ := Sg.np_yes ho HR.out HQ.out
        have hr0 := HR7.out
        rw [e1] at hr0
        obtain ⟨g, rfl, rfl, x0, x1, x2, x3⟩ := four_cells hr0
        obtain ⟨⟨n1, n2⟩, k1, k2⟩ := of_decide_eq_true ho
        have HY := Lib.hid e2
        have f1 : IntKind.i64.wrap (4 * n - 2 * k + (2 * k + 1)) = 4 * n + 1 := by rw [IntWalk.i64_in _ (by omega)]; omega
        have f2 : IntKind.i64.wrap (2 * k + 2 + (4 * n - 2 * k - 1)) = 4 * n + 1 := by rw [IntWalk.i64_in _ (by omega)]; omega
        have f3 : IntKind.i64.wrap (4 * n) = 4 * n := IntWalk.i64_in _ (by omega)
        have f4 : IntKind.i64.wrap (4 * n + 1) = 4 * n + 1 := IntWalk.i64_in _ (by omega)
        rw [HY.out]
        clear ho e1 e2 hr0 k1 k2 n1 n2
        go_wp2_with fail
        go_quiet (fail)
        go_wp2_with fail
        go_ret
        exact ⟨rfl, HB7.out.trans ((Q.drewN _ _).below _)⟩
    · obtain ⟨ea, eb, ec⟩ := Sg.ns_yes hs HA.out HBB.out HC.out
      obtain ⟨er, _⟩ := Sg.pt_yes hs HP.out HC.out
      have hbd := Sg.ns_bd hs
      obtain ⟨⟨m1, m2⟩, p1, p2⟩ := of_decide_eq_true hs
      obtain ⟨y1, y2, y3, y4⟩ := Sg.pt_facts hs
      have hnp := Sg.np_of hs
      rw [← ea] at hbd hnp y2
      rw [← eb] at hbd y3 y4
      rw [← er] at y1 y2 y3 y4
      obtain ⟨b', hb'⟩ : ∃ b', Sg.nsI m r = b' := ⟨_, rfl⟩
      rw [hb'] at y3 y4
      have hbd' := Sg.ns_bd y1
      rw [hb'] at hbd'
      have hN1 : Hid (Sg.npR m a = Sg.four m a ∧ Sg.npC m a = 0) := Lib.hid ⟨if_pos hnp, if_pos hnp⟩
      have hN2 : Hid (Sg.nsA m r = a ∧ Sg.nsB m r = b' ∧ Sg.nsC m r = 0) := Lib.hid ⟨by unfold Sg.nsA; rw [if_pos y1, y2], by unfold Sg.nsB; rw [if_pos y1, hb'], if_pos y1⟩
      obtain ⟨j, rfl⟩ := Int.eq_ofNat_of_zero_le hbd.2.2.1
      have H4 : Hid ((Sg.four m a)[j]? = some p) := Lib.hid (by have := Sg.four_at hs j eb; rw [← ea] at this; exact this)
      have hj4 : j < 4 := by omega
      obtain ⟨d, hd⟩ : ∃ d, (j : Int) / 2 = d := ⟨_, rfl⟩
      have hd' : b' / 2 = d := y3.trans hd
      have t1 : (j : Int).tdiv 2 = d := by rw [Int.tdiv_eq_ediv_of_nonneg (by omega)]; exact hd
      have t2 : b'.tdiv 2 = d := by rw [Int.tdiv_eq_ediv_of_nonneg (by omega)]; exact hd'
      have w1d : IntKind.i64.wrap d = d := IntWalk.i64_in _ (by omega)
      have g1 : IntKind.i64.wrap (r + p) = 4 * m + 1 := by rw [IntWalk.i64_in _ (by omega)]; omega
      have g2 : IntKind.i64.wrap (4 * m) = 4 * m := IntWalk.i64_in _ (by omega)
      have g3 : IntKind.i64.wrap (4 * m + 1) = 4 * m + 1 := IntWalk.i64_in _ (by omega)
      have y4' : (b' == (j : Int)) = false := by simpa using y4
      have HZ := Lib.hid ec
      clear ea eb ec er hbd hbd' m1 m2 p1 p2 y1 y2 y3 hnp hb' hd hd' hs
      rw [HZ.out]
      go_wp2_with fail
      refine (implNp_any m a (Sg.four m a) 0 w7 hN1.out.1 hN1.out.2).mono ?_
      rintro e w8 ⟨A8, n8, c8, rfl, ho8, hn8, hb8⟩
      have z8 := hb8.size
      have HB8 := Lib.hid (HB7.out.trans (hb8.mono (by omega)))
      have r8 := HR7.out.below hb8 (by omega)
      go_wp2_with fail
      refine (implNs_any m r a b' 0 w8 hN2.out.1 hN2.out.2.1 hN2.out.2.2).mono ?_
      rintro e w9 ⟨rfl, hb9⟩
      have z9 := hb9.size
      have HB9 := Lib.hid (HB8.out.trans (hb9.mono (by omega)))
      have HR9 := Lib.hid (r8.below hb9 (by omega))
      have ho9 := ho8.below hb9 (Nat.le_refl _)
      obtain ⟨g8, rfl, rfl, _, _, _, _⟩ := four_cells ho9
      obtain ⟨g', v, eg, _, _, _, hv, cv, _⟩ := ho9.at_ hj4
      injection eg with eg
      injection eg with eg _ _
      subst eg
      obtain rfl : p = v := Option.some.inj (H4.out.symm.trans hv)
      clear ho8 ho9 hb8 hb9 r8 hv
      cases ho : Sg.npOk n k
      · have HY : Hid (q = 2) := Lib.hid (by rw [← HQ.out]; unfold Sg.npC; rw [ho]; rfl)
        rw [HY.out]
        clear ho
        go_wp2_with fail
        go_quiet (fail)
        go_wp2_with fail
        go_ret
        exact ⟨rfl, HB9.out.trans ((Q.drewN _ _).below _)⟩
      · obtain ⟨e1, e2⟩ := Sg.np_yes ho HR.out HQ.out
        have hr0 := HR9.out
        rw [e1] at hr0
        obtain ⟨g, rfl, rfl, x0, x1, x2, x3⟩ := four_cells hr0
        obtain ⟨⟨n1, n2⟩, k1, k2⟩ := of_decide_eq_true ho
        have HY := Lib.hid e2
        have f1 : IntKind.i64.wrap (4 * n - 2 * k + (2 * k + 1)) = 4 * n + 1 := by rw [IntWalk.i64_in _ (by omega)]; omega
        have f2 : IntKind.i64.wrap (2 * k + 2 + (4 * n - 2 * k - 1)) = 4 * n + 1 := by rw [IntWalk.i64_in _ (by omega)]; omega
        have f3 : IntKind.i64.wrap (4 * n) = 4 * n := IntWalk.i64_in _ (by omega)
        have f4 : IntKind.i64.wrap (4 * n + 1) = 4 * n + 1 := IntWalk.i64_in _ (by omega)
        rw [HY.out]
        clear ho e1 e2 hr0 k1 k2 n1 n2
        go_wp2_with fail
        go_quiet (fail)
        go_wp2_with fail
        go_ret
        exact ⟨rfl, HB9.out.trans ((Q.drewN _ _).below _)⟩
  · have HF : Hid (decide (4096 < N) = true) := decide_eq_true (by omega)
    go_enter Try.func6, Try.ntmps6
    go_wp2_with fail
    refine (sgBig_any A N C _).mono ?_
    rintro e _ ⟨rfl, rfl⟩
    rw [HF.out]
    go_wp2_with fail
    go_ret
    exact ⟨rfl, Below.refl _ _⟩
end Go.Proofs.Ytfiefjbipjalpaa
