/- Contracts of RunCuts, the program's and the model's. -/
import Derived.Test.YtpidcbbpcgbfiaaGuMc
namespace Go.Proofs.Ytpidcbbpcgbfiaa
open Go.RowKit
set_option linter.unusedVariables false

theorem Gu.rc_inv {p : Pc} {g : List Ct} (h : Gu.okP p = false) : Gu.rcC p g = 1 ∧ Gu.rcR p g = [] := by
  have h1 : Gu.rcC p g = 1 := by unfold Gu.rcC; rw [h]; rfl
  exact ⟨h1, by unfold Gu.rcR; rw [h1]; rfl⟩
theorem Gu.rc_lim {p : Pc} {g : List Ct} (h : Gu.okP p = true) (hg : 79 < g.length) : Gu.rcC p g = 3 ∧ Gu.rcR p g = [] := by
  have h1 : Gu.rcC p g = 3 := by unfold Gu.rcC; rw [if_pos h, if_neg (show ¬ g.length ≤ 79 by omega)]
  exact ⟨h1, by unfold Gu.rcR; rw [h1]; rfl⟩
theorem Gu.rc_stop {p : Pc} {g : List Ct} (h : Gu.okP p = true) (hg : g.length ≤ 79) (hr : Gu.run [p] g = none) : Gu.rcC p g = 5 ∧ Gu.rcR p g = [] := by
  have h1 : Gu.rcC p g = 5 := by unfold Gu.rcC; rw [h, if_pos hg, hr]; rfl
  exact ⟨h1, by unfold Gu.rcR; rw [h1]; rfl⟩
theorem Gu.rc_good {p : Pc} {g : List Ct} {m : List Pc} (h : Gu.okP p = true) (hg : g.length ≤ 79) (hr : Gu.run [p] g = some m) : Gu.rcC p g = 0 ∧ Gu.rcR p g = m := by
  have h1 : Gu.rcC p g = 0 := by unfold Gu.rcC; rw [h, if_pos hg, hr]; rfl
  exact ⟨h1, by unfold Gu.rcR; rw [h1, hr]; rfl⟩
theorem Gu.okL_of {m : List Pc} (h1 : m.length ≤ 80) (h2 : ∀ x ∈ m, Gu.okP x = true) : Gu.okL m = true := by
  unfold Gu.okL
  simp only [Bool.and_eq_true, decide_eq_true_eq, List.all_eq_true]
  exact ⟨h1, h2⟩
theorem Gu.run_okL {p : Pc} {g : List Ct} {m : List Pc} (h : Gu.okP p = true) (hr : Gu.run [p] g = some m) (hg : g.length ≤ 79) : Gu.okL m = true ∧ m.length = 1 + g.length := by
  have h1 := Gu.run_len hr
  have h2 := Gu.run_ok hr (by intro x hx; simp at hx; rw [hx]; exact h)
  simp only [List.length_singleton] at h1
  exact ⟨Gu.okL_of (by omega) h2, h1⟩
theorem OwnS.some_ {w : World} {lo hi n c : Nat} {A : Option Addr} {l : List Pc} (h : OwnS Pc.S w lo hi (.slice A n c) l) (hn : 0 < n) : ∃ g, A = some ⟨g, 0, none⟩ ∧ n ≤ c ∧ g < hi ∧ g < w.heap.size := by
  obtain ⟨g, x, hA, _, h1, h2, _⟩ := h.raw (k := 0) hn
  obtain ⟨_, c', hv, hle⟩ := h.form
  have hl := h.rd.1
  injection hv with _ _ hv
  exact ⟨g, hA, by omega, h1, h2⟩

set_option maxRecDepth 100000 in
set_option maxHeartbeats 2000000 in
theorem specRc_any (p : Pc) (A : Option Addr) (n c B : Nat) (g : List Ct) (R : List Pc) (Cd : Int) (w : World) (h : RdS Ct.S w B A n g) (hB : B ≤ w.heap.size) (hn : n ≤ 1048577) (hR : Gu.rcR p g = R) (hC : Gu.rcC p g = Cd) :
    Calls Try.prog 24 #[p.agg, .slice A n c] w fun e w' => PcC w R Cd e w' := by
  have HL := Lib.hid h.1
  have HQ := Lib.hid (And.intro hC hR)
  clear hC hR
  have HB0 := Lib.hid (below_new9 w (.cells #[.int .i64 p.w, .int .i64 p.h] 25))
  have Bx0 := Lib.hid (Blk.new (w := w) (g := w.heap.size) #[.int .i64 p.w, .int .i64 p.h] 25 rfl)
  have hr0 := h.alloc hB (.cells #[.int .i64 p.w, .int .i64 p.h] 25)
  have hz0 : w.heap.size + 1 = (w.alloc (.cells #[.int .i64 p.w, .int .i64 p.h] 25)).heap.size := by simp
  obtain ⟨d, hd⟩ : ∃ d, Gu.okP p = d := ⟨_, rfl⟩
  have HD := Lib.hid hd
  clear hd
  cases d
  · have HE := Lib.hid (Gu.rc_inv (g := g) HD.out)
    go_enter Try.func24, Try.ntmps24
    go_wp2_with fail
    refine (specPc_any p false _ HD.out).mono ?_
    rintro e w1 ⟨rfl, hb1⟩
    have z1 : w.heap.size + 1 ≤ w1.heap.size := by have h_ := hb1.size; omega
    have HB1 := Lib.hid (HB0.out.trans (hb1.mono (by omega)))
    have Bx1 := Lib.hid (Bx0.out.below hb1 (by omega))
    have c1_0 := Bx1.out.cell 0 (v := .int .i64 p.w) rfl
    have c1_1 := Bx1.out.cell 1 (v := .int .i64 p.h) rfl
    have hr1 := hr0.below hb1 (by omega)
    clear hb1
    go_wp2_with fail
    go_ret2
    exact PcC.nil_ (by rw [← HQ.out.2, HE.out.2]) (by rw [← HQ.out.1, HE.out.1]) HB1.out
  by_cases hn79 : 79 < n
  · have HE := Lib.hid (Gu.rc_lim (g := g) HD.out (by rw [HL.out]; exact hn79))
    go_enter Try.func24, Try.ntmps24
    go_wp2_with fail
    refine (specPc_any p true _ HD.out).mono ?_
    rintro e w1 ⟨rfl, hb1⟩
    have z1 : w.heap.size + 1 ≤ w1.heap.size := by have h_ := hb1.size; omega
    have HB1 := Lib.hid (HB0.out.trans (hb1.mono (by omega)))
    have Bx1 := Lib.hid (Bx0.out.below hb1 (by omega))
    have c1_0 := Bx1.out.cell 0 (v := .int .i64 p.w) rfl
    have c1_1 := Bx1.out.cell 1 (v := .int .i64 p.h) rfl
    have hr1 := hr0.below hb1 (by omega)
    clear hb1
    go_wp2_with fail
    go_ret2
    exact PcC.nil_ (by rw [← HQ.out.2, HE.out.2]) (by rw [← HQ.out.1, HE.out.1]) HB1.out
  · have hn79' : n ≤ 79 := by omega
    have HG : Hid (g.length ≤ 79) := Lib.hid (by rw [HL.out]; exact hn79')
    go_enter Try.func24, Try.ntmps24
    go_wp2_with fail
    refine (specPc_any p true _ HD.out).mono ?_
    rintro e w1 ⟨rfl, hb1⟩
    have z1 : w.heap.size + 1 ≤ w1.heap.size := by have h_ := hb1.size; omega
    have HB1 := Lib.hid (HB0.out.trans (hb1.mono (by omega)))
    have Bx1 := Lib.hid (Bx0.out.below hb1 (by omega))
    have c1_0 := Bx1.out.cell 0 (v := .int .i64 p.w) rfl
    have c1_1 := Bx1.out.cell 1 (v := .int .i64 p.h) rfl
    have hr1 := hr0.below hb1 (by omega)
    clear hb1
    go_wp2_with fail
    have ho1 : OwnS Pc.S (w1.alloc (.cells #[.int .i64 p.w, .int .i64 p.h] 25)) w1.heap.size (w1.heap.size + 1) (.slice (some ⟨w1.heap.size, 0, none⟩) 1 1) [p] := OwnS.lit (S := Pc.S) w1 [p] #[.int .i64 p.w, .int .i64 p.h] rfl 1 rfl (by omega)
    have hs1 : (w1.alloc (.cells #[.int .i64 p.w, .int .i64 p.h] 25)).heap.size = w1.heap.size + 1 := by simp
    go_loopw [6, 7] (fun q i wr => ∃ (k : Nat) (A2 : Option Addr) (c2 : Nat) (m : List Pc), k ≤ n ∧ i = .int .i64 k ∧ q = .slice A2 (k + 1) c2 ∧ OwnS Pc.S wr w1.heap.size wr.heap.size (.slice A2 (k + 1) c2) m ∧ Hid (Gu.run [p] (g.take k) = some m) ∧ Below w.heap.size w wr ∧ Below w1.heap.size w1 wr) (fun _ i _ => n - (intOf i).toNat)
    case atStart => exact ⟨0, _, _, [p], Nat.zero_le _, rfl, rfl, ho1.mono (Nat.le_refl _) (by omega), Lib.hid (by simp [Gu.run]), HB1.out.alloc (by omega) _, (Below.refl _ _).alloc (Nat.le_refl _) _⟩
    case round =>
      clear ho1 hs1 c1_0 c1_1
      obtain ⟨k, A2, c2, m, hk, rfl, rfl, ho, HM, hb, hbw⟩ := hrel
      have hz := hb.size
      have HOK := Lib.hid (Gu.run_okL HD.out HM.out (by have := HL.out; simp; omega))
      by_cases hlt : k < n
      · obtain ⟨b1, o, x, rfl, hbB, hx, c0, c1, cc2⟩ := (hr1.below hbw (by omega)).at_Ct hlt
        obtain ⟨g2, rfl, hc2, hg2, hg3⟩ := ho.some_ (by omega)
        have HX := Lib.hid hx
        obtain ⟨v, hv⟩ : ∃ v, Gu.can m x = v := ⟨_, rfl⟩
        have HCN := Lib.hid hv
        clear hx hv
        have hzw := hbw.size
        go_wp2_with fail
        refine (specCc_any (some ⟨g2, 0, none⟩) (k + 1) c2 _ m x.i x.a x.t v _ ho.rd (Nat.le_refl _) (by omega) (Gu.cc_of HOK.out.1 HCN.out)).mono ?_
        rintro e w5 ⟨rfl, hb5⟩
        have z5 := hb5.size
        have ho5 := ho.below hb5 (Nat.le_refl _)
        have HB5 := Lib.hid (hb.trans (hb5.mono hz))
        have HBW5 := Lib.hid (hbw.trans (hb5.mono hzw))
        cases v
        · have HE := Lib.hid (Gu.rc_stop HD.out HG.out (Gu.run_stop HM.out HX.out HCN.out))
          go_wp2_with fail
          go_ret2
          exact PcC.nil_ (by rw [← HQ.out.2, HE.out.2]) (by rw [← HQ.out.1, HE.out.1]) HB5.out
        · have hcc : Ct.cl w5 b1 (o + k * 3) x := ⟨(hb5.cell (show b1 < _ by omega)).trans c0, (hb5.cell (show b1 < _ by omega)).trans c1, (hb5.cell (show b1 < _ by omega)).trans cc2⟩
          obtain ⟨d0, d1, d2⟩ := hcc
          go_wp2_with fail
          refine (specLc_any g2 0 (k + 1) c2 _ m x.i x.a x.t _ ho5.rd (by omega) HOK.out.1 hc2 (Gu.can_iff.1 HCN.out)).mono ?_
          rintro e w6 ⟨A6, c6, rfl, ho6, hb6⟩
          have HB6 := Lib.hid (HB5.out.trans (hb6.mono (by omega)))
          have HBW6 := Lib.hid (HBW5.out.trans (hb6.mono (by omega)))
          have HO6 := Lib.hid (ho6.mono (lo' := w1.heap.size) (by omega) (Nat.le_refl _))
          clear ho6 hb6 ho5 hb5
          go_wp2_with fail
          go_roundw
          case rel => exact ⟨k + 1, A6, c6, Gu.cut m x, by omega, by go_num, rfl, HO6.out, Lib.hid (Gu.run_next HM.out HX.out HCN.out), HB6.out, HBW6.out⟩
          case measure => simp [intOf]; omega
      · obtain rfl : k = n := by omega
        have HE : Hid (Gu.rcC p g = 0 ∧ Gu.rcR p g = m) := Lib.hid (Gu.rc_good HD.out HG.out (by have := HM.out; rwa [List.take_of_length_le (by have := HL.out; omega)] at this))
        have HO := Lib.hid ho
        clear ho
        go_wp2_with fail
        go_ret2
        exact PcC.mk_ (by rw [← HQ.out.2, HE.out.2]) (by rw [← HQ.out.1, HE.out.1]) HO.out (by omega) (Nat.le_refl _) (by omega) hb

set_option maxRecDepth 100000 in
set_option maxHeartbeats 2000000 in
theorem implRc_any (p : Pc) (A : Option Addr) (n c B : Nat) (g : List Ct) (R : List Pc) (Cd : Int) (w : World) (h : RdS Ct.S w B A n g) (hB : B ≤ w.heap.size) (hn : n ≤ 1048577) (hR : Gu.rcR p g = R) (hC : Gu.rcC p g = Cd) :
    Calls Try.prog 26 #[p.agg, .slice A n c] w fun e w' => PcC w R Cd e w' := by
  have HL := Lib.hid h.1
  have HQ := Lib.hid (And.intro hC hR)
  clear hC hR
  have HB0 := Lib.hid (below_new9 w (.cells #[.int .i64 p.w, .int .i64 p.h] 25))
  have Bx0 := Lib.hid (Blk.new (w := w) (g := w.heap.size) #[.int .i64 p.w, .int .i64 p.h] 25 rfl)
  have hr0 := h.alloc hB (.cells #[.int .i64 p.w, .int .i64 p.h] 25)
  have hz0 : w.heap.size + 1 = (w.alloc (.cells #[.int .i64 p.w, .int .i64 p.h] 25)).heap.size := by simp
  obtain ⟨d, hd⟩ : ∃ d, Gu.okP p = d := ⟨_, rfl⟩
  have HD := Lib.hid hd
  clear hd
  cases d
  · have HE := Lib.hid (Gu.rc_inv (g := g) HD.out)
    go_enter Try.func26, Try.ntmps26
    go_wp2_with fail
    refine (implPc_any p false _ HD.out).mono ?_
    rintro e w1 ⟨rfl, hb1⟩
    have z1 : w.heap.size + 1 ≤ w1.heap.size := by have h_ := hb1.size; omega
    have HB1 := Lib.hid (HB0.out.trans (hb1.mono (by omega)))
    have Bx1 := Lib.hid (Bx0.out.below hb1 (by omega))
    have c1_0 := Bx1.out.cell 0 (v := .int .i64 p.w) rfl
    have c1_1 := Bx1.out.cell 1 (v := .int .i64 p.h) rfl
    have hr1 := hr0.below hb1 (by omega)
    clear hb1
    go_wp2_with fail
    go_ret2
    exact PcC.nil_ (by rw [← HQ.out.2, HE.out.2]) (by rw [← HQ.out.1, HE.out.1]) HB1.out
  by_cases hn79 : 79 < n
  · have HE := Lib.hid (Gu.rc_lim (g := g) HD.out (by rw [HL.out]; exact hn79))
    go_enter Try.func26, Try.ntmps26
    go_wp2_with fail
    refine (implPc_any p true _ HD.out).mono ?_
    rintro e w1 ⟨rfl, hb1⟩
    have z1 : w.heap.size + 1 ≤ w1.heap.size := by have h_ := hb1.size; omega
    have HB1 := Lib.hid (HB0.out.trans (hb1.mono (by omega)))
    have Bx1 := Lib.hid (Bx0.out.below hb1 (by omega))
    have c1_0 := Bx1.out.cell 0 (v := .int .i64 p.w) rfl
    have c1_1 := Bx1.out.cell 1 (v := .int .i64 p.h) rfl
    have hr1 := hr0.below hb1 (by omega)
    clear hb1
    go_wp2_with fail
    go_ret2
    exact PcC.nil_ (by rw [← HQ.out.2, HE.out.2]) (by rw [← HQ.out.1, HE.out.1]) HB1.out
  · have hn79' : n ≤ 79 := by omega
    have HG : Hid (g.length ≤ 79) := Lib.hid (by rw [HL.out]; exact hn79')
    go_enter Try.func26, Try.ntmps26
    go_wp2_with fail
    refine (implPc_any p true _ HD.out).mono ?_
    rintro e w1 ⟨rfl, hb1⟩
    have z1 : w.heap.size + 1 ≤ w1.heap.size := by have h_ := hb1.size; omega
    have HB1 := Lib.hid (HB0.out.trans (hb1.mono (by omega)))
    have Bx1 := Lib.hid (Bx0.out.below hb1 (by omega))
    have c1_0 := Bx1.out.cell 0 (v := .int .i64 p.w) rfl
    have c1_1 := Bx1.out.cell 1 (v := .int .i64 p.h) rfl
    have hr1 := hr0.below hb1 (by omega)
    clear hb1
    go_wp2_with fail
    have ho1 : OwnS Pc.S (w1.alloc (.cells #[.int .i64 p.w, .int .i64 p.h] 25)) w1.heap.size (w1.heap.size + 1) (.slice (some ⟨w1.heap.size, 0, none⟩) 1 1) [p] := OwnS.lit (S := Pc.S) w1 [p] #[.int .i64 p.w, .int .i64 p.h] rfl 1 rfl (by omega)
    have hs1 : (w1.alloc (.cells #[.int .i64 p.w, .int .i64 p.h] 25)).heap.size = w1.heap.size + 1 := by simp
    go_loopw [6, 19] (fun q i wr => ∃ (k : Nat) (A2 : Option Addr) (c2 : Nat) (m : List Pc), k ≤ n ∧ i = .int .i64 k ∧ q = .slice A2 (k + 1) c2 ∧ OwnS Pc.S wr w1.heap.size wr.heap.size (.slice A2 (k + 1) c2) m ∧ Hid (Gu.run [p] (g.take k) = some m) ∧ Below w.heap.size w wr ∧ Below w1.heap.size w1 wr) (fun _ i _ => n - (intOf i).toNat)
    case atStart => exact ⟨0, _, _, [p], Nat.zero_le _, rfl, rfl, ho1.mono (Nat.le_refl _) (by omega), Lib.hid (by simp [Gu.run]), HB1.out.alloc (by omega) _, (Below.refl _ _).alloc (Nat.le_refl _) _⟩
    case round =>
      clear ho1 hs1 c1_0 c1_1
      obtain ⟨k, A2, c2, m, hk, rfl, rfl, ho, HM, hb, hbw⟩ := hrel
      have hz := hb.size
      have HOK := Lib.hid (Gu.run_okL HD.out HM.out (by have := HL.out; simp; omega))
      by_cases hlt : k < n
      · obtain ⟨b1, o, x, rfl, hbB, hx, c0, c1, cc2⟩ := (hr1.below hbw (by omega)).at_Ct hlt
        obtain ⟨g2, rfl, hc2, hg2, hg3⟩ := ho.some_ (by omega)
        have HX := Lib.hid hx
        obtain ⟨v, hv⟩ : ∃ v, Gu.can m x = v := ⟨_, rfl⟩
        have HCN := Lib.hid hv
        clear hx hv
        have hbA : Below w.heap.size w (wr.alloc (.cells #[.int .i64 x.i, .bool x.a, .int .i64 x.t] 35)) := hb.alloc hz _
        have hbAw : Below w1.heap.size w1 (wr.alloc (.cells #[.int .i64 x.i, .bool x.a, .int .i64 x.t] 35)) := hbw.alloc hbw.size _
        have hoA := ho.alloc (.cells #[.int .i64 x.i, .bool x.a, .int .i64 x.t] 35)
        have hlA : wr.heap.size + 1 = (wr.alloc (.cells #[.int .i64 x.i, .bool x.a, .int .i64 x.t] 35)).heap.size := by simp
        have BxA := Lib.hid (Blk.new (w := wr) (g := wr.heap.size) #[.int .i64 x.i, .bool x.a, .int .i64 x.t] 35 rfl)
        replace ho := hoA
        replace hb := hbA
        replace hbw := hbAw
        replace hz : w.heap.size ≤ (wr.alloc (.cells #[.int .i64 x.i, .bool x.a, .int .i64 x.t] 35)).heap.size := by omega
        clear hoA hbA hbAw
        have hzw := hbw.size
        go_wp2_with fail
        refine (allows_any (some ⟨g2, 0, none⟩) (k + 1) c2 _ m x.i x.a x.t v _ ho.rd (by omega) (by omega) HCN.out).mono ?_
        rintro e w5 ⟨rfl, hb5⟩
        have z5 := hb5.size
        have ho5 := ho.below hb5 (by omega)
        have HB5 := Lib.hid (hb.trans (hb5.mono hz))
        have HBW5 := Lib.hid (hbw.trans (hb5.mono hzw))
        have Bx5 := BxA.out.below hb5 (by omega)
        have a5_0 := Bx5.cell 0 (v := .int .i64 x.i) rfl
        have a5_1 := Bx5.cell 1 (v := .bool x.a) rfl
        have a5_2 := Bx5.cell 2 (v := .int .i64 x.t) rfl
        cases v
        · have HE := Lib.hid (Gu.rc_stop HD.out HG.out (Gu.run_stop HM.out HX.out HCN.out))
          go_wp2_with fail
          go_ret2
          exact PcC.nil_ (by rw [← HQ.out.2, HE.out.2]) (by rw [← HQ.out.1, HE.out.1]) HB5.out
        · skip
          go_wp2_with fail
          refine (implAf_any g2 0 (k + 1) c2 _ m x.i x.a x.t _ ho5.rd (by omega) HOK.out.1 hc2 (Gu.can_iff.1 HCN.out)).mono ?_
          rintro e w6 ⟨A6, c6, rfl, ho6, hb6⟩
          have HB6 := Lib.hid (HB5.out.trans (hb6.mono (by omega)))
          have HBW6 := Lib.hid (HBW5.out.trans (hb6.mono (by omega)))
          have HO6 := Lib.hid (ho6.mono (lo' := w1.heap.size) (by omega) (Nat.le_refl _))
          clear ho6 hb6 ho5 hb5
          go_wp2_with fail
          go_roundw
          case rel => exact ⟨k + 1, A6, c6, Gu.cut m x, by omega, by go_num, rfl, HO6.out, Lib.hid (Gu.run_next HM.out HX.out HCN.out), HB6.out, HBW6.out⟩
          case measure => simp [intOf]; omega
      · obtain rfl : k = n := by omega
        have HE : Hid (Gu.rcC p g = 0 ∧ Gu.rcR p g = m) := Lib.hid (Gu.rc_good HD.out HG.out (by have := HM.out; rwa [List.take_of_length_le (by have := HL.out; omega)] at this))
        have HO := Lib.hid ho
        clear ho
        go_wp2_with fail
        go_ret2
        exact PcC.mk_ (by rw [← HQ.out.2, HE.out.2]) (by rw [← HQ.out.1, HE.out.1]) HO.out (by omega) (Nat.le_refl _) (by omega) hb

end Go.Proofs.Ytpidcbbpcgbfiaa
