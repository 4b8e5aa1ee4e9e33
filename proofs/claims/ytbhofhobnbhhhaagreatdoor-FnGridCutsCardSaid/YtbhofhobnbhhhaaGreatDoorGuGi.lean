/- Contract of GridCuts, the program's. -/
import Derived.Test.YtbhofhobnbhhhaaGreatDoorGuGm
import Derived.Test.YtbhofhobnbhhhaaGreatDoorGuGiA
import Derived.Test.YtbhofhobnbhhhaaGreatDoorGuGiB
import Derived.BigQuiet
import Derived.Deep.QuietTactic
namespace Go.Proofs.YtbhofhobnbhhhaaGreatDoor
open Go.RowKit
set_option linter.unusedVariables false
set_option maxRecDepth 100000 in
set_option maxHeartbeats 8000000 in
theorem implGc_any (p : Pc) (a c : Int) (q : Pc) (R : List Ct) (Cd : Int) (w : World) (ha : -9223372036854775808 ≤ a ∧ a ≤ 9223372036854775807) (hc : -9223372036854775808 ≤ c ∧ c ≤ 9223372036854775807) (hR : Gu.gcR p a c q = R) (hC : Gu.gcC p a c q = Cd) :
    Calls Tryz.prog 6 #[p.agg, .int .i64 a, .int .i64 c, q.agg] w fun e w' => CtC w R Cd e w' := by
  have HQ := Lib.hid (And.intro hC hR)
  clear hC hR
  have HB0 := Lib.hid (two_new9 w (.cells #[.int .i64 p.w, .int .i64 p.h] 25) (.cells #[.int .i64 q.w, .int .i64 q.h] 25))
  have Bp0 := Lib.hid ((Blk.new (w := w) (g := w.heap.size) #[.int .i64 p.w, .int .i64 p.h] 25 rfl).alloc (.cells #[.int .i64 q.w, .int .i64 q.h] 25))
  have Bq0 := Lib.hid (Blk.new (w := (w.alloc (.cells #[.int .i64 p.w, .int .i64 p.h] 25))) (g := w.heap.size + 1) #[.int .i64 q.w, .int .i64 q.h] 25 (by simp))
  have hz0 : w.heap.size + 2 = ((w.alloc (.cells #[.int .i64 p.w, .int .i64 p.h] 25)).alloc (.cells #[.int .i64 q.w, .int .i64 q.h] 25)).heap.size := by simp

  obtain ⟨d1, hd1⟩ : ∃ d, Gu.okP p = d := ⟨_, rfl⟩
  obtain ⟨d2, hd2⟩ : ∃ d, Gu.okP q = d := ⟨_, rfl⟩
  have HD1 := Lib.hid hd1
  have HD2 := Lib.hid hd2
  clear hd1 hd2

  cases d1
  · have HE := Lib.hid (Gu.gc_inv (a := a) (c := c) (p := p) (q := q) (by rw [HD1.out]; rfl))
    go_enter Tryz.func6, Tryz.ntmps6
    go_wp2_with fail
    refine (implPc_any p false _ HD1.out).mono ?_
    rintro e w1 ⟨rfl, hb1⟩
    have z1 : w.heap.size + 2 ≤ w1.heap.size := by have h_ := hb1.size; omega
    have HB1 := Lib.hid (HB0.out.trans (hb1.mono (by omega)))
    have Bp1 := Lib.hid (Bp0.out.below hb1 (by omega))
    have Bq1 := Lib.hid (Bq0.out.below hb1 (by omega))
    have p1_0 := Bp1.out.cell 0 (v := .int .i64 p.w) rfl
    have p1_1 := Bp1.out.cell 1 (v := .int .i64 p.h) rfl
    have q1_0 := Bq1.out.cell 0 (v := .int .i64 q.w) rfl
    have q1_1 := Bq1.out.cell 1 (v := .int .i64 q.h) rfl
    clear hb1
    go_wp2_with fail
    go_ret2
    exact CtC.nil_ (by rw [← HQ.out.2, HE.out.2]) (by rw [← HQ.out.1, HE.out.1]) HB1.out

  cases d2
  · have HE := Lib.hid (Gu.gc_inv (a := a) (c := c) (p := p) (q := q) (by rw [HD1.out, HD2.out]; rfl))
    go_enter Tryz.func6, Tryz.ntmps6
    go_wp2_with fail
    refine (implPc_any p true _ HD1.out).mono ?_
    rintro e w1 ⟨rfl, hb1⟩
    have z1 : w.heap.size + 2 ≤ w1.heap.size := by have h_ := hb1.size; omega
    have HB1 := Lib.hid (HB0.out.trans (hb1.mono (by omega)))
    have Bp1 := Lib.hid (Bp0.out.below hb1 (by omega))
    have Bq1 := Lib.hid (Bq0.out.below hb1 (by omega))
    have p1_0 := Bp1.out.cell 0 (v := .int .i64 p.w) rfl
    have p1_1 := Bp1.out.cell 1 (v := .int .i64 p.h) rfl
    have q1_0 := Bq1.out.cell 0 (v := .int .i64 q.w) rfl
    have q1_1 := Bq1.out.cell 1 (v := .int .i64 q.h) rfl
    clear hb1
    go_wp2_with fail
    refine (implPc_any q false _ HD2.out).mono ?_
    rintro e w2 ⟨rfl, hb2⟩
    have z2 : w.heap.size + 2 ≤ w2.heap.size := Nat.le_trans z1 hb2.size
    have HB2 := Lib.hid (HB1.out.trans (hb2.mono (by omega)))
    have Bp2 := Lib.hid (Bp1.out.below hb2 (by omega))
    have Bq2 := Lib.hid (Bq1.out.below hb2 (by omega))
    clear p1_0 p1_1 q1_0 q1_1
    have p2_0 := Bp2.out.cell 0 (v := .int .i64 p.w) rfl
    have p2_1 := Bp2.out.cell 1 (v := .int .i64 p.h) rfl
    have q2_0 := Bq2.out.cell 0 (v := .int .i64 q.w) rfl
    have q2_1 := Bq2.out.cell 1 (v := .int .i64 q.h) rfl
    clear hb2
    go_wp2_with fail
    go_ret2
    exact CtC.nil_ (by rw [← HQ.out.2, HE.out.2]) (by rw [← HQ.out.1, HE.out.1]) HB2.out

  have HOK : Hid ((Gu.okP p && Gu.okP q) = true) := Lib.hid (by rw [HD1.out, HD2.out]; rfl)
  have hp := Gu.okP_iff.1 HD1.out
  have hq := Gu.okP_iff.1 HD2.out

  by_cases rr : ¬ (1 ≤ a ∧ a ≤ 80 ∧ 1 ≤ c ∧ c ≤ 80)
  · have HE := Lib.hid (Gu.gc_rng HOK.out rr)
    rcases Int.lt_trichotomy a c with hac | hac | hac
    · have hac' : ¬ c ≤ a := by omega
      have hac2 : a ≤ c := by omega
      by_cases r1 : a < 1
      · go_enter Tryz.func6, Tryz.ntmps6
        go_wp2_with fail
        refine (implPc_any p true _ HD1.out).mono ?_
        rintro e w1 ⟨rfl, hb1⟩
        have z1 : w.heap.size + 2 ≤ w1.heap.size := by have h_ := hb1.size; omega
        have HB1 := Lib.hid (HB0.out.trans (hb1.mono (by omega)))
        have Bp1 := Lib.hid (Bp0.out.below hb1 (by omega))
        have Bq1 := Lib.hid (Bq0.out.below hb1 (by omega))
        have p1_0 := Bp1.out.cell 0 (v := .int .i64 p.w) rfl
        have p1_1 := Bp1.out.cell 1 (v := .int .i64 p.h) rfl
        have q1_0 := Bq1.out.cell 0 (v := .int .i64 q.w) rfl
        have q1_1 := Bq1.out.cell 1 (v := .int .i64 q.h) rfl
        clear hb1
        go_wp2_with fail
        refine (implPc_any q true _ HD2.out).mono ?_
        rintro e w2 ⟨rfl, hb2⟩
        have z2 : w.heap.size + 2 ≤ w2.heap.size := Nat.le_trans z1 hb2.size
        have HB2 := Lib.hid (HB1.out.trans (hb2.mono (by omega)))
        have Bp2 := Lib.hid (Bp1.out.below hb2 (by omega))
        have Bq2 := Lib.hid (Bq1.out.below hb2 (by omega))
        clear p1_0 p1_1 q1_0 q1_1
        have p2_0 := Bp2.out.cell 0 (v := .int .i64 p.w) rfl
        have p2_1 := Bp2.out.cell 1 (v := .int .i64 p.h) rfl
        have q2_0 := Bq2.out.cell 0 (v := .int .i64 q.w) rfl
        have q2_1 := Bq2.out.cell 1 (v := .int .i64 q.h) rfl
        clear hb2
        go_wp2_with fail
        go_ret2
        exact CtC.nil_ (by rw [← HQ.out.2, HE.out.2]) (by rw [← HQ.out.1, HE.out.1]) HB2.out

      · have r2 : 80 < c := by omega
        go_enter Tryz.func6, Tryz.ntmps6
        go_wp2_with fail
        refine (implPc_any p true _ HD1.out).mono ?_
        rintro e w1 ⟨rfl, hb1⟩
        have z1 : w.heap.size + 2 ≤ w1.heap.size := by have h_ := hb1.size; omega
        have HB1 := Lib.hid (HB0.out.trans (hb1.mono (by omega)))
        have Bp1 := Lib.hid (Bp0.out.below hb1 (by omega))
        have Bq1 := Lib.hid (Bq0.out.below hb1 (by omega))
        have p1_0 := Bp1.out.cell 0 (v := .int .i64 p.w) rfl
        have p1_1 := Bp1.out.cell 1 (v := .int .i64 p.h) rfl
        have q1_0 := Bq1.out.cell 0 (v := .int .i64 q.w) rfl
        have q1_1 := Bq1.out.cell 1 (v := .int .i64 q.h) rfl
        clear hb1
        go_wp2_with fail
        refine (implPc_any q true _ HD2.out).mono ?_
        rintro e w2 ⟨rfl, hb2⟩
        have z2 : w.heap.size + 2 ≤ w2.heap.size := Nat.le_trans z1 hb2.size
        have HB2 := Lib.hid (HB1.out.trans (hb2.mono (by omega)))
        have Bp2 := Lib.hid (Bp1.out.below hb2 (by omega))
        have Bq2 := Lib.hid (Bq1.out.below hb2 (by omega))
        clear p1_0 p1_1 q1_0 q1_1
        have p2_0 := Bp2.out.cell 0 (v := .int .i64 p.w) rfl
        have p2_1 := Bp2.out.cell 1 (v := .int .i64 p.h) rfl
        have q2_0 := Bq2.out.cell 0 (v := .int .i64 q.w) rfl
        have q2_1 := Bq2.out.cell 1 (v := .int .i64 q.h) rfl
        clear hb2
        go_wp2_with fail
        go_ret2
        exact CtC.nil_ (by rw [← HQ.out.2, HE.out.2]) (by rw [← HQ.out.1, HE.out.1]) HB2.out

    · subst hac
      by_cases r1 : a < 1
      · go_enter Tryz.func6, Tryz.ntmps6
        go_wp2_with fail
        refine (implPc_any p true _ HD1.out).mono ?_
        rintro e w1 ⟨rfl, hb1⟩
        have z1 : w.heap.size + 2 ≤ w1.heap.size := by have h_ := hb1.size; omega
        have HB1 := Lib.hid (HB0.out.trans (hb1.mono (by omega)))
        have Bp1 := Lib.hid (Bp0.out.below hb1 (by omega))
        have Bq1 := Lib.hid (Bq0.out.below hb1 (by omega))
        have p1_0 := Bp1.out.cell 0 (v := .int .i64 p.w) rfl
        have p1_1 := Bp1.out.cell 1 (v := .int .i64 p.h) rfl
        have q1_0 := Bq1.out.cell 0 (v := .int .i64 q.w) rfl
        have q1_1 := Bq1.out.cell 1 (v := .int .i64 q.h) rfl
        clear hb1
        go_wp2_with fail
        refine (implPc_any q true _ HD2.out).mono ?_
        rintro e w2 ⟨rfl, hb2⟩
        have z2 : w.heap.size + 2 ≤ w2.heap.size := Nat.le_trans z1 hb2.size
        have HB2 := Lib.hid (HB1.out.trans (hb2.mono (by omega)))
        have Bp2 := Lib.hid (Bp1.out.below hb2 (by omega))
        have Bq2 := Lib.hid (Bq1.out.below hb2 (by omega))
        clear p1_0 p1_1 q1_0 q1_1
        have p2_0 := Bp2.out.cell 0 (v := .int .i64 p.w) rfl
        have p2_1 := Bp2.out.cell 1 (v := .int .i64 p.h) rfl
        have q2_0 := Bq2.out.cell 0 (v := .int .i64 q.w) rfl
        have q2_1 := Bq2.out.cell 1 (v := .int .i64 q.h) rfl
        clear hb2
        go_wp2_with fail
        go_ret2
        exact CtC.nil_ (by rw [← HQ.out.2, HE.out.2]) (by rw [← HQ.out.1, HE.out.1]) HB2.out

      · have r2 : 80 < a := by omega
        go_enter Tryz.func6, Tryz.ntmps6
        go_wp2_with fail
        refine (implPc_any p true _ HD1.out).mono ?_
        rintro e w1 ⟨rfl, hb1⟩
        have z1 : w.heap.size + 2 ≤ w1.heap.size := by have h_ := hb1.size; omega
        have HB1 := Lib.hid (HB0.out.trans (hb1.mono (by omega)))
        have Bp1 := Lib.hid (Bp0.out.below hb1 (by omega))
        have Bq1 := Lib.hid (Bq0.out.below hb1 (by omega))
        have p1_0 := Bp1.out.cell 0 (v := .int .i64 p.w) rfl
        have p1_1 := Bp1.out.cell 1 (v := .int .i64 p.h) rfl
        have q1_0 := Bq1.out.cell 0 (v := .int .i64 q.w) rfl
        have q1_1 := Bq1.out.cell 1 (v := .int .i64 q.h) rfl
        clear hb1
        go_wp2_with fail
        refine (implPc_any q true _ HD2.out).mono ?_
        rintro e w2 ⟨rfl, hb2⟩
        have z2 : w.heap.size + 2 ≤ w2.heap.size := Nat.le_trans z1 hb2.size
        have HB2 := Lib.hid (HB1.out.trans (hb2.mono (by omega)))
        have Bp2 := Lib.hid (Bp1.out.below hb2 (by omega))
        have Bq2 := Lib.hid (Bq1.out.below hb2 (by omega))
        clear p1_0 p1_1 q1_0 q1_1
        have p2_0 := Bp2.out.cell 0 (v := .int .i64 p.w) rfl
        have p2_1 := Bp2.out.cell 1 (v := .int .i64 p.h) rfl
        have q2_0 := Bq2.out.cell 0 (v := .int .i64 q.w) rfl
        have q2_1 := Bq2.out.cell 1 (v := .int .i64 q.h) rfl
        clear hb2
        go_wp2_with fail
        go_ret2
        exact CtC.nil_ (by rw [← HQ.out.2, HE.out.2]) (by rw [← HQ.out.1, HE.out.1]) HB2.out

    · have hac' : ¬ a ≤ c := by omega
      have hac2 : c ≤ a := by omega
      by_cases r1 : c < 1
      · go_enter Tryz.func6, Tryz.ntmps6
        go_wp2_with fail
        refine (implPc_any p true _ HD1.out).mono ?_
        rintro e w1 ⟨rfl, hb1⟩
        have z1 : w.heap.size + 2 ≤ w1.heap.size := by have h_ := hb1.size; omega
        have HB1 := Lib.hid (HB0.out.trans (hb1.mono (by omega)))
        have Bp1 := Lib.hid (Bp0.out.below hb1 (by omega))
        have Bq1 := Lib.hid (Bq0.out.below hb1 (by omega))
        have p1_0 := Bp1.out.cell 0 (v := .int .i64 p.w) rfl
        have p1_1 := Bp1.out.cell 1 (v := .int .i64 p.h) rfl
        have q1_0 := Bq1.out.cell 0 (v := .int .i64 q.w) rfl
        have q1_1 := Bq1.out.cell 1 (v := .int .i64 q.h) rfl
        clear hb1
        go_wp2_with fail
        refine (implPc_any q true _ HD2.out).mono ?_
        rintro e w2 ⟨rfl, hb2⟩
        have z2 : w.heap.size + 2 ≤ w2.heap.size := Nat.le_trans z1 hb2.size
        have HB2 := Lib.hid (HB1.out.trans (hb2.mono (by omega)))
        have Bp2 := Lib.hid (Bp1.out.below hb2 (by omega))
        have Bq2 := Lib.hid (Bq1.out.below hb2 (by omega))
        clear p1_0 p1_1 q1_0 q1_1
        have p2_0 := Bp2.out.cell 0 (v := .int .i64 p.w) rfl
        have p2_1 := Bp2.out.cell 1 (v := .int .i64 p.h) rfl
        have q2_0 := Bq2.out.cell 0 (v := .int .i64 q.w) rfl
        have q2_1 := Bq2.out.cell 1 (v := .int .i64 q.h) rfl
        clear hb2
        go_wp2_with fail
        go_ret2
        exact CtC.nil_ (by rw [← HQ.out.2, HE.out.2]) (by rw [← HQ.out.1, HE.out.1]) HB2.out

      · have r2 : 80 < a := by omega
        go_enter Tryz.func6, Tryz.ntmps6
        go_wp2_with fail
        refine (implPc_any p true _ HD1.out).mono ?_
        rintro e w1 ⟨rfl, hb1⟩
        have z1 : w.heap.size + 2 ≤ w1.heap.size := by have h_ := hb1.size; omega
        have HB1 := Lib.hid (HB0.out.trans (hb1.mono (by omega)))
        have Bp1 := Lib.hid (Bp0.out.below hb1 (by omega))
        have Bq1 := Lib.hid (Bq0.out.below hb1 (by omega))
        have p1_0 := Bp1.out.cell 0 (v := .int .i64 p.w) rfl
        have p1_1 := Bp1.out.cell 1 (v := .int .i64 p.h) rfl
        have q1_0 := Bq1.out.cell 0 (v := .int .i64 q.w) rfl
        have q1_1 := Bq1.out.cell 1 (v := .int .i64 q.h) rfl
        clear hb1
        go_wp2_with fail
        refine (implPc_any q true _ HD2.out).mono ?_
        rintro e w2 ⟨rfl, hb2⟩
        have z2 : w.heap.size + 2 ≤ w2.heap.size := Nat.le_trans z1 hb2.size
        have HB2 := Lib.hid (HB1.out.trans (hb2.mono (by omega)))
        have Bp2 := Lib.hid (Bp1.out.below hb2 (by omega))
        have Bq2 := Lib.hid (Bq1.out.below hb2 (by omega))
        clear p1_0 p1_1 q1_0 q1_1
        have p2_0 := Bp2.out.cell 0 (v := .int .i64 p.w) rfl
        have p2_1 := Bp2.out.cell 1 (v := .int .i64 p.h) rfl
        have q2_0 := Bq2.out.cell 0 (v := .int .i64 q.w) rfl
        have q2_1 := Bq2.out.cell 1 (v := .int .i64 q.h) rfl
        clear hb2
        go_wp2_with fail
        go_ret2
        exact CtC.nil_ (by rw [← HQ.out.2, HE.out.2]) (by rw [← HQ.out.1, HE.out.1]) HB2.out

  have ra : 1 ≤ a ∧ a ≤ 80 := by omega
  have rc : 1 ≤ c ∧ c ≤ 80 := by omega
  clear rr

  by_cases ca : a * q.w < p.w
  · exact implGc_A p a c q R Cd w ha hc HQ.out.2 HQ.out.1 HD1.out HD2.out ra rc ca
  · exact implGc_B p a c q R Cd w ha hc HQ.out.2 HQ.out.1 HD1.out HD2.out ra rc ca
end Go.Proofs.YtbhofhobnbhhhaaGreatDoor
