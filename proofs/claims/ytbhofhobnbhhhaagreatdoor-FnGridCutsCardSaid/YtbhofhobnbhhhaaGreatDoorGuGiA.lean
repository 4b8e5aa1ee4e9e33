/- Contract of GridCuts, the program's. -/
import Derived.Test.YtbhofhobnbhhhaaGreatDoorGuGm
import Derived.BigQuiet
import Derived.Deep.QuietTactic
namespace Go.Proofs.YtbhofhobnbhhhaaGreatDoor
open Go.RowKit
set_option linter.unusedVariables false
set_option maxRecDepth 100000 in
set_option maxHeartbeats 8000000 in
theorem implGc_A (p : Pc) (a c : Int) (q : Pc) (R : List Ct) (Cd : Int) (w : World) (ha : -9223372036854775808 ≤ a ∧ a ≤ 9223372036854775807) (hc : -9223372036854775808 ≤ c ∧ c ≤ 9223372036854775807) (hR : Gu.gcR p a c q = R) (hC : Gu.gcC p a c q = Cd) (hd1 : Gu.okP p = true) (hd2 : Gu.okP q = true) (ra : 1 ≤ a ∧ a ≤ 80) (rc : 1 ≤ c ∧ c ≤ 80) (ca : a * q.w < p.w) :
    Calls Tryz.prog 6 #[p.agg, .int .i64 a, .int .i64 c, q.agg] w fun e w' => CtC w R Cd e w' := by
  have HQ := Lib.hid (And.intro hC hR)
  clear hC hR
  have HB0 := Lib.hid (two_new9 w (.cells #[.int .i64 p.w, .int .i64 p.h] 25) (.cells #[.int .i64 q.w, .int .i64 q.h] 25))
  have Bp0 := Lib.hid ((Blk.new (w := w) (g := w.heap.size) #[.int .i64 p.w, .int .i64 p.h] 25 rfl).alloc (.cells #[.int .i64 q.w, .int .i64 q.h] 25))
  have Bq0 := Lib.hid (Blk.new (w := (w.alloc (.cells #[.int .i64 p.w, .int .i64 p.h] 25))) (g := w.heap.size + 1) #[.int .i64 q.w, .int .i64 q.h] 25 (by simp))
  have hz0 : w.heap.size + 2 = ((w.alloc (.cells #[.int .i64 p.w, .int .i64 p.h] 25)).alloc (.cells #[.int .i64 q.w, .int .i64 q.h] 25)).heap.size := by simp

  have HD1 := Lib.hid hd1
  have HD2 := Lib.hid hd2
  have HOK : Hid ((Gu.okP p && Gu.okP q) = true) := Lib.hid (by rw [hd1, hd2]; rfl)
  have hp := Gu.okP_iff.1 hd1
  have hq := Gu.okP_iff.1 hd2
  have hra : 1 ≤ a ∧ a ≤ 80 ∧ 1 ≤ c ∧ c ≤ 80 := by omega
  have HRA := Lib.hid hra
  clear hra ha hc hd1 hd2
  · obtain ⟨m, rfl⟩ : ∃ m : Nat, a = (m : Int) := ⟨a.toNat, by omega⟩
    have HW : Hid (Gu.gap p.w (m : Int) q.w = (m : Int)) := Lib.hid (by unfold Gu.gap; rw [if_pos ca])
    by_cases cc : c * q.h < p.h

    · obtain ⟨r, rfl⟩ : ∃ r : Nat, c = (r : Int) := ⟨c.toNat, by omega⟩
      have HH : Hid (Gu.gap p.h (r : Int) q.h = (r : Int)) := Lib.hid (by unfold Gu.gap; rw [if_pos cc])
      have b1 := Gu.mul80 (a := (m : Int)) (b := q.w) (B := 20000) (by omega) (by omega) (by omega) (by omega) (by omega)
      have b2 := Gu.mul80 (a := (r : Int)) (b := q.h) (B := 20000) (by omega) (by omega) (by omega) (by omega) (by omega)
      have b3 := Gu.mul80 (a := (m : Int)) (b := (r : Int)) (B := 80) (by omega) (by omega) (by omega) (by omega) (by omega)
      have x1 : IntKind.i64.wrap ((m : Int) * q.w) = (m : Int) * q.w := IntWalk.i64_in _ (by omega)
      have x2 : IntKind.i64.wrap ((r : Int) * q.h) = (r : Int) * q.h := IntWalk.i64_in _ (by omega)
      have x3 : IntKind.i64.wrap ((m : Int) * (r : Int)) = (m : Int) * (r : Int) := IntWalk.i64_in _ (by omega)
      have x4 : IntKind.i64.wrap ((m : Int) + (m : Int) * (r : Int)) = (m : Int) + (m : Int) * (r : Int) := IntWalk.i64_in _ (by omega)
      have x5 : IntKind.i64.wrap ((m : Int) - 1) = (m : Int) - 1 := IntWalk.i64_in _ (by omega)
      have x6 : IntKind.i64.wrap ((r : Int) - 1) = (r : Int) - 1 := IntWalk.i64_in _ (by omega)
      have x7 : IntKind.i64.wrap (m : Int) = (m : Int) := IntWalk.i64_in _ (by omega)
      have x8 : IntKind.i64.wrap (r : Int) = (r : Int) := IntWalk.i64_in _ (by omega)
      have hm80 : m ≤ 80 := by omega
      have hr80 : r ≤ 80 := by omega
      have hord : ((m : Int) < (r : Int) ∧ ¬ (r : Int) ≤ (m : Int)) ∨ ((m : Int) ≤ (r : Int) ∧ (r : Int) ≤ (m : Int)) ∨ ((r : Int) < (m : Int) ∧ ¬ (m : Int) ≤ (r : Int)) := by omega
      have hcw : ∀ W, Calls Tryz.prog 21 #[.int .i64 p.w, .int .i64 (m : Int), .int .i64 q.w] W fun e w' => e = .returned (.int .i64 (m : Int)) ∧ W = w' := fun W => cutsBetween_any _ _ _ _ W (by omega) (by omega) (by omega) HW.out
      have hch : ∀ W, Calls Tryz.prog 21 #[.int .i64 p.h, .int .i64 (r : Int), .int .i64 q.h] W fun e w' => e = .returned (.int .i64 (r : Int)) ∧ W = w' := fun W => cutsBetween_any _ _ _ _ W (by omega) (by omega) (by omega) HH.out
      by_cases cl : (m : Int) + (m : Int) * (r : Int) ≤ 79
      rotate_left
      · have HE := Lib.hid (Gu.gc_lim HOK.out HRA.out HW.out HH.out cl)
        have cl2 : 79 < (m : Int) + (m : Int) * (r : Int) := by omega
        clear b1 b2 b3
        rcases hord with ⟨o1, o2⟩ | ⟨o1, o2⟩ | ⟨o1, o2⟩
        all_goals
          go_enter Tryz.func6, Tryz.ntmps6
          go_wp2_with fail
          refine (implPc_any p true _ HD1.out).mono ?_
          rintro e w1 ⟨rfl, hb1⟩
          have z1 : w.heap.size + 2 ≤ w1.heap.size := by have h_ := hb1.size; omega
          have HB1 := Lib.hid (HB0.out.trans (hb1.mono (by omega)))
          have Bp1 := Lib.hid (Bp0.out.below hb1 (by omega))
          have Bq1 := Lib.hid (Bq0.out.below hb1 (by omega))
          have p1_0 := Bp1.out.cell 0 (v := .int .i64 p.w) rfl
          have p1_1 := Bp1.out.cell 1 (v := .int .i64 p.h) rfl
          have q1_0 := Bq1.out.cell 0 (v := .int .i64 q.w) rfl
          have q1_1 := Bq1.out.cell 1 (v := .int .i64 q.h) rfl
          clear hb1
          go_wp2_with fail
          refine (implPc_any q true _ HD2.out).mono ?_
          rintro e w2 ⟨rfl, hb2⟩
          have z2 : w.heap.size + 2 ≤ w2.heap.size := Nat.le_trans z1 hb2.size
          have HB2 := Lib.hid (HB1.out.trans (hb2.mono (by omega)))
          have Bp2 := Lib.hid (Bp1.out.below hb2 (by omega))
          have Bq2 := Lib.hid (Bq1.out.below hb2 (by omega))
          clear p1_0 p1_1 q1_0 q1_1
          have p2_0 := Bp2.out.cell 0 (v := .int .i64 p.w) rfl
          have p2_1 := Bp2.out.cell 1 (v := .int .i64 p.h) rfl
          have q2_0 := Bq2.out.cell 0 (v := .int .i64 q.w) rfl
          have q2_1 := Bq2.out.cell 1 (v := .int .i64 q.h) rfl
          clear hb2
          go_wp2_with fail
          go_quiet (first | with_reducible exact quiet_same (hcw _) | with_reducible exact quiet_same (hch _))
          have HBn := Lib.hid (below_drewN' HB2.out nq)
          have Bpn : Hid (Blk (w2.drewN nq) w.heap.size #[.int .i64 p.w, .int .i64 p.h] 25) := Lib.hid Bp2.out
          have Bqn : Hid (Blk (w2.drewN nq) (w.heap.size + 1) #[.int .i64 q.w, .int .i64 q.h] 25) := Lib.hid Bq2.out
          have zn : w.heap.size + 2 ≤ (w2.drewN nq).heap.size := z2
          clear HB2 Bp2 Bq2 z2 p2_0 p2_1 q2_0 q2_1
          generalize w2.drewN nq = w9 at HBn Bpn Bqn zn ⊢
          clear HB1 Bp1 Bq1 z1
          have HB2 := HBn
          have Bp2 := Bpn
          have Bq2 := Bqn
          have z2 := zn
          clear HBn Bpn Bqn zn
          have p2_0 := Bp2.out.cell 0 (v := .int .i64 p.w) rfl
          have p2_1 := Bp2.out.cell 1 (v := .int .i64 p.h) rfl
          have q2_0 := Bq2.out.cell 0 (v := .int .i64 q.w) rfl
          have q2_1 := Bq2.out.cell 1 (v := .int .i64 q.h) rfl
          go_wp2_with fail
          go_ret2
          exact CtC.nil_ (by rw [← HQ.out.2, HE.out.2]) (by rw [← HQ.out.1, HE.out.1]) HB2.out

      have sa : ¬ p.w < (m : Int) * q.w := by omega
      have sc : ¬ p.h < (r : Int) * q.h := by omega
      have HE := Lib.hid (Gu.gc_ok (an := m) HOK.out HRA.out HW.out HH.out (by omega) cl (by omega))
      have HLIM : Hid (m + (m) * r ≤ 79) := Lib.hid (by have := cl; rw [show (m : Int) = ((m : Nat) : Int) by omega] at this; exact_mod_cast this)
      have HKR : ∀ k : Nat, k < m → m + k * r + r ≤ 79 ∧ k ≤ 79 := fun k hk => by
        have h1 : (k + 1) * r ≤ (m) * r := Nat.mul_le_mul_right r hk
        rw [Nat.succ_mul] at h1
        have := HLIM.out
        omega
      clear b1 b2 b3
      rcases hord with ⟨o1, o2⟩ | ⟨o1, o2⟩ | ⟨o1, o2⟩
      all_goals
        go_enter Tryz.func6, Tryz.ntmps6
        go_wp2_with fail
        refine (implPc_any p true _ HD1.out).mono ?_
        rintro e w1 ⟨rfl, hb1⟩
        have z1 : w.heap.size + 2 ≤ w1.heap.size := by have h_ := hb1.size; omega
        have HB1 := Lib.hid (HB0.out.trans (hb1.mono (by omega)))
        have Bp1 := Lib.hid (Bp0.out.below hb1 (by omega))
        have Bq1 := Lib.hid (Bq0.out.below hb1 (by omega))
        have p1_0 := Bp1.out.cell 0 (v := .int .i64 p.w) rfl
        have p1_1 := Bp1.out.cell 1 (v := .int .i64 p.h) rfl
        have q1_0 := Bq1.out.cell 0 (v := .int .i64 q.w) rfl
        have q1_1 := Bq1.out.cell 1 (v := .int .i64 q.h) rfl
        clear hb1
        go_wp2_with fail
        refine (implPc_any q true _ HD2.out).mono ?_
        rintro e w2 ⟨rfl, hb2⟩
        have z2 : w.heap.size + 2 ≤ w2.heap.size := Nat.le_trans z1 hb2.size
        have HB2 := Lib.hid (HB1.out.trans (hb2.mono (by omega)))
        have Bp2 := Lib.hid (Bp1.out.below hb2 (by omega))
        have Bq2 := Lib.hid (Bq1.out.below hb2 (by omega))
        clear p1_0 p1_1 q1_0 q1_1
        have p2_0 := Bp2.out.cell 0 (v := .int .i64 p.w) rfl
        have p2_1 := Bp2.out.cell 1 (v := .int .i64 p.h) rfl
        have q2_0 := Bq2.out.cell 0 (v := .int .i64 q.w) rfl
        have q2_1 := Bq2.out.cell 1 (v := .int .i64 q.h) rfl
        clear hb2
        go_wp2_with fail
        go_quiet (first | with_reducible exact quiet_same (hcw _) | with_reducible exact quiet_same (hch _))
        have HBn := Lib.hid (below_drewN' HB2.out nq)
        have Bpn : Hid (Blk (w2.drewN nq) w.heap.size #[.int .i64 p.w, .int .i64 p.h] 25) := Lib.hid Bp2.out
        have Bqn : Hid (Blk (w2.drewN nq) (w.heap.size + 1) #[.int .i64 q.w, .int .i64 q.h] 25) := Lib.hid Bq2.out
        have zn : w.heap.size + 2 ≤ (w2.drewN nq).heap.size := z2
        clear HB2 Bp2 Bq2 z2 p2_0 p2_1 q2_0 q2_1
        generalize w2.drewN nq = w9 at HBn Bpn Bqn zn ⊢
        clear HB1 Bp1 Bq1 z1
        have HB2 := HBn
        have Bp2 := Bpn
        have Bq2 := Bqn
        have z2 := zn
        clear HBn Bpn Bqn zn
        have p2_0 := Bp2.out.cell 0 (v := .int .i64 p.w) rfl
        have p2_1 := Bp2.out.cell 1 (v := .int .i64 p.h) rfl
        have q2_0 := Bq2.out.cell 0 (v := .int .i64 q.w) rfl
        have q2_1 := Bq2.out.cell 1 (v := .int .i64 q.h) rfl
        go_wp2_with fail
        have hnil : OwnS Ct.S w9 w9.heap.size w9.heap.size (.slice none 0 0) ([] : List Ct) := OwnS.nil_
        refine (appendCuts_N none 0 0 w9.heap.size w9.heap.size [] 0 false q.w m m (Gu.seq 0 false q.w m) _ hnil (Nat.le_refl _) (by omega) (by omega) (by omega) (by omega) (by simp)).mono ?_
        rintro e w3 ⟨A3, c3, rfl, ho3, hb3⟩
        clear hnil p2_0 p2_1 q2_0 q2_1
        have Bq3 := Bq2.out.below hb3 (by omega)
        have y0 := Bq3.cell 0 (v := .int .i64 q.w) rfl
        have y1 := Bq3.cell 1 (v := .int .i64 q.h) rfl
        have HO3 := Lib.hid ho3
        have HB3 := Lib.hid hb3
        clear ho3 hb3 Bq3
        go_wp2_with fail
        go_loopw [12, 73] (fun u i wr => ∃ (k : Nat) (A2 : Option Addr) (c2 n2 : Nat), k ≤ m ∧ i = .int .i64 k ∧ u = .slice A2 n2 c2 ∧ OwnS Ct.S wr w9.heap.size wr.heap.size (.slice A2 n2 c2) (Gu.gridK q.w q.h m r k) ∧ Below w9.heap.size w9 wr) (fun _ i _ => m - (intOf i).toNat)
        case atStart => exact ⟨0, _, _, _, Nat.zero_le _, rfl, rfl, by rw [Gu.gridK_zero]; exact HO3.out, HB3.out⟩
        case round =>
          clear y0 y1 HO3 HB3
          obtain ⟨k, A2, c2, n2, hk, rfl, rfl, ho, hb⟩ := hrel
          have hz := hb.size
          have HL2 : Hid (m + k * r = n2) := Lib.hid (by rw [← Gu.gridK_len q.w q.h m r k]; exact ho.rd.1)
          have Bq := Bq2.out.below hb (by omega)
          have y1 := Bq.cell 1 (v := .int .i64 q.h) rfl
          have HB4 := Lib.hid (HB2.out.trans (hb.mono (by omega)))
          by_cases hlt : k < m
          · have hlt3 : (k : Int) < (m : Int) := by omega
            have hkr := HKR k hlt
            have hn2 : n2 + r ≤ 79 := by have := HL2.out; omega
            have b4 := Gu.mul80 (a := (k : Int)) (b := (r : Int) + 1) (B := 81) (by omega) (by omega) (by omega) (by omega) (by omega)
            have x9 : IntKind.i64.wrap ((r : Int) + 1) = (r : Int) + 1 := IntWalk.i64_in _ (by omega)
            have x10 : IntKind.i64.wrap ((k : Int) * ((r : Int) + 1)) = (k : Int) * ((r : Int) + 1) := IntWalk.i64_in _ (by omega)
            have HI0 : Hid (((k * (r + 1) : Nat) : Int) = (k : Int) * ((r : Int) + 1)) := Lib.hid (by push_cast; rfl)
            have HBW := Lib.hid hb
            clear hb Bq
            go_wp2_with fail
            refine (appendCuts_N A2 n2 c2 w9.heap.size wr.heap.size (Gu.gridK q.w q.h m r k) ((k : Int) * ((r : Int) + 1)) true q.h r (n2 + r) (Gu.gridK q.w q.h m r (k + 1)) _ ho (by omega) (by omega) (by omega) (by omega) rfl (by rw [Gu.gridK_next, HI0.out])).mono ?_
            rintro e w6 ⟨A6, c6, rfl, ho6, hb6⟩
            have HO6 := Lib.hid ho6
            have HB6 := Lib.hid (HBW.out.trans hb6)
            clear ho ho6 hb6
            go_wp2_with fail
            go_roundw
            case rel => exact ⟨k + 1, A6, c6, n2 + r, by omega, by go_num, rfl, HO6.out, HB6.out⟩
            case measure => simp [intOf]; omega
          · obtain rfl : k = m := by omega
            have HSQ := Lib.hid ho
            have hn3 : n2 ≤ 79 := by have := HLIM.out; have := HL2.out; omega
            clear ho Bq
            go_wp2_with fail
            go_ret2
            exact CtC.mk_ (by rw [← HQ.out.2, HE.out.2]) (by rw [← HQ.out.1, HE.out.1]) HSQ.out (by omega) (Nat.le_refl _) (by omega) HB4.out

    

    · obtain ⟨r, rfl⟩ : ∃ r : Nat, c = (r : Int) + 1 := ⟨(c - 1).toNat, by omega⟩
      have HH : Hid (Gu.gap p.h ((r : Int) + 1) q.h = (r : Int)) := Lib.hid (by unfold Gu.gap; rw [if_neg cc]; omega)
      have b1 := Gu.mul80 (a := (m : Int)) (b := q.w) (B := 20000) (by omega) (by omega) (by omega) (by omega) (by omega)
      have b2 := Gu.mul80 (a := ((r : Int) + 1)) (b := q.h) (B := 20000) (by omega) (by omega) (by omega) (by omega) (by omega)
      have b3 := Gu.mul80 (a := (m : Int)) (b := (r : Int)) (B := 80) (by omega) (by omega) (by omega) (by omega) (by omega)
      have x1 : IntKind.i64.wrap ((m : Int) * q.w) = (m : Int) * q.w := IntWalk.i64_in _ (by omega)
      have x2 : IntKind.i64.wrap (((r : Int) + 1) * q.h) = ((r : Int) + 1) * q.h := IntWalk.i64_in _ (by omega)
      have x3 : IntKind.i64.wrap ((m : Int) * (r : Int)) = (m : Int) * (r : Int) := IntWalk.i64_in _ (by omega)
      have x4 : IntKind.i64.wrap ((m : Int) + (m : Int) * (r : Int)) = (m : Int) + (m : Int) * (r : Int) := IntWalk.i64_in _ (by omega)
      have x5 : IntKind.i64.wrap ((m : Int) - 1) = (m : Int) - 1 := IntWalk.i64_in _ (by omega)
      have x6 : IntKind.i64.wrap (((r : Int) + 1) - 1) = ((r : Int) + 1) - 1 := IntWalk.i64_in _ (by omega)
      have x7 : IntKind.i64.wrap (m : Int) = (m : Int) := IntWalk.i64_in _ (by omega)
      have x8 : IntKind.i64.wrap (r : Int) = (r : Int) := IntWalk.i64_in _ (by omega)
      have hm80 : m ≤ 80 := by omega
      have hr80 : r ≤ 80 := by omega
      have hord : ((m : Int) < ((r : Int) + 1) ∧ ¬ ((r : Int) + 1) ≤ (m : Int)) ∨ ((m : Int) ≤ ((r : Int) + 1) ∧ ((r : Int) + 1) ≤ (m : Int)) ∨ (((r : Int) + 1) < (m : Int) ∧ ¬ (m : Int) ≤ ((r : Int) + 1)) := by omega
      have hcw : ∀ W, Calls Tryz.prog 21 #[.int .i64 p.w, .int .i64 (m : Int), .int .i64 q.w] W fun e w' => e = .returned (.int .i64 (m : Int)) ∧ W = w' := fun W => cutsBetween_any _ _ _ _ W (by omega) (by omega) (by omega) HW.out
      have hch : ∀ W, Calls Tryz.prog 21 #[.int .i64 p.h, .int .i64 ((r : Int) + 1), .int .i64 q.h] W fun e w' => e = .returned (.int .i64 (r : Int)) ∧ W = w' := fun W => cutsBetween_any _ _ _ _ W (by omega) (by omega) (by omega) HH.out
      by_cases cl : (m : Int) + (m : Int) * (r : Int) ≤ 79
      rotate_left
      · have HE := Lib.hid (Gu.gc_lim HOK.out HRA.out HW.out HH.out cl)
        have cl2 : 79 < (m : Int) + (m : Int) * (r : Int) := by omega
        clear b1 b2 b3
        rcases hord with ⟨o1, o2⟩ | ⟨o1, o2⟩ | ⟨o1, o2⟩
        all_goals
          go_enter Tryz.func6, Tryz.ntmps6
          go_wp2_with fail
          refine (implPc_any p true _ HD1.out).mono ?_
          rintro e w1 ⟨rfl, hb1⟩
          have z1 : w.heap.size + 2 ≤ w1.heap.size := by have h_ := hb1.size; omega
          have HB1 := Lib.hid (HB0.out.trans (hb1.mono (by omega)))
          have Bp1 := Lib.hid (Bp0.out.below hb1 (by omega))
          have Bq1 := Lib.hid (Bq0.out.below hb1 (by omega))
          have p1_0 := Bp1.out.cell 0 (v := .int .i64 p.w) rfl
          have p1_1 := Bp1.out.cell 1 (v := .int .i64 p.h) rfl
          have q1_0 := Bq1.out.cell 0 (v := .int .i64 q.w) rfl
          have q1_1 := Bq1.out.cell 1 (v := .int .i64 q.h) rfl
          clear hb1
          go_wp2_with fail
          refine (implPc_any q true _ HD2.out).mono ?_
          rintro e w2 ⟨rfl, hb2⟩
          have z2 : w.heap.size + 2 ≤ w2.heap.size := Nat.le_trans z1 hb2.size
          have HB2 := Lib.hid (HB1.out.trans (hb2.mono (by omega)))
          have Bp2 := Lib.hid (Bp1.out.below hb2 (by omega))
          have Bq2 := Lib.hid (Bq1.out.below hb2 (by omega))
          clear p1_0 p1_1 q1_0 q1_1
          have p2_0 := Bp2.out.cell 0 (v := .int .i64 p.w) rfl
          have p2_1 := Bp2.out.cell 1 (v := .int .i64 p.h) rfl
          have q2_0 := Bq2.out.cell 0 (v := .int .i64 q.w) rfl
          have q2_1 := Bq2.out.cell 1 (v := .int .i64 q.h) rfl
          clear hb2
          go_wp2_with fail
          go_quiet (first | with_reducible exact quiet_same (hcw _) | with_reducible exact quiet_same (hch _))
          have HBn := Lib.hid (below_drewN' HB2.out nq)
          have Bpn : Hid (Blk (w2.drewN nq) w.heap.size #[.int .i64 p.w, .int .i64 p.h] 25) := Lib.hid Bp2.out
          have Bqn : Hid (Blk (w2.drewN nq) (w.heap.size + 1) #[.int .i64 q.w, .int .i64 q.h] 25) := Lib.hid Bq2.out
          have zn : w.heap.size + 2 ≤ (w2.drewN nq).heap.size := z2
          clear HB2 Bp2 Bq2 z2 p2_0 p2_1 q2_0 q2_1
          generalize w2.drewN nq = w9 at HBn Bpn Bqn zn ⊢
          clear HB1 Bp1 Bq1 z1
          have HB2 := HBn
          have Bp2 := Bpn
          have Bq2 := Bqn
          have z2 := zn
          clear HBn Bpn Bqn zn
          have p2_0 := Bp2.out.cell 0 (v := .int .i64 p.w) rfl
          have p2_1 := Bp2.out.cell 1 (v := .int .i64 p.h) rfl
          have q2_0 := Bq2.out.cell 0 (v := .int .i64 q.w) rfl
          have q2_1 := Bq2.out.cell 1 (v := .int .i64 q.h) rfl
          go_wp2_with fail
          go_ret2
          exact CtC.nil_ (by rw [← HQ.out.2, HE.out.2]) (by rw [← HQ.out.1, HE.out.1]) HB2.out

      have sa : ¬ p.w < (m : Int) * q.w := by omega
      by_cases sc : p.h < ((r : Int) + 1) * q.h
      · have HE := Lib.hid (Gu.gc_st HOK.out HRA.out HW.out HH.out cl (by omega))
        clear b1 b2 b3
        rcases hord with ⟨o1, o2⟩ | ⟨o1, o2⟩ | ⟨o1, o2⟩
        all_goals
          go_enter Tryz.func6, Tryz.ntmps6
          go_wp2_with fail
          refine (implPc_any p true _ HD1.out).mono ?_
          rintro e w1 ⟨rfl, hb1⟩
          have z1 : w.heap.size + 2 ≤ w1.heap.size := by have h_ := hb1.size; omega
          have HB1 := Lib.hid (HB0.out.trans (hb1.mono (by omega)))
          have Bp1 := Lib.hid (Bp0.out.below hb1 (by omega))
          have Bq1 := Lib.hid (Bq0.out.below hb1 (by omega))
          have p1_0 := Bp1.out.cell 0 (v := .int .i64 p.w) rfl
          have p1_1 := Bp1.out.cell 1 (v := .int .i64 p.h) rfl
          have q1_0 := Bq1.out.cell 0 (v := .int .i64 q.w) rfl
          have q1_1 := Bq1.out.cell 1 (v := .int .i64 q.h) rfl
          clear hb1
          go_wp2_with fail
          refine (implPc_any q true _ HD2.out).mono ?_
          rintro e w2 ⟨rfl, hb2⟩
          have z2 : w.heap.size + 2 ≤ w2.heap.size := Nat.le_trans z1 hb2.size
          have HB2 := Lib.hid (HB1.out.trans (hb2.mono (by omega)))
          have Bp2 := Lib.hid (Bp1.out.below hb2 (by omega))
          have Bq2 := Lib.hid (Bq1.out.below hb2 (by omega))
          clear p1_0 p1_1 q1_0 q1_1
          have p2_0 := Bp2.out.cell 0 (v := .int .i64 p.w) rfl
          have p2_1 := Bp2.out.cell 1 (v := .int .i64 p.h) rfl
          have q2_0 := Bq2.out.cell 0 (v := .int .i64 q.w) rfl
          have q2_1 := Bq2.out.cell 1 (v := .int .i64 q.h) rfl
          clear hb2
          go_wp2_with fail
          go_quiet (first | with_reducible exact quiet_same (hcw _) | with_reducible exact quiet_same (hch _))
          have HBn := Lib.hid (below_drewN' HB2.out nq)
          have Bpn : Hid (Blk (w2.drewN nq) w.heap.size #[.int .i64 p.w, .int .i64 p.h] 25) := Lib.hid Bp2.out
          have Bqn : Hid (Blk (w2.drewN nq) (w.heap.size + 1) #[.int .i64 q.w, .int .i64 q.h] 25) := Lib.hid Bq2.out
          have zn : w.heap.size + 2 ≤ (w2.drewN nq).heap.size := z2
          clear HB2 Bp2 Bq2 z2 p2_0 p2_1 q2_0 q2_1
          generalize w2.drewN nq = w9 at HBn Bpn Bqn zn ⊢
          clear HB1 Bp1 Bq1 z1
          have HB2 := HBn
          have Bp2 := Bpn
          have Bq2 := Bqn
          have z2 := zn
          clear HBn Bpn Bqn zn
          have p2_0 := Bp2.out.cell 0 (v := .int .i64 p.w) rfl
          have p2_1 := Bp2.out.cell 1 (v := .int .i64 p.h) rfl
          have q2_0 := Bq2.out.cell 0 (v := .int .i64 q.w) rfl
          have q2_1 := Bq2.out.cell 1 (v := .int .i64 q.h) rfl
          go_wp2_with fail
          go_ret2
          exact CtC.nil_ (by rw [← HQ.out.2, HE.out.2]) (by rw [← HQ.out.1, HE.out.1]) HB2.out

      have HE := Lib.hid (Gu.gc_ok (an := m) HOK.out HRA.out HW.out HH.out (by omega) cl (by omega))
      have HLIM : Hid (m + (m) * r ≤ 79) := Lib.hid (by have := cl; rw [show (m : Int) = ((m : Nat) : Int) by omega] at this; exact_mod_cast this)
      have HKR : ∀ k : Nat, k < m → m + k * r + r ≤ 79 ∧ k ≤ 79 := fun k hk => by
        have h1 : (k + 1) * r ≤ (m) * r := Nat.mul_le_mul_right r hk
        rw [Nat.succ_mul] at h1
        have := HLIM.out
        omega
      clear b1 b2 b3
      rcases hord with ⟨o1, o2⟩ | ⟨o1, o2⟩ | ⟨o1, o2⟩
      all_goals
        go_enter Tryz.func6, Tryz.ntmps6
        go_wp2_with fail
        refine (implPc_any p true _ HD1.out).mono ?_
        rintro e w1 ⟨rfl, hb1⟩
        have z1 : w.heap.size + 2 ≤ w1.heap.size := by have h_ := hb1.size; omega
        have HB1 := Lib.hid (HB0.out.trans (hb1.mono (by omega)))
        have Bp1 := Lib.hid (Bp0.out.below hb1 (by omega))
        have Bq1 := Lib.hid (Bq0.out.below hb1 (by omega))
        have p1_0 := Bp1.out.cell 0 (v := .int .i64 p.w) rfl
        have p1_1 := Bp1.out.cell 1 (v := .int .i64 p.h) rfl
        have q1_0 := Bq1.out.cell 0 (v := .int .i64 q.w) rfl
        have q1_1 := Bq1.out.cell 1 (v := .int .i64 q.h) rfl
        clear hb1
        go_wp2_with fail
        refine (implPc_any q true _ HD2.out).mono ?_
        rintro e w2 ⟨rfl, hb2⟩
        have z2 : w.heap.size + 2 ≤ w2.heap.size := Nat.le_trans z1 hb2.size
        have HB2 := Lib.hid (HB1.out.trans (hb2.mono (by omega)))
        have Bp2 := Lib.hid (Bp1.out.below hb2 (by omega))
        have Bq2 := Lib.hid (Bq1.out.below hb2 (by omega))
        clear p1_0 p1_1 q1_0 q1_1
        have p2_0 := Bp2.out.cell 0 (v := .int .i64 p.w) rfl
        have p2_1 := Bp2.out.cell 1 (v := .int .i64 p.h) rfl
        have q2_0 := Bq2.out.cell 0 (v := .int .i64 q.w) rfl
        have q2_1 := Bq2.out.cell 1 (v := .int .i64 q.h) rfl
        clear hb2
        go_wp2_with fail
        go_quiet (first | with_reducible exact quiet_same (hcw _) | with_reducible exact quiet_same (hch _))
        have HBn := Lib.hid (below_drewN' HB2.out nq)
        have Bpn : Hid (Blk (w2.drewN nq) w.heap.size #[.int .i64 p.w, .int .i64 p.h] 25) := Lib.hid Bp2.out
        have Bqn : Hid (Blk (w2.drewN nq) (w.heap.size + 1) #[.int .i64 q.w, .int .i64 q.h] 25) := Lib.hid Bq2.out
        have zn : w.heap.size + 2 ≤ (w2.drewN nq).heap.size := z2
        clear HB2 Bp2 Bq2 z2 p2_0 p2_1 q2_0 q2_1
        generalize w2.drewN nq = w9 at HBn Bpn Bqn zn ⊢
        clear HB1 Bp1 Bq1 z1
        have HB2 := HBn
        have Bp2 := Bpn
        have Bq2 := Bqn
        have z2 := zn
        clear HBn Bpn Bqn zn
        have p2_0 := Bp2.out.cell 0 (v := .int .i64 p.w) rfl
        have p2_1 := Bp2.out.cell 1 (v := .int .i64 p.h) rfl
        have q2_0 := Bq2.out.cell 0 (v := .int .i64 q.w) rfl
        have q2_1 := Bq2.out.cell 1 (v := .int .i64 q.h) rfl
        go_wp2_with fail
        have hnil : OwnS Ct.S w9 w9.heap.size w9.heap.size (.slice none 0 0) ([] : List Ct) := OwnS.nil_
        refine (appendCuts_N none 0 0 w9.heap.size w9.heap.size [] 0 false q.w m m (Gu.seq 0 false q.w m) _ hnil (Nat.le_refl _) (by omega) (by omega) (by omega) (by omega) (by simp)).mono ?_
        rintro e w3 ⟨A3, c3, rfl, ho3, hb3⟩
        clear hnil p2_0 p2_1 q2_0 q2_1
        have Bq3 := Bq2.out.below hb3 (by omega)
        have y0 := Bq3.cell 0 (v := .int .i64 q.w) rfl
        have y1 := Bq3.cell 1 (v := .int .i64 q.h) rfl
        have HO3 := Lib.hid ho3
        have HB3 := Lib.hid hb3
        clear ho3 hb3 Bq3
        go_wp2_with fail
        go_loopw [12, 73] (fun u i wr => ∃ (k : Nat) (A2 : Option Addr) (c2 n2 : Nat), k ≤ m ∧ i = .int .i64 k ∧ u = .slice A2 n2 c2 ∧ OwnS Ct.S wr w9.heap.size wr.heap.size (.slice A2 n2 c2) (Gu.gridK q.w q.h m r k) ∧ Below w9.heap.size w9 wr) (fun _ i _ => m - (intOf i).toNat)
        case atStart => exact ⟨0, _, _, _, Nat.zero_le _, rfl, rfl, by rw [Gu.gridK_zero]; exact HO3.out, HB3.out⟩
        case round =>
          clear y0 y1 HO3 HB3
          obtain ⟨k, A2, c2, n2, hk, rfl, rfl, ho, hb⟩ := hrel
          have hz := hb.size
          have HL2 : Hid (m + k * r = n2) := Lib.hid (by rw [← Gu.gridK_len q.w q.h m r k]; exact ho.rd.1)
          have Bq := Bq2.out.below hb (by omega)
          have y1 := Bq.cell 1 (v := .int .i64 q.h) rfl
          have HB4 := Lib.hid (HB2.out.trans (hb.mono (by omega)))
          by_cases hlt : k < m
          · have hlt3 : (k : Int) < (m : Int) := by omega
            have hkr := HKR k hlt
            have hn2 : n2 + r ≤ 79 := by have := HL2.out; omega
            have b4 := Gu.mul80 (a := (k : Int)) (b := (r : Int) + 1) (B := 81) (by omega) (by omega) (by omega) (by omega) (by omega)
            have x9 : IntKind.i64.wrap ((r : Int) + 1) = (r : Int) + 1 := IntWalk.i64_in _ (by omega)
            have x10 : IntKind.i64.wrap ((k : Int) * ((r : Int) + 1)) = (k : Int) * ((r : Int) + 1) := IntWalk.i64_in _ (by omega)
            have HI0 : Hid (((k * (r + 1) : Nat) : Int) = (k : Int) * ((r : Int) + 1)) := Lib.hid (by push_cast; rfl)
            have HBW := Lib.hid hb
            clear hb Bq
            go_wp2_with fail
            refine (appendCuts_N A2 n2 c2 w9.heap.size wr.heap.size (Gu.gridK q.w q.h m r k) ((k : Int) * ((r : Int) + 1)) true q.h r (n2 + r) (Gu.gridK q.w q.h m r (k + 1)) _ ho (by omega) (by omega) (by omega) (by omega) rfl (by rw [Gu.gridK_next, HI0.out])).mono ?_
            rintro e w6 ⟨A6, c6, rfl, ho6, hb6⟩
            have HO6 := Lib.hid ho6
            have HB6 := Lib.hid (HBW.out.trans hb6)
            clear ho ho6 hb6
            go_wp2_with fail
            go_roundw
            case rel => exact ⟨k + 1, A6, c6, n2 + r, by omega, by go_num, rfl, HO6.out, HB6.out⟩
            case measure => simp [intOf]; omega
          · obtain rfl : k = m := by omega
            have HSQ := Lib.hid ho
            have hn3 : n2 ≤ 79 := by have := HLIM.out; have := HL2.out; omega
            clear ho Bq
            go_wp2_with fail
            go_ret2
            exact CtC.mk_ (by rw [← HQ.out.2, HE.out.2]) (by rw [← HQ.out.1, HE.out.1]) HSQ.out (by omega) (Nat.le_refl _) (by omega) HB4.out

end Go.Proofs.YtbhofhobnbhhhaaGreatDoor
