/- Contract of GridCuts, the model's. -/
import Derived.Test.YtbhofhobnbhhhaaGreatDoorGuGm
import Derived.BigQuiet
import Derived.Deep.QuietTactic
namespace Go.Proofs.YtbhofhobnbhhhaaGreatDoor
open Go.RowKit
set_option linter.unusedVariables false
set_option maxRecDepth 100000 in
set_option maxHeartbeats 8000000 in
theorem specGc_B (p : Pc) (a c : Int) (q : Pc) (R : List Ct) (Cd : Int) (w : World) (ha : -9223372036854775808 ≤ a ∧ a ≤ 9223372036854775807) (hc : -9223372036854775808 ≤ c ∧ c ≤ 9223372036854775807) (hR : Gu.gcR p a c q = R) (hC : Gu.gcC p a c q = Cd) (hd1 : Gu.okP p = true) (hd2 : Gu.okP q = true) (ra : 1 ≤ a ∧ a ≤ 80) (rc : 1 ≤ c ∧ c ≤ 80) (ca : ¬ a * q.w < p.w) :
    Calls Tryz.prog 7 #[p.agg, .int .i64 a, .int .i64 c, q.agg] w fun e w' => CtC w R Cd e w' := by
  have HQ := Lib.hid (And.intro hC hR)
  clear hC hR
  have HB0 := Lib.hid (two_new9 w (.cells #[.int .i64 p.w, .int .i64 p.h] 25) (.cells #[.int .i64 q.w, .int .i64 q.h] 25))
  have Bp0 := Lib.hid ((Blk.new (w := w) (g := w.heap.size) #[.int .i64 p.w, .int .i64 p.h] 25 rfl).alloc (.cells #[.int .i64 q.w, .int .i64 q.h] 25))
  have Bq0 := Lib.hid (Blk.new (w := (w.alloc (.cells #[.int .i64 p.w, .int .i64 p.h] 25))) (g := w.heap.size + 1) #[.int .i64 q.w, .int .i64 q.h] 25 (by simp))
  have hz0 : w.heap.size + 2 = ((w.alloc (.cells #[.int .i64 p.w, .int .i64 p.h] 25)).alloc (.cells #[.int .i64 q.w, .int .i64 q.h] 25)).heap.size := by simp

  have HD1 := Lib.hid hd1
  have HD2 := Lib.hid hd2
  have HOK : Hid ((Gu.okP p && Gu.okP q) = true) := Lib.hid (by rw [hd1, hd2]; rfl)
  have hp := Gu.okP_iff.1 hd1
  have hq := Gu.okP_iff.1 hd2
  have hra : 1 ≤ a ∧ a ≤ 80 ∧ 1 ≤ c ∧ c ≤ 80 := by omega
  have HRA := Lib.hid hra
  clear hra ha hc hd1 hd2
  have hina : ∀ W, Calls Tryz.prog 24 #[.int .i64 a, .int .i64 1, .int .i64 80] W fun e w' => e = .returned (.bool true) ∧ W = w' := fun W => l01In_yes _ _ _ W ra.1 ra.2
  have hinc : ∀ W, Calls Tryz.prog 24 #[.int .i64 c, .int .i64 1, .int .i64 80] W fun e w' => e = .returned (.bool true) ∧ W = w' := fun W => l01In_yes _ _ _ W rc.1 rc.2
  · obtain ⟨m, rfl⟩ : ∃ m : Nat, a = (m : Int) + 1 := ⟨(a - 1).toNat, by omega⟩
    have HW : Hid (Gu.gap p.w ((m : Int) + 1) q.w = (m : Int)) := Lib.hid (by unfold Gu.gap; rw [if_neg ca]; omega)
    by_cases cc : c * q.h < p.h

    · obtain ⟨r, rfl⟩ : ∃ r : Nat, c = (r : Int) := ⟨c.toNat, by omega⟩
      have HH : Hid (Gu.gap p.h (r : Int) q.h = (r : Int)) := Lib.hid (by unfold Gu.gap; rw [if_pos cc])
      have b1 := Gu.mul80 (a := ((m : Int) + 1)) (b := q.w) (B := 20000) (by omega) (by omega) (by omega) (by omega) (by omega)
      have b2 := Gu.mul80 (a := (r : Int)) (b := q.h) (B := 20000) (by omega) (by omega) (by omega) (by omega) (by omega)
      have b3 := Gu.mul80 (a := ((m : Int) + 1)) (b := (r : Int)) (B := 80) (by omega) (by omega) (by omega) (by omega) (by omega)
      have x1 : IntKind.i64.wrap (((m : Int) + 1) * q.w) = ((m : Int) + 1) * q.w := IntWalk.i64_in _ (by omega)
      have x2 : IntKind.i64.wrap ((r : Int) * q.h) = (r : Int) * q.h := IntWalk.i64_in _ (by omega)
      have x3 : IntKind.i64.wrap (((m : Int) + 1) * (r : Int)) = ((m : Int) + 1) * (r : Int) := IntWalk.i64_in _ (by omega)
      have x4 : IntKind.i64.wrap ((m : Int) + ((m : Int) + 1) * (r : Int)) = (m : Int) + ((m : Int) + 1) * (r : Int) := IntWalk.i64_in _ (by omega)
      have x5 : IntKind.i64.wrap (((m : Int) + 1) - 1) = ((m : Int) + 1) - 1 := IntWalk.i64_in _ (by omega)
      have x6 : IntKind.i64.wrap ((r : Int) - 1) = (r : Int) - 1 := IntWalk.i64_in _ (by omega)
      have x7 : IntKind.i64.wrap (m : Int) = (m : Int) := IntWalk.i64_in _ (by omega)
      have x8 : IntKind.i64.wrap (r : Int) = (r : Int) := IntWalk.i64_in _ (by omega)
      have hm80 : m ≤ 80 := by omega
      have hr80 : r ≤ 80 := by omega
      by_cases cl : (m : Int) + ((m : Int) + 1) * (r : Int) ≤ 79
      rotate_left
      · have HE := Lib.hid (Gu.gc_lim HOK.out HRA.out HW.out HH.out cl)
        have cl2 : 79 < (m : Int) + ((m : Int) + 1) * (r : Int) := by omega
        clear b1 b2 b3
        go_enter Tryz.func7, Tryz.ntmps7
        go_wp2_with fail
        refine (specPc_any p true _ HD1.out).mono ?_
        rintro e w1 ⟨rfl, hb1⟩
        have z1 : w.heap.size + 2 ≤ w1.heap.size := by have h_ := hb1.size; omega
        have HB1 := Lib.hid (HB0.out.trans (hb1.mono (by omega)))
        have Bp1 := Lib.hid (Bp0.out.below hb1 (by omega))
        have Bq1 := Lib.hid (Bq0.out.below hb1 (by omega))
        have p1_0 := Bp1.out.cell 0 (v := .int .i64 p.w) rfl
        have p1_1 := Bp1.out.cell 1 (v := .int .i64 p.h) rfl
        have q1_0 := Bq1.out.cell 0 (v := .int .i64 q.w) rfl
        have q1_1 := Bq1.out.cell 1 (v := .int .i64 q.h) rfl
        clear hb1
        go_wp2_with fail
        refine (specPc_any q true _ HD2.out).mono ?_
        rintro e w2 ⟨rfl, hb2⟩
        have z2 : w.heap.size + 2 ≤ w2.heap.size := Nat.le_trans z1 hb2.size
        have HB2 := Lib.hid (HB1.out.trans (hb2.mono (by omega)))
        have Bp2 := Lib.hid (Bp1.out.below hb2 (by omega))
        have Bq2 := Lib.hid (Bq1.out.below hb2 (by omega))
        clear p1_0 p1_1 q1_0 q1_1
        have p2_0 := Bp2.out.cell 0 (v := .int .i64 p.w) rfl
        have p2_1 := Bp2.out.cell 1 (v := .int .i64 p.h) rfl
        have q2_0 := Bq2.out.cell 0 (v := .int .i64 q.w) rfl
        have q2_1 := Bq2.out.cell 1 (v := .int .i64 q.h) rfl
        clear hb2
        go_wp2_with fail
        refine (hina _).mono ?_
        rintro e _ ⟨rfl, rfl⟩
        go_wp2_with fail
        refine (hinc _).mono ?_
        rintro e _ ⟨rfl, rfl⟩
        go_wp2_with fail
        go_ret2
        exact CtC.nil_ (by rw [← HQ.out.2, HE.out.2]) (by rw [← HQ.out.1, HE.out.1]) HB2.out

      by_cases sa : p.w < ((m : Int) + 1) * q.w
      · have HE := Lib.hid (Gu.gc_st HOK.out HRA.out HW.out HH.out cl (by omega))
        clear b1 b2 b3
        go_enter Tryz.func7, Tryz.ntmps7
        go_wp2_with fail
        refine (specPc_any p true _ HD1.out).mono ?_
        rintro e w1 ⟨rfl, hb1⟩
        have z1 : w.heap.size + 2 ≤ w1.heap.size := by have h_ := hb1.size; omega
        have HB1 := Lib.hid (HB0.out.trans (hb1.mono (by omega)))
        have Bp1 := Lib.hid (Bp0.out.below hb1 (by omega))
        have Bq1 := Lib.hid (Bq0.out.below hb1 (by omega))
        have p1_0 := Bp1.out.cell 0 (v := .int .i64 p.w) rfl
        have p1_1 := Bp1.out.cell 1 (v := .int .i64 p.h) rfl
        have q1_0 := Bq1.out.cell 0 (v := .int .i64 q.w) rfl
        have q1_1 := Bq1.out.cell 1 (v := .int .i64 q.h) rfl
        clear hb1
        go_wp2_with fail
        refine (specPc_any q true _ HD2.out).mono ?_
        rintro e w2 ⟨rfl, hb2⟩
        have z2 : w.heap.size + 2 ≤ w2.heap.size := Nat.le_trans z1 hb2.size
        have HB2 := Lib.hid (HB1.out.trans (hb2.mono (by omega)))
        have Bp2 := Lib.hid (Bp1.out.below hb2 (by omega))
        have Bq2 := Lib.hid (Bq1.out.below hb2 (by omega))
        clear p1_0 p1_1 q1_0 q1_1
        have p2_0 := Bp2.out.cell 0 (v := .int .i64 p.w) rfl
        have p2_1 := Bp2.out.cell 1 (v := .int .i64 p.h) rfl
        have q2_0 := Bq2.out.cell 0 (v := .int .i64 q.w) rfl
        have q2_1 := Bq2.out.cell 1 (v := .int .i64 q.h) rfl
        clear hb2
        go_wp2_with fail
        refine (hina _).mono ?_
        rintro e _ ⟨rfl, rfl⟩
        go_wp2_with fail
        refine (hinc _).mono ?_
        rintro e _ ⟨rfl, rfl⟩
        go_wp2_with fail
        go_ret2
        exact CtC.nil_ (by rw [← HQ.out.2, HE.out.2]) (by rw [← HQ.out.1, HE.out.1]) HB2.out

      have sc : ¬ p.h < (r : Int) * q.h := by omega
      have HE := Lib.hid (Gu.gc_ok (an := m + 1) HOK.out HRA.out HW.out HH.out (by omega) cl (by omega))
      have HLIM : Hid (m + (m + 1) * r ≤ 79) := Lib.hid (by have := cl; rw [show ((m : Int) + 1) = ((m + 1 : Nat) : Int) by omega] at this; exact_mod_cast this)
      have HKR : ∀ k : Nat, k < m + 1 → m + k * r + r ≤ 79 ∧ k ≤ 79 := fun k hk => by
        have h1 : (k + 1) * r ≤ (m + 1) * r := Nat.mul_le_mul_right r hk
        rw [Nat.succ_mul] at h1
        have := HLIM.out
        omega
      clear b1 b2 b3
      go_enter Tryz.func7, Tryz.ntmps7
      go_wp2_with fail
      refine (specPc_any p true _ HD1.out).mono ?_
      rintro e w1 ⟨rfl, hb1⟩
      have z1 : w.heap.size + 2 ≤ w1.heap.size := by have h_ := hb1.size; omega
      have HB1 := Lib.hid (HB0.out.trans (hb1.mono (by omega)))
      have Bp1 := Lib.hid (Bp0.out.below hb1 (by omega))
      have Bq1 := Lib.hid (Bq0.out.below hb1 (by omega))
      have p1_0 := Bp1.out.cell 0 (v := .int .i64 p.w) rfl
      have p1_1 := Bp1.out.cell 1 (v := .int .i64 p.h) rfl
      have q1_0 := Bq1.out.cell 0 (v := .int .i64 q.w) rfl
      have q1_1 := Bq1.out.cell 1 (v := .int .i64 q.h) rfl
      clear hb1
      go_wp2_with fail
      refine (specPc_any q true _ HD2.out).mono ?_
      rintro e w2 ⟨rfl, hb2⟩
      have z2 : w.heap.size + 2 ≤ w2.heap.size := Nat.le_trans z1 hb2.size
      have HB2 := Lib.hid (HB1.out.trans (hb2.mono (by omega)))
      have Bp2 := Lib.hid (Bp1.out.below hb2 (by omega))
      have Bq2 := Lib.hid (Bq1.out.below hb2 (by omega))
      clear p1_0 p1_1 q1_0 q1_1
      have p2_0 := Bp2.out.cell 0 (v := .int .i64 p.w) rfl
      have p2_1 := Bp2.out.cell 1 (v := .int .i64 p.h) rfl
      have q2_0 := Bq2.out.cell 0 (v := .int .i64 q.w) rfl
      have q2_1 := Bq2.out.cell 1 (v := .int .i64 q.h) rfl
      clear hb2
      go_wp2_with fail
      refine (hina _).mono ?_
      rintro e _ ⟨rfl, rfl⟩
      go_wp2_with fail
      refine (hinc _).mono ?_
      rintro e _ ⟨rfl, rfl⟩
      go_wp2_with fail
      have hl0 : OwnS Ct.S (w2.alloc (.cells #[] 50)) w2.heap.size (w2.heap.size + 1) (.slice (some ⟨w2.heap.size, 0, none⟩) 0 0) ([] : List Ct) := OwnS.lit0 Ct.S w2
      have hb0 : Below w2.heap.size w2 (w2.alloc (.cells #[] 50)) := below_new9 w2 _
      go_loopw [12, 13] (fun u i wr => ∃ (k : Nat) (A2 : Option Addr) (c2 : Nat), k ≤ m ∧ i = .int .i64 k ∧ u = .slice A2 k c2 ∧ OwnS Ct.S wr w2.heap.size wr.heap.size (.slice A2 k c2) (Gu.seq 0 false q.w k) ∧ Below w2.heap.size w2 wr) (fun _ i _ => m - (intOf i).toNat)
      case atStart => exact ⟨0, _, _, Nat.zero_le _, rfl, rfl, by have := hl0.mono (Nat.le_refl _) (hi' := (w2.alloc (.cells #[] 50)).heap.size) (by simp); simpa [Gu.seq] using this, hb0⟩
      case round =>
        clear hl0 hb0
        obtain ⟨k, A2, c2, hk, rfl, rfl, ho, hb⟩ := hrel
        have hz := hb.size
        have Bq := Bq2.out.below hb (by omega)
        have y0 := Bq.cell 0 (v := .int .i64 q.w) rfl
        have y1 := Bq.cell 1 (v := .int .i64 q.h) rfl
        have HB3 := Lib.hid (HB2.out.trans (hb.mono (by omega)))
        by_cases hlt : k < m
        · clear Bq
          have HBW := Lib.hid hb
          go_wp2_with (at_builtin; refine wp_pushCt wr rfl (.tmp 86) (.tmp 91) 28 rfl Tryz.underlying28 A2 k c2 _ _ _ (by rfl) ho ⟨(k : Int), false, q.w⟩ wr.heap.size (by rfl) rfl (by omega) hz ?_; intro A6 c6 w6 ho6 hm6)
          have HO := Lib.hid ho6
          have HBN := Lib.hid (HBW.out.trans (hm6.below (Nat.le_refl _) hz))
          clear ho6 hm6
          go_roundw
          case rel => exact ⟨k + 1, A6, c6, by omega, by go_num, rfl, by rw [Gu.seq_next]; simpa using HO.out, HBN.out⟩
          case measure => simp [intOf]; omega
        · obtain rfl : k = m := by omega
          have HSQ := Lib.hid ho
          have HBW := Lib.hid hb
          clear ho hb Bq
          go_wp2_with fail
          go_loopw [12, 14] (fun u i wr2 => ∃ (k2 : Nat) (A3 : Option Addr) (c3 n3 : Nat), k2 ≤ k + 1 ∧ i = .int .i64 k2 ∧ u = .slice A3 n3 c3 ∧ OwnS Ct.S wr2 w2.heap.size wr2.heap.size (.slice A3 n3 c3) (Gu.gridK q.w q.h k r k2) ∧ Below w2.heap.size w2 wr2) (fun _ i _ => k + 1 - (intOf i).toNat)
          case atStart => exact ⟨0, _, _, _, Nat.zero_le _, rfl, rfl, by rw [Gu.gridK_zero]; exact HSQ.out, HBW.out⟩
          case round =>
            clear y0 y1 HSQ
            obtain ⟨k2, A3, c3, n3, hk2, rfl, rfl, ho, hb⟩ := hrel
            have hz := hb.size
            have HL3 : Hid (k + k2 * r = n3) := Lib.hid (by rw [← Gu.gridK_len q.w q.h k r k2]; exact ho.rd.1)
            have Bq := Bq2.out.below hb (by omega)
            have y0 := Bq.cell 0 (v := .int .i64 q.w) rfl
            have y1 := Bq.cell 1 (v := .int .i64 q.h) rfl
            have HB4 := Lib.hid (HB2.out.trans (hb.mono (by omega)))
            by_cases hlt2 : k2 < k + 1
            · have hlt3 : (k2 : Int) < ((k : Int) + 1) := by omega
              have hkr := HKR k2 hlt2
              have HSQ := Lib.hid ho
              have HBW := Lib.hid hb
              have b4 := Gu.mul80 (a := (k2 : Int)) (b := (r : Int) + 1) (B := 81) (by omega) (by omega) (by omega) (by omega) (by omega)
              have x9 : IntKind.i64.wrap ((r : Int) + 1) = (r : Int) + 1 := IntWalk.i64_in _ (by omega)
              have x10 : IntKind.i64.wrap ((k2 : Int) * ((r : Int) + 1)) = (k2 : Int) * ((r : Int) + 1) := IntWalk.i64_in _ (by omega)
              have HI0 : Hid (((k2 * (r + 1) : Nat) : Int) = (k2 : Int) * ((r : Int) + 1)) := Lib.hid (by push_cast; rfl)
              clear ho hb Bq
              go_wp2_with fail
              go_loopw [12, 15] (fun u i wr3 => ∃ (j : Nat) (A4 : Option Addr) (c4 n4 : Nat), j ≤ r ∧ i = .int .i64 j ∧ u = .slice A4 n4 c4 ∧ OwnS Ct.S wr3 w2.heap.size wr3.heap.size (.slice A4 n4 c4) (Gu.gridK q.w q.h k r k2 ++ Gu.seq ((k2 * (r + 1) : Nat) : Int) true q.h j) ∧ Hid (n4 = n3 + j) ∧ Below w2.heap.size w2 wr3) (fun _ i _ => r - (intOf i).toNat)
              case atStart => exact ⟨0, _, _, _, Nat.zero_le _, rfl, rfl, by simpa [Gu.seq] using HSQ.out, Lib.hid rfl, HBW.out⟩
              case round =>
                clear y0 y1 HSQ
                obtain ⟨j, A4, c4, n4, hj, rfl, rfl, ho, HN4, hb⟩ := hrel
                have hz := hb.size
                have Bq := Bq2.out.below hb (by omega)
                have y1 := Bq.cell 1 (v := .int .i64 q.h) rfl
                by_cases hlt4 : j < r
                · have hn4 : n4 ≤ 79 := by have := HN4.out; have := HL3.out; omega
                  have x11 : IntKind.i64.wrap ((k2 : Int) * ((r : Int) + 1) + (j : Int)) = (k2 : Int) * ((r : Int) + 1) + (j : Int) := IntWalk.i64_in _ (by omega)
                  have HBX := Lib.hid hb
                  clear Bq
                  go_wp2_with (at_builtin; refine wp_pushCt wr rfl (.tmp 103) (.tmp 113) 28 rfl Tryz.underlying28 A4 n4 c4 _ _ _ (by rfl) ho ⟨(k2 : Int) * ((r : Int) + 1) + (j : Int), true, q.h⟩ wr.heap.size (by rfl) rfl (by omega) hz ?_; intro A6 c6 w6 ho6 hm6)
                  have HO := Lib.hid ho6
                  have HBN := Lib.hid (HBX.out.trans (hm6.below (Nat.le_refl _) hz))
                  clear ho6 hm6
                  go_roundw
                  case rel => exact ⟨j + 1, A6, c6, n4 + 1, by omega, by go_num, rfl, by rw [Gu.seq_next, HI0.out, ← List.append_assoc, ← HI0.out]; rw [HI0.out]; have := HO.out; rw [HI0.out] at this; exact this, Lib.hid (by rw [HN4.out]; omega), HBN.out⟩
                  case measure => simp [intOf]; omega
                · obtain rfl : j = r := by omega
                  have HSR := Lib.hid ho
                  have HBX := Lib.hid hb
                  clear ho hb Bq
                  go_wp2_with fail
                  go_roundw
                  case rel => exact ⟨k2 + 1, A4, c4, n4, by omega, by go_num, rfl, by rw [Gu.gridK_next]; exact HSR.out, HBX.out⟩
                  case measure => simp [intOf]; omega
            · obtain rfl : k2 = k + 1 := by omega
              have HSQ := Lib.hid ho
              have hn3 : n3 ≤ 79 := by have := HLIM.out; have := HL3.out; omega
              clear ho Bq
              go_wp2_with fail
              go_ret2
              exact CtC.mk_ (by rw [← HQ.out.2, HE.out.2]) (by rw [← HQ.out.1, HE.out.1]) HSQ.out (by omega) (Nat.le_refl _) (by omega) HB4.out

    

    · obtain ⟨r, rfl⟩ : ∃ r : Nat, c = (r : Int) + 1 := ⟨(c - 1).toNat, by omega⟩
      have HH : Hid (Gu.gap p.h ((r : Int) + 1) q.h = (r : Int)) := Lib.hid (by unfold Gu.gap; rw [if_neg cc]; omega)
      have b1 := Gu.mul80 (a := ((m : Int) + 1)) (b := q.w) (B := 20000) (by omega) (by omega) (by omega) (by omega) (by omega)
      have b2 := Gu.mul80 (a := ((r : Int) + 1)) (b := q.h) (B := 20000) (by omega) (by omega) (by omega) (by omega) (by omega)
      have b3 := Gu.mul80 (a := ((m : Int) + 1)) (b := (r : Int)) (B := 80) (by omega) (by omega) (by omega) (by omega) (by omega)
      have x1 : IntKind.i64.wrap (((m : Int) + 1) * q.w) = ((m : Int) + 1) * q.w := IntWalk.i64_in _ (by omega)
      have x2 : IntKind.i64.wrap (((r : Int) + 1) * q.h) = ((r : Int) + 1) * q.h := IntWalk.i64_in _ (by omega)
      have x3 : IntKind.i64.wrap (((m : Int) + 1) * (r : Int)) = ((m : Int) + 1) * (r : Int) := IntWalk.i64_in _ (by omega)
      have x4 : IntKind.i64.wrap ((m : Int) + ((m : Int) + 1) * (r : Int)) = (m : Int) + ((m : Int) + 1) * (r : Int) := IntWalk.i64_in _ (by omega)
      have x5 : IntKind.i64.wrap (((m : Int) + 1) - 1) = ((m : Int) + 1) - 1 := IntWalk.i64_in _ (by omega)
      have x6 : IntKind.i64.wrap (((r : Int) + 1) - 1) = ((r : Int) + 1) - 1 := IntWalk.i64_in _ (by omega)
      have x7 : IntKind.i64.wrap (m : Int) = (m : Int) := IntWalk.i64_in _ (by omega)
      have x8 : IntKind.i64.wrap (r : Int) = (r : Int) := IntWalk.i64_in _ (by omega)
      have hm80 : m ≤ 80 := by omega
      have hr80 : r ≤ 80 := by omega
      by_cases cl : (m : Int) + ((m : Int) + 1) * (r : Int) ≤ 79
      rotate_left
      · have HE := Lib.hid (Gu.gc_lim HOK.out HRA.out HW.out HH.out cl)
        have cl2 : 79 < (m : Int) + ((m : Int) + 1) * (r : Int) := by omega
        clear b1 b2 b3
        go_enter Tryz.func7, Tryz.ntmps7
        go_wp2_with fail
        refine (specPc_any p true _ HD1.out).mono ?_
        rintro e w1 ⟨rfl, hb1⟩
        have z1 : w.heap.size + 2 ≤ w1.heap.size := by have h_ := hb1.size; omega
        have HB1 := Lib.hid (HB0.out.trans (hb1.mono (by omega)))
        have Bp1 := Lib.hid (Bp0.out.below hb1 (by omega))
        have Bq1 := Lib.hid (Bq0.out.below hb1 (by omega))
        have p1_0 := Bp1.out.cell 0 (v := .int .i64 p.w) rfl
        have p1_1 := Bp1.out.cell 1 (v := .int .i64 p.h) rfl
        have q1_0 := Bq1.out.cell 0 (v := .int .i64 q.w) rfl
        have q1_1 := Bq1.out.cell 1 (v := .int .i64 q.h) rfl
        clear hb1
        go_wp2_with fail
        refine (specPc_any q true _ HD2.out).mono ?_
        rintro e w2 ⟨rfl, hb2⟩
        have z2 : w.heap.size + 2 ≤ w2.heap.size := Nat.le_trans z1 hb2.size
        have HB2 := Lib.hid (HB1.out.trans (hb2.mono (by omega)))
        have Bp2 := Lib.hid (Bp1.out.below hb2 (by omega))
        have Bq2 := Lib.hid (Bq1.out.below hb2 (by omega))
        clear p1_0 p1_1 q1_0 q1_1
        have p2_0 := Bp2.out.cell 0 (v := .int .i64 p.w) rfl
        have p2_1 := Bp2.out.cell 1 (v := .int .i64 p.h) rfl
        have q2_0 := Bq2.out.cell 0 (v := .int .i64 q.w) rfl
        have q2_1 := Bq2.out.cell 1 (v := .int .i64 q.h) rfl
        clear hb2
        go_wp2_with fail
        refine (hina _).mono ?_
        rintro e _ ⟨rfl, rfl⟩
        go_wp2_with fail
        refine (hinc _).mono ?_
        rintro e _ ⟨rfl, rfl⟩
        go_wp2_with fail
        go_ret2
        exact CtC.nil_ (by rw [← HQ.out.2, HE.out.2]) (by rw [← HQ.out.1, HE.out.1]) HB2.out

      by_cases sa : p.w < ((m : Int) + 1) * q.w
      · have HE := Lib.hid (Gu.gc_st HOK.out HRA.out HW.out HH.out cl (by omega))
        clear b1 b2 b3
        go_enter Tryz.func7, Tryz.ntmps7
        go_wp2_with fail
        refine (specPc_any p true _ HD1.out).mono ?_
        rintro e w1 ⟨rfl, hb1⟩
        have z1 : w.heap.size + 2 ≤ w1.heap.size := by have h_ := hb1.size; omega
        have HB1 := Lib.hid (HB0.out.trans (hb1.mono (by omega)))
        have Bp1 := Lib.hid (Bp0.out.below hb1 (by omega))
        have Bq1 := Lib.hid (Bq0.out.below hb1 (by omega))
        have p1_0 := Bp1.out.cell 0 (v := .int .i64 p.w) rfl
        have p1_1 := Bp1.out.cell 1 (v := .int .i64 p.h) rfl
        have q1_0 := Bq1.out.cell 0 (v := .int .i64 q.w) rfl
        have q1_1 := Bq1.out.cell 1 (v := .int .i64 q.h) rfl
        clear hb1
        go_wp2_with fail
        refine (specPc_any q true _ HD2.out).mono ?_
        rintro e w2 ⟨rfl, hb2⟩
        have z2 : w.heap.size + 2 ≤ w2.heap.size := Nat.le_trans z1 hb2.size
        have HB2 := Lib.hid (HB1.out.trans (hb2.mono (by omega)))
        have Bp2 := Lib.hid (Bp1.out.below hb2 (by omega))
        have Bq2 := Lib.hid (Bq1.out.below hb2 (by omega))
        clear p1_0 p1_1 q1_0 q1_1
        have p2_0 := Bp2.out.cell 0 (v := .int .i64 p.w) rfl
        have p2_1 := Bp2.out.cell 1 (v := .int .i64 p.h) rfl
        have q2_0 := Bq2.out.cell 0 (v := .int .i64 q.w) rfl
        have q2_1 := Bq2.out.cell 1 (v := .int .i64 q.h) rfl
        clear hb2
        go_wp2_with fail
        refine (hina _).mono ?_
        rintro e _ ⟨rfl, rfl⟩
        go_wp2_with fail
        refine (hinc _).mono ?_
        rintro e _ ⟨rfl, rfl⟩
        go_wp2_with fail
        go_ret2
        exact CtC.nil_ (by rw [← HQ.out.2, HE.out.2]) (by rw [← HQ.out.1, HE.out.1]) HB2.out

      by_cases sc : p.h < ((r : Int) + 1) * q.h
      · have HE := Lib.hid (Gu.gc_st HOK.out HRA.out HW.out HH.out cl (by omega))
        clear b1 b2 b3
        go_enter Tryz.func7, Tryz.ntmps7
        go_wp2_with fail
        refine (specPc_any p true _ HD1.out).mono ?_
        rintro e w1 ⟨rfl, hb1⟩
        have z1 : w.heap.size + 2 ≤ w1.heap.size := by have h_ := hb1.size; omega
        have HB1 := Lib.hid (HB0.out.trans (hb1.mono (by omega)))
        have Bp1 := Lib.hid (Bp0.out.below hb1 (by omega))
        have Bq1 := Lib.hid (Bq0.out.below hb1 (by omega))
        have p1_0 := Bp1.out.cell 0 (v := .int .i64 p.w) rfl
        have p1_1 := Bp1.out.cell 1 (v := .int .i64 p.h) rfl
        have q1_0 := Bq1.out.cell 0 (v := .int .i64 q.w) rfl
        have q1_1 := Bq1.out.cell 1 (v := .int .i64 q.h) rfl
        clear hb1
        go_wp2_with fail
        refine (specPc_any q true _ HD2.out).mono ?_
        rintro e w2 ⟨rfl, hb2⟩
        have z2 : w.heap.size + 2 ≤ w2.heap.size := Nat.le_trans z1 hb2.size
        have HB2 := Lib.hid (HB1.out.trans (hb2.mono (by omega)))
        have Bp2 := Lib.hid (Bp1.out.below hb2 (by omega))
        have Bq2 := Lib.hid (Bq1.out.below hb2 (by omega))
        clear p1_0 p1_1 q1_0 q1_1
        have p2_0 := Bp2.out.cell 0 (v := .int .i64 p.w) rfl
        have p2_1 := Bp2.out.cell 1 (v := .int .i64 p.h) rfl
        have q2_0 := Bq2.out.cell 0 (v := .int .i64 q.w) rfl
        have q2_1 := Bq2.out.cell 1 (v := .int .i64 q.h) rfl
        clear hb2
        go_wp2_with fail
        refine (hina _).mono ?_
        rintro e _ ⟨rfl, rfl⟩
        go_wp2_with fail
        refine (hinc _).mono ?_
        rintro e _ ⟨rfl, rfl⟩
        go_wp2_with fail
        go_ret2
        exact CtC.nil_ (by rw [← HQ.out.2, HE.out.2]) (by rw [← HQ.out.1, HE.out.1]) HB2.out

      have HE := Lib.hid (Gu.gc_ok (an := m + 1) HOK.out HRA.out HW.out HH.out (by omega) cl (by omega))
      have HLIM : Hid (m + (m + 1) * r ≤ 79) := Lib.hid (by have := cl; rw [show ((m : Int) + 1) = ((m + 1 : Nat) : Int) by omega] at this; exact_mod_cast this)
      have HKR : ∀ k : Nat, k < m + 1 → m + k * r + r ≤ 79 ∧ k ≤ 79 := fun k hk => by
        have h1 : (k + 1) * r ≤ (m + 1) * r := Nat.mul_le_mul_right r hk
        rw [Nat.succ_mul] at h1
        have := HLIM.out
        omega
      clear b1 b2 b3
      go_enter Tryz.func7, Tryz.ntmps7
      go_wp2_with fail
      refine (specPc_any p true _ HD1.out).mono ?_
      rintro e w1 ⟨rfl, hb1⟩
      have z1 : w.heap.size + 2 ≤ w1.heap.size := by have h_ := hb1.size; omega
      have HB1 := Lib.hid (HB0.out.trans (hb1.mono (by omega)))
      have Bp1 := Lib.hid (Bp0.out.below hb1 (by omega))
      have Bq1 := Lib.hid (Bq0.out.below hb1 (by omega))
      have p1_0 := Bp1.out.cell 0 (v := .int .i64 p.w) rfl
      have p1_1 := Bp1.out.cell 1 (v := .int .i64 p.h) rfl
      have q1_0 := Bq1.out.cell 0 (v := .int .i64 q.w) rfl
      have q1_1 := Bq1.out.cell 1 (v := .int .i64 q.h) rfl
      clear hb1
      go_wp2_with fail
      refine (specPc_any q true _ HD2.out).mono ?_
      rintro e w2 ⟨rfl, hb2⟩
      have z2 : w.heap.size + 2 ≤ w2.heap.size := Nat.le_trans z1 hb2.size
      have HB2 := Lib.hid (HB1.out.trans (hb2.mono (by omega)))
      have Bp2 := Lib.hid (Bp1.out.below hb2 (by omega))
      have Bq2 := Lib.hid (Bq1.out.below hb2 (by omega))
      clear p1_0 p1_1 q1_0 q1_1
      have p2_0 := Bp2.out.cell 0 (v := .int .i64 p.w) rfl
      have p2_1 := Bp2.out.cell 1 (v := .int .i64 p.h) rfl
      have q2_0 := Bq2.out.cell 0 (v := .int .i64 q.w) rfl
      have q2_1 := Bq2.out.cell 1 (v := .int .i64 q.h) rfl
      clear hb2
      go_wp2_with fail
      refine (hina _).mono ?_
      rintro e _ ⟨rfl, rfl⟩
      go_wp2_with fail
      refine (hinc _).mono ?_
      rintro e _ ⟨rfl, rfl⟩
      go_wp2_with fail
      have hl0 : OwnS Ct.S (w2.alloc (.cells #[] 50)) w2.heap.size (w2.heap.size + 1) (.slice (some ⟨w2.heap.size, 0, none⟩) 0 0) ([] : List Ct) := OwnS.lit0 Ct.S w2
      have hb0 : Below w2.heap.size w2 (w2.alloc (.cells #[] 50)) := below_new9 w2 _
      go_loopw [12, 13] (fun u i wr => ∃ (k : Nat) (A2 : Option Addr) (c2 : Nat), k ≤ m ∧ i = .int .i64 k ∧ u = .slice A2 k c2 ∧ OwnS Ct.S wr w2.heap.size wr.heap.size (.slice A2 k c2) (Gu.seq 0 false q.w k) ∧ Below w2.heap.size w2 wr) (fun _ i _ => m - (intOf i).toNat)
      case atStart => exact ⟨0, _, _, Nat.zero_le _, rfl, rfl, by have := hl0.mono (Nat.le_refl _) (hi' := (w2.alloc (.cells #[] 50)).heap.size) (by simp); simpa [Gu.seq] using this, hb0⟩
      case round =>
        clear hl0 hb0
        obtain ⟨k, A2, c2, hk, rfl, rfl, ho, hb⟩ := hrel
        have hz := hb.size
        have Bq := Bq2.out.below hb (by omega)
        have y0 := Bq.cell 0 (v := .int .i64 q.w) rfl
        have y1 := Bq.cell 1 (v := .int .i64 q.h) rfl
        have HB3 := Lib.hid (HB2.out.trans (hb.mono (by omega)))
        by_cases hlt : k < m
        · clear Bq
          have HBW := Lib.hid hb
          go_wp2_with (at_builtin; refine wp_pushCt wr rfl (.tmp 86) (.tmp 91) 28 rfl Tryz.underlying28 A2 k c2 _ _ _ (by rfl) ho ⟨(k : Int), false, q.w⟩ wr.heap.size (by rfl) rfl (by omega) hz ?_; intro A6 c6 w6 ho6 hm6)
          have HO := Lib.hid ho6
          have HBN := Lib.hid (HBW.out.trans (hm6.below (Nat.le_refl _) hz))
          clear ho6 hm6
          go_roundw
          case rel => exact ⟨k + 1, A6, c6, by omega, by go_num, rfl, by rw [Gu.seq_next]; simpa using HO.out, HBN.out⟩
          case measure => simp [intOf]; omega
        · obtain rfl : k = m := by omega
          have HSQ := Lib.hid ho
          have HBW := Lib.hid hb
          clear ho hb Bq
          go_wp2_with fail
          go_loopw [12, 14] (fun u i wr2 => ∃ (k2 : Nat) (A3 : Option Addr) (c3 n3 : Nat), k2 ≤ k + 1 ∧ i = .int .i64 k2 ∧ u = .slice A3 n3 c3 ∧ OwnS Ct.S wr2 w2.heap.size wr2.heap.size (.slice A3 n3 c3) (Gu.gridK q.w q.h k r k2) ∧ Below w2.heap.size w2 wr2) (fun _ i _ => k + 1 - (intOf i).toNat)
          case atStart => exact ⟨0, _, _, _, Nat.zero_le _, rfl, rfl, by rw [Gu.gridK_zero]; exact HSQ.out, HBW.out⟩
          case round =>
            clear y0 y1 HSQ
            obtain ⟨k2, A3, c3, n3, hk2, rfl, rfl, ho, hb⟩ := hrel
            have hz := hb.size
            have HL3 : Hid (k + k2 * r = n3) := Lib.hid (by rw [← Gu.gridK_len q.w q.h k r k2]; exact ho.rd.1)
            have Bq := Bq2.out.below hb (by omega)
            have y0 := Bq.cell 0 (v := .int .i64 q.w) rfl
            have y1 := Bq.cell 1 (v := .int .i64 q.h) rfl
            have HB4 := Lib.hid (HB2.out.trans (hb.mono (by omega)))
            by_cases hlt2 : k2 < k + 1
            · have hlt3 : (k2 : Int) < ((k : Int) + 1) := by omega
              have hkr := HKR k2 hlt2
              have HSQ := Lib.hid ho
              have HBW := Lib.hid hb
              have b4 := Gu.mul80 (a := (k2 : Int)) (b := (r : Int) + 1) (B := 81) (by omega) (by omega) (by omega) (by omega) (by omega)
              have x9 : IntKind.i64.wrap ((r : Int) + 1) = (r : Int) + 1 := IntWalk.i64_in _ (by omega)
              have x10 : IntKind.i64.wrap ((k2 : Int) * ((r : Int) + 1)) = (k2 : Int) * ((r : Int) + 1) := IntWalk.i64_in _ (by omega)
              have HI0 : Hid (((k2 * (r + 1) : Nat) : Int) = (k2 : Int) * ((r : Int) + 1)) := Lib.hid (by push_cast; rfl)
              clear ho hb Bq
              go_wp2_with fail
              go_loopw [12, 15] (fun u i wr3 => ∃ (j : Nat) (A4 : Option Addr) (c4 n4 : Nat), j ≤ r ∧ i = .int .i64 j ∧ u = .slice A4 n4 c4 ∧ OwnS Ct.S wr3 w2.heap.size wr3.heap.size (.slice A4 n4 c4) (Gu.gridK q.w q.h k r k2 ++ Gu.seq ((k2 * (r + 1) : Nat) : Int) true q.h j) ∧ Hid (n4 = n3 + j) ∧ Below w2.heap.size w2 wr3) (fun _ i _ => r - (intOf i).toNat)
              case atStart => exact ⟨0, _, _, _, Nat.zero_le _, rfl, rfl, by simpa [Gu.seq] using HSQ.out, Lib.hid rfl, HBW.out⟩
              case round =>
                clear y0 y1 HSQ
                obtain ⟨j, A4, c4, n4, hj, rfl, rfl, ho, HN4, hb⟩ := hrel
                have hz := hb.size
                have Bq := Bq2.out.below hb (by omega)
                have y1 := Bq.cell 1 (v := .int .i64 q.h) rfl
                by_cases hlt4 : j < r
                · have hn4 : n4 ≤ 79 := by have := HN4.out; have := HL3.out; omega
                  have x11 : IntKind.i64.wrap ((k2 : Int) * ((r : Int) + 1) + (j : Int)) = (k2 : Int) * ((r : Int) + 1) + (j : Int) := IntWalk.i64_in _ (by omega)
                  have HBX := Lib.hid hb
                  clear Bq
                  go_wp2_with (at_builtin; refine wp_pushCt wr rfl (.tmp 103) (.tmp 113) 28 rfl Tryz.underlying28 A4 n4 c4 _ _ _ (by rfl) ho ⟨(k2 : Int) * ((r : Int) + 1) + (j : Int), true, q.h⟩ wr.heap.size (by rfl) rfl (by omega) hz ?_; intro A6 c6 w6 ho6 hm6)
                  have HO := Lib.hid ho6
                  have HBN := Lib.hid (HBX.out.trans (hm6.below (Nat.le_refl _) hz))
                  clear ho6 hm6
                  go_roundw
                  case rel => exact ⟨j + 1, A6, c6, n4 + 1, by omega, by go_num, rfl, by rw [Gu.seq_next, HI0.out, ← List.append_assoc, ← HI0.out]; rw [HI0.out]; have := HO.out; rw [HI0.out] at this; exact this, Lib.hid (by rw [HN4.out]; omega), HBN.out⟩
                  case measure => simp [intOf]; omega
                · obtain rfl : j = r := by omega
                  have HSR := Lib.hid ho
                  have HBX := Lib.hid hb
                  clear ho hb Bq
                  go_wp2_with fail
                  go_roundw
                  case rel => exact ⟨k2 + 1, A4, c4, n4, by omega, by go_num, rfl, by rw [Gu.gridK_next]; exact HSR.out, HBX.out⟩
                  case measure => simp [intOf]; omega
            · obtain rfl : k2 = k + 1 := by omega
              have HSQ := Lib.hid ho
              have hn3 : n3 ≤ 79 := by have := HLIM.out; have := HL3.out; omega
              clear ho Bq
              go_wp2_with fail
              go_ret2
              exact CtC.mk_ (by rw [← HQ.out.2, HE.out.2]) (by rw [← HQ.out.1, HE.out.1]) HSQ.out (by omega) (Nat.le_refl _) (by omega) HB4.out

end Go.Proofs.YtbhofhobnbhhhaaGreatDoor
