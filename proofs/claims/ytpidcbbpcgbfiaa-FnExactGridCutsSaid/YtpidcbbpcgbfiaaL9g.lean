/- The walk of the exact law of GridCuts, out of the contracts. -/
import Derived.Test.YtpidcbbpcgbfiaaPcLw
import Derived.Test.YtpidcbbpcgbfiaaCtLw
import Derived.Test.YtpidcbbpcgbfiaaGuGs
import Derived.Test.YtpidcbbpcgbfiaaGuGi
import Derived.Test.YtpidcbbpcgbfiaaLw9
import Derived.Deep.RegionHeld3
namespace Go.Proofs.Ytpidcbbpcgbfiaa
open Go.RowKit
set_option linter.unusedVariables false

theorem calls_ctc {P : Program} {f : FuncId} {args : Array Value} {w : World} {R : List Ct} {C : Int} (h : Calls P f args w fun e w' => CtC w R C e w') :
    Calls P f args w fun e w' => ∃ A n c, e = .returned (.tuple #[.slice A n c, .int .i64 C]) ∧ OwnS Ct.S w' w.heap.size w'.heap.size (.slice A n c) R ∧ n ≤ 1048576 ∧ Below w.heap.size w w' := h
set_option maxRecDepth 100000 in
set_option maxHeartbeats 8000000 in
theorem w_FnExactGridCuts (p : Pc) (a b : Int) (q : Pc) (w : World) (ha_ : -9223372036854775808 ≤ a ∧ a ≤ 9223372036854775807) (hb_ : -9223372036854775808 ≤ b ∧ b ≤ 9223372036854775807) :
    Calls Try.prog 9 #[p.agg, .int .i64 a, .int .i64 b, q.agg] w fun e w' => e = .returned (.bool true) ∧ Below w.heap.size w w' := by
  obtain ⟨R, hR⟩ : ∃ v, Gu.gcR p a b q = v := ⟨_, rfl⟩
  have HR := Lib.hid hR
  clear hR
  obtain ⟨Cd, hCd⟩ : ∃ v, Gu.gcC p a b q = v := ⟨_, rfl⟩
  have HCd := Lib.hid hCd
  clear hCd
  have B0_0 := Lib.hid ((Blk.new (w := w) (g := w.heap.size) #[.int .i64 p.w, .int .i64 p.h] 23 (by simp)).alloc (.cells #[.int .i64 q.w, .int .i64 q.h] 23))
  have B0_1 := Lib.hid (Blk.new (w := (w.alloc (.cells #[.int .i64 p.w, .int .i64 p.h] 23))) (g := w.heap.size + 1) #[.int .i64 q.w, .int .i64 q.h] 23 (by simp))
  have HB0 := Lib.hid (((Below.refl w.heap.size w).alloc (by simp) (.cells #[.int .i64 p.w, .int .i64 p.h] 23)).alloc (by simp <;> omega) (.cells #[.int .i64 q.w, .int .i64 q.h] 23))
  have z0 : w.heap.size + 2 = ((w.alloc (.cells #[.int .i64 p.w, .int .i64 p.h] 23)).alloc (.cells #[.int .i64 q.w, .int .i64 q.h] 23)).heap.size := by simp
  go_enter Try.func9, Try.ntmps9
  go_wp2_with fail
  go_region_held3 (fun V => V.cell? ⟨w.heap.size, 0, none⟩ = some (.int .i64 p.w) ∧ V.cell? ⟨w.heap.size, 1, none⟩ = some (.int .i64 p.h) ∧ V.cell? ⟨w.heap.size + 1, 0, none⟩ = some (.int .i64 q.w) ∧ V.cell? ⟨w.heap.size + 1, 1, none⟩ = some (.int .i64 q.h))
    (first | go_keep | (refine ⟨?_, ?_, ?_, ?_⟩ <;> (first | go_keep | (rw [hbk.cell (by first | omega | (simp; done) | (simp; omega))]; first | assumption | go_keep))))
    (first
      | (go_at_call 33; with_reducible refine (calls_ctc (specGc_any p a b q R Cd _ ha_ hb_ HR.out HCd.out)).mono ?_; rintro e' w3 ⟨A3, n3, c3, rfl, o3, hn3, hbk⟩; have hbk3 := hbk)
      | (go_at_call 11; with_reducible refine (toPiece_any q _).mono ?_; rintro e' w2 ⟨rfl, hbk⟩; have hbk2 := hbk; have z2_ := hbk.size; have u_ := z1_)
      | (go_at_call 11; with_reducible refine (toPiece_any p _).mono ?_; rintro e' w1 ⟨rfl, hbk⟩; have hbk1 := hbk; have z1_ := sz_drew9 hbk))
  have hbq3 : Below ((w.alloc (.cells #[.int .i64 p.w, .int .i64 p.h] 23)).alloc (.cells #[.int .i64 q.w, .int .i64 q.h] 23)).heap.size ((w.alloc (.cells #[.int .i64 p.w, .int .i64 p.h] 23)).alloc (.cells #[.int .i64 q.w, .int .i64 q.h] 23)) w3 := (below_drewN' (Below.refl _ ((w.alloc (.cells #[.int .i64 p.w, .int .i64 p.h] 23)).alloc (.cells #[.int .i64 q.w, .int .i64 q.h] 23))) 1).trans ((hbk1.mono (show ((w.alloc (.cells #[.int .i64 p.w, .int .i64 p.h] 23)).alloc (.cells #[.int .i64 q.w, .int .i64 q.h] 23)).heap.size ≤ ((w.alloc (.cells #[.int .i64 p.w, .int .i64 p.h] 23)).alloc (.cells #[.int .i64 q.w, .int .i64 q.h] 23)).drew.heap.size from Nat.le_refl _)).trans ((hbk2.mono z1_).trans (hbk3.mono (Nat.le_trans z1_ z2_))))
  have hz_2 : ((w.alloc (.cells #[.int .i64 p.w, .int .i64 p.h] 23)).alloc (.cells #[.int .i64 q.w, .int .i64 q.h] 23)).heap.size ≤ w2.heap.size := Nat.le_trans z1_ z2_
  have hz_3 : w2.heap.size ≤ w3.heap.size := hbk3.size
  clear hbk hbk1 hbk2 hbk3
  have z3 : ((w.alloc (.cells #[.int .i64 p.w, .int .i64 p.h] 23)).alloc (.cells #[.int .i64 q.w, .int .i64 q.h] 23)).heap.size ≤ w3.heap.size := hbq3.size
  have HB3 := Lib.hid (HB0.out.trans (hbq3.mono (by omega)))
  have B3_0 := Lib.hid (B0_0.out.below hbq3 B0_0.out.lt)
  have B3_1 := Lib.hid (B0_1.out.below hbq3 B0_1.out.lt)
  have c3_0_0 := B3_0.out.cell 0 (v := .int .i64 p.w) rfl
  have c3_0_1 := B3_0.out.cell 1 (v := .int .i64 p.h) rfl
  have c3_1_0 := B3_1.out.cell 0 (v := .int .i64 q.w) rfl
  have c3_1_1 := B3_1.out.cell 1 (v := .int .i64 q.h) rfl
  clear hbq3
  have O3_w0 := o3
  clear o3
  go_wp2_with fail
  go_region_held3 (fun V => V.cell? ⟨w.heap.size, 0, none⟩ = some (.int .i64 p.w) ∧ V.cell? ⟨w.heap.size, 1, none⟩ = some (.int .i64 p.h) ∧ V.cell? ⟨w.heap.size + 1, 0, none⟩ = some (.int .i64 q.w) ∧ V.cell? ⟨w.heap.size + 1, 1, none⟩ = some (.int .i64 q.h))
    (first | go_keep | (refine ⟨?_, ?_, ?_, ?_⟩ <;> (first | go_keep | (rw [hbk.cell (by first | omega | (simp; done) | (simp; omega))]; first | assumption | go_keep))))
    (first
      | (go_at_call 34; with_reducible refine (calls_ctc (implGc_any p a b q R Cd _ ha_ hb_ HR.out HCd.out)).mono ?_; rintro e' w6 ⟨A6, n6, c6, rfl, o6, hn6, hbk⟩; have hbk6 := hbk)
      | (go_at_call 11; with_reducible refine (toPiece_any q _).mono ?_; rintro e' w5 ⟨rfl, hbk⟩; have hbk5 := hbk; have z5_ := hbk.size; have u_ := z4_)
      | (go_at_call 11; with_reducible refine (toPiece_any p _).mono ?_; rintro e' w4 ⟨rfl, hbk⟩; have hbk4 := hbk; have z4_ := sz_drew9 hbk))
  have hbq6 : Below w3.heap.size w3 w6 := (below_drewN' (Below.refl _ w3) 1).trans ((hbk4.mono (show w3.heap.size ≤ w3.drew.heap.size from Nat.le_refl _)).trans ((hbk5.mono z4_).trans (hbk6.mono (Nat.le_trans z4_ z5_))))
  have hz_5 : w3.heap.size ≤ w5.heap.size := Nat.le_trans z4_ z5_
  have hz_6 : w5.heap.size ≤ w6.heap.size := hbk6.size
  obtain rfl : n3 = n6 := O3_w0.rd.1.symm.trans o6.rd.1
  clear hbk hbk4 hbk5 hbk6
  have z6 : w3.heap.size ≤ w6.heap.size := hbq6.size
  have HB6 := Lib.hid (HB3.out.trans (hbq6.mono (by omega)))
  have B6_0 := Lib.hid (B3_0.out.below hbq6 B3_0.out.lt)
  have B6_1 := Lib.hid (B3_1.out.below hbq6 B3_1.out.lt)
  have O6_w0 := O3_w0.below hbq6 (by omega)
  clear O3_w0
  clear c3_0_0 c3_0_1 c3_1_0 c3_1_1
  have c6_0_0 := B6_0.out.cell 0 (v := .int .i64 p.w) rfl
  have c6_0_1 := B6_0.out.cell 1 (v := .int .i64 p.h) rfl
  have c6_1_0 := B6_1.out.cell 0 (v := .int .i64 q.w) rfl
  have c6_1_1 := B6_1.out.cell 1 (v := .int .i64 q.h) rfl
  clear hbq6
  have O6_g0 := o6
  clear o6
  go_wp2_with fail
  refine (eqCutS_true _ _ _ _ _ _ _ R _ O6_g0.rd O6_w0.rd (by omega) (by omega) (by omega)).mono ?_
  rintro e' w7 ⟨rfl, hb7⟩
  have z7 : w6.heap.size ≤ w7.heap.size := hb7.size
  have HB7 := Lib.hid (HB6.out.trans (hb7.mono (by omega)))
  have B7_0 := Lib.hid (B6_0.out.below hb7 B6_0.out.lt)
  have B7_1 := Lib.hid (B6_1.out.below hb7 B6_1.out.lt)
  have O7_w0 := O6_w0.below hb7 (by omega)
  have O7_g0 := O6_g0.below hb7 (by omega)
  clear O6_w0 O6_g0
  clear c6_0_0 c6_0_1 c6_1_0 c6_1_1
  have c7_0_0 := B7_0.out.cell 0 (v := .int .i64 p.w) rfl
  have c7_0_1 := B7_0.out.cell 1 (v := .int .i64 p.h) rfl
  have c7_1_0 := B7_1.out.cell 0 (v := .int .i64 q.w) rfl
  have c7_1_1 := B7_1.out.cell 1 (v := .int .i64 q.h) rfl
  clear hb7
  go_wp2_with fail
  refine (markCutS_any A6 n3 c6 w5.heap.size w6.heap.size 1 R _ O7_g0 (by omega) (by omega) (by omega)).mono ?_
  rintro e' w8 ⟨rfl, o8, hm8⟩
  have z8 : w7.heap.size ≤ w8.heap.size := hm8.size
  have HB8 := Lib.hid (HB7.out.trans (hm8.below (by omega) (by omega)))
  have B8_0 := Lib.hid (B7_0.out.only hm8 (.inl (by omega)))
  have B8_1 := Lib.hid (B7_1.out.only hm8 (.inl (by omega)))
  have O8_w0 := O7_w0.only hm8 (by omega)
  clear O7_w0
  clear c7_0_0 c7_0_1 c7_1_0 c7_1_1
  have c8_0_0 := B8_0.out.cell 0 (v := .int .i64 p.w) rfl
  have c8_0_1 := B8_0.out.cell 1 (v := .int .i64 p.h) rfl
  have c8_1_0 := B8_1.out.cell 0 (v := .int .i64 q.w) rfl
  have c8_1_1 := B8_1.out.cell 1 (v := .int .i64 q.h) rfl
  have O8_g0 := o8
  clear hm8 o8 O7_g0
  go_wp2_with fail
  refine (heldCutS_any A6 n3 c6 w6.heap.size 1 _ O8_g0.rd (by omega) (by omega) (by omega)).mono ?_
  rintro e' _ ⟨rfl, rfl⟩
  go_wp2_with fail
  go_region_held3 (fun V => V.cell? ⟨w.heap.size, 0, none⟩ = some (.int .i64 p.w) ∧ V.cell? ⟨w.heap.size, 1, none⟩ = some (.int .i64 p.h) ∧ V.cell? ⟨w.heap.size + 1, 0, none⟩ = some (.int .i64 q.w) ∧ V.cell? ⟨w.heap.size + 1, 1, none⟩ = some (.int .i64 q.h))
    (first | go_keep | (refine ⟨?_, ?_, ?_, ?_⟩ <;> (first | go_keep | (rw [hbk.cell (by first | omega | (simp; done) | (simp; omega))]; first | assumption | go_keep))))
    (first
      | (go_at_call 34; with_reducible refine (calls_ctc (implGc_any p a b q R Cd _ ha_ hb_ HR.out HCd.out)).mono ?_; rintro e' w11 ⟨A11, n11, c11, rfl, o11, hn11, hbk⟩; have hbk11 := hbk)
      | (go_at_call 11; with_reducible refine (toPiece_any q _).mono ?_; rintro e' w10 ⟨rfl, hbk⟩; have hbk10 := hbk; have z10_ := hbk.size; have u_ := z9_)
      | (go_at_call 11; with_reducible refine (toPiece_any p _).mono ?_; rintro e' w9 ⟨rfl, hbk⟩; have hbk9 := hbk; have z9_ := sz_drew9 hbk))
  have hbq11 : Below w8.heap.size w8 w11 := (below_drewN' (Below.refl _ w8) 1).trans ((hbk9.mono (show w8.heap.size ≤ w8.drew.heap.size from Nat.le_refl _)).trans ((hbk10.mono z9_).trans (hbk11.mono (Nat.le_trans z9_ z10_))))
  have hz_10 : w8.heap.size ≤ w10.heap.size := Nat.le_trans z9_ z10_
  have hz_11 : w10.heap.size ≤ w11.heap.size := hbk11.size
  obtain rfl : n3 = n11 := O8_w0.rd.1.symm.trans o11.rd.1
  clear hbk hbk9 hbk10 hbk11
  have z11 : w8.heap.size ≤ w11.heap.size := hbq11.size
  have HB11 := Lib.hid (HB8.out.trans (hbq11.mono (by omega)))
  have B11_0 := Lib.hid (B8_0.out.below hbq11 B8_0.out.lt)
  have B11_1 := Lib.hid (B8_1.out.below hbq11 B8_1.out.lt)
  have O11_w0 := O8_w0.below hbq11 (by omega)
  have O11_g0 := O8_g0.below hbq11 (by omega)
  clear O8_w0 O8_g0
  clear c8_0_0 c8_0_1 c8_1_0 c8_1_1
  have c11_0_0 := B11_0.out.cell 0 (v := .int .i64 p.w) rfl
  have c11_0_1 := B11_0.out.cell 1 (v := .int .i64 p.h) rfl
  have c11_1_0 := B11_1.out.cell 0 (v := .int .i64 q.w) rfl
  have c11_1_1 := B11_1.out.cell 1 (v := .int .i64 q.h) rfl
  clear hbq11
  have O11_h0 := o11
  clear o11
  go_wp2_with fail
  refine (eqCutS_true _ _ _ _ _ _ _ R _ O11_h0.rd O11_w0.rd (by omega) (by omega) (by omega)).mono ?_
  rintro e' w12 ⟨rfl, hb12⟩
  have z12 : w11.heap.size ≤ w12.heap.size := hb12.size
  have HB12 := Lib.hid (HB11.out.trans (hb12.mono (by omega)))
  have B12_0 := Lib.hid (B11_0.out.below hb12 B11_0.out.lt)
  have B12_1 := Lib.hid (B11_1.out.below hb12 B11_1.out.lt)
  have O12_w0 := O11_w0.below hb12 (by omega)
  have O12_g0 := O11_g0.below hb12 (by omega)
  have O12_h0 := O11_h0.below hb12 (by omega)
  clear O11_w0 O11_g0 O11_h0
  clear c11_0_0 c11_0_1 c11_1_0 c11_1_1
  have c12_0_0 := B12_0.out.cell 0 (v := .int .i64 p.w) rfl
  have c12_0_1 := B12_0.out.cell 1 (v := .int .i64 p.h) rfl
  have c12_1_0 := B12_1.out.cell 0 (v := .int .i64 q.w) rfl
  have c12_1_1 := B12_1.out.cell 1 (v := .int .i64 q.h) rfl
  clear hb12
  go_wp2_with fail
  refine (heldCutS_any A6 n3 c6 w6.heap.size 1 _ O12_g0.rd (by omega) (by omega) (by omega)).mono ?_
  rintro e' _ ⟨rfl, rfl⟩
  go_wp2_with fail
  go_ret
  exact ⟨rfl, HB12.out⟩
end Go.Proofs.Ytpidcbbpcgbfiaa
