/- The walk of the exact law of CanCut, out of the contracts. -/
import Derived.Test.YtpidcbbpcgbfiaaPcLw
import Derived.Test.YtpidcbbpcgbfiaaCtLw
import Derived.Test.YtpidcbbpcgbfiaaGuMc
import Derived.Test.YtpidcbbpcgbfiaaLw9
import Derived.Deep.RegionHeld3
namespace Go.Proofs.Ytpidcbbpcgbfiaa
open Go.RowKit
set_option linter.unusedVariables false

set_option maxRecDepth 100000 in
set_option maxHeartbeats 8000000 in
theorem w_FnExactCanCut (A : Option Addr) (n c : Nat) (l : List Pc) (x : Ct) (w : World) (ha : RdS Pc.S w w.heap.size A n l) (hm : n ≤ 9223372036854775807) :
    Calls Try.prog 4 #[.slice A n c, x.agg] w fun e w' => e = .returned (.bool true) ∧ Below w.heap.size w w' := by
  by_cases hs : 1048576 < n
  · have B0_0 := Lib.hid (Blk.new (w := w) (g := w.heap.size) #[.int .i64 x.i, .bool x.a, .int .i64 x.t] 30 (by simp))
    have HB0 := Lib.hid ((Below.refl w.heap.size w).alloc (by simp) (.cells #[.int .i64 x.i, .bool x.a, .int .i64 x.t] 30))
    have z0 : w.heap.size + 1 = (w.alloc (.cells #[.int .i64 x.i, .bool x.a, .int .i64 x.t] 30)).heap.size := by simp
    go_enter Try.func4, Try.ntmps4
    go_wp2_with fail
    refine (szPieceS_no A n c _ hs hm).mono ?_
    rintro e' _ ⟨rfl, rfl⟩
    go_wp2_with fail
    go_ret
    exact ⟨rfl, HB0.out⟩
  have hn : n ≤ 1048576 := by omega
  have hq0 : ¬ (1048576 - (n : Int) < 0) := by omega
  obtain ⟨v, hv⟩ : ∃ v, Gu.ccB l x = v := ⟨_, rfl⟩
  have Hv := Lib.hid hv
  clear hv
  have B0_0 := Lib.hid (Blk.new (w := w) (g := w.heap.size) #[.int .i64 x.i, .bool x.a, .int .i64 x.t] 30 (by simp))
  have HB0 := Lib.hid ((Below.refl w.heap.size w).alloc (by simp) (.cells #[.int .i64 x.i, .bool x.a, .int .i64 x.t] 30))
  have z0 : w.heap.size + 1 = (w.alloc (.cells #[.int .i64 x.i, .bool x.a, .int .i64 x.t] 30)).heap.size := by simp
  have R0_a := (RdS.alloc ha (by first | exact Nat.le_refl _ | (simp; done) | (simp; omega)) (.cells #[.int .i64 x.i, .bool x.a, .int .i64 x.t] 30))
  go_enter Try.func4, Try.ntmps4
  go_wp2_with fail
  refine (szPieceS_yes A n c _ hn).mono ?_
  rintro e' _ ⟨rfl, rfl⟩
  go_wp2_with fail
  have RD0 : RdS Pc.S (w.alloc (.cells #[.int .i64 x.i, .bool x.a, .int .i64 x.t] 30)).drew w.heap.size A n l := R0_a
  have hzD0 : w.heap.size ≤ (w.alloc (.cells #[.int .i64 x.i, .bool x.a, .int .i64 x.t] 30)).drew.heap.size := (by omega : w.heap.size ≤ (w.alloc (.cells #[.int .i64 x.i, .bool x.a, .int .i64 x.t] 30)).heap.size)
  go_region_held3 (fun V => V.cell? ⟨w.heap.size, 0, none⟩ = some (.int .i64 x.i) ∧ V.cell? ⟨w.heap.size, 1, none⟩ = some (.bool x.a) ∧ V.cell? ⟨w.heap.size, 2, none⟩ = some (.int .i64 x.t))
    (first | go_keep | (refine ⟨?_, ?_, ?_⟩ <;> (first | go_keep | (rw [hbk.cell (by first | omega | (simp; done) | (simp; omega))]; first | assumption | go_keep))))
    (first
      | (go_at_call 14; with_reducible refine (specCc_any (some ⟨g1, 0, none⟩) n n w1.heap.size l x.i x.a x.t v _ o2.rd z2_ (by omega) Hv.out).mono ?_; rintro e' w3 ⟨rfl, hbk⟩; have hbk3 := hbk)
      | (go_at_call 16; with_reducible refine (toCut_any x _).mono ?_; rintro e' w2 ⟨rfl, hbk⟩; have hbk2 := hbk; have z2_ := hbk.size; have o2 := o1_.below hbk (Nat.le_refl _))
      | (go_at_call 15; with_reducible refine (toPieceS_any A n c w.heap.size l _ RD0 hzD0 hn).mono ?_; rintro e' w1 ⟨g1, rfl, o1_, hbk⟩; have hbk1 := hbk; have z1_ := sz_drew9 hbk))
  have hbq3 : Below (w.alloc (.cells #[.int .i64 x.i, .bool x.a, .int .i64 x.t] 30)).heap.size (w.alloc (.cells #[.int .i64 x.i, .bool x.a, .int .i64 x.t] 30)) w3 := (below_drewN' (Below.refl _ (w.alloc (.cells #[.int .i64 x.i, .bool x.a, .int .i64 x.t] 30))) 1).trans ((hbk1.mono (show (w.alloc (.cells #[.int .i64 x.i, .bool x.a, .int .i64 x.t] 30)).heap.size ≤ (w.alloc (.cells #[.int .i64 x.i, .bool x.a, .int .i64 x.t] 30)).drew.heap.size from Nat.le_refl _)).trans ((hbk2.mono z1_).trans (hbk3.mono (Nat.le_trans z1_ z2_))))
  have hz_2 : (w.alloc (.cells #[.int .i64 x.i, .bool x.a, .int .i64 x.t] 30)).heap.size ≤ w2.heap.size := Nat.le_trans z1_ z2_
  have hz_3 : w2.heap.size ≤ w3.heap.size := hbk3.size
  clear o1_ o2 hbk hbk1 hbk2 hbk3 RD0
  have z3 : (w.alloc (.cells #[.int .i64 x.i, .bool x.a, .int .i64 x.t] 30)).heap.size ≤ w3.heap.size := hbq3.size
  have HB3 := Lib.hid (HB0.out.trans (hbq3.mono (by omega)))
  have B3_0 := Lib.hid (B0_0.out.below hbq3 B0_0.out.lt)
  have R3_a := R0_a.below hbq3 (by omega)
  clear R0_a
  have c3_0_0 := B3_0.out.cell 0 (v := .int .i64 x.i) rfl
  have c3_0_1 := B3_0.out.cell 1 (v := .bool x.a) rfl
  have c3_0_2 := B3_0.out.cell 2 (v := .int .i64 x.t) rfl
  clear hbq3
  go_wp2_with fail
  refine (toPieceS_any A n c w.heap.size l _ R3_a (by omega) hn).mono ?_
  rintro e' w4 ⟨g4, rfl, o4, hb4⟩
  have z4 : w3.heap.size ≤ w4.heap.size := hb4.size
  have HB4 := Lib.hid (HB3.out.trans (hb4.mono (by omega)))
  have B4_0 := Lib.hid (B3_0.out.below hb4 B3_0.out.lt)
  have R4_a := R3_a.below hb4 (by omega)
  clear R3_a
  clear c3_0_0 c3_0_1 c3_0_2
  have c4_0_0 := B4_0.out.cell 0 (v := .int .i64 x.i) rfl
  have c4_0_1 := B4_0.out.cell 1 (v := .bool x.a) rfl
  have c4_0_2 := B4_0.out.cell 2 (v := .int .i64 x.t) rfl
  have O4_x := o4
  clear hb4 o4
  go_wp2_with fail
  refine (toCut_any x _).mono ?_
  rintro e' w5 ⟨rfl, hb5⟩
  have z5 : w4.heap.size ≤ w5.heap.size := hb5.size
  have HB5 := Lib.hid (HB4.out.trans (hb5.mono (by omega)))
  have B5_0 := Lib.hid (B4_0.out.below hb5 B4_0.out.lt)
  have R5_a := R4_a.below hb5 (by omega)
  have O5_x := O4_x.below hb5 (by omega)
  clear R4_a O4_x
  clear c4_0_0 c4_0_1 c4_0_2
  have c5_0_0 := B5_0.out.cell 0 (v := .int .i64 x.i) rfl
  have c5_0_1 := B5_0.out.cell 1 (v := .bool x.a) rfl
  have c5_0_2 := B5_0.out.cell 2 (v := .int .i64 x.t) rfl
  clear hb5
  go_wp2_with fail
  refine (implCc_any g4 0 n n w4.heap.size l x.i x.a x.t v _ O5_x.rd (by omega) (by omega) Hv.out).mono ?_
  rintro e' w6 ⟨rfl, hb6⟩
  have z6 : w5.heap.size ≤ w6.heap.size := hb6.size
  have HB6 := Lib.hid (HB5.out.trans (hb6.mono (by omega)))
  have B6_0 := Lib.hid (B5_0.out.below hb6 B5_0.out.lt)
  have R6_a := R5_a.below hb6 (by omega)
  have O6_x := O5_x.below hb6 (by omega)
  clear R5_a O5_x
  clear c5_0_0 c5_0_1 c5_0_2
  have c6_0_0 := B6_0.out.cell 0 (v := .int .i64 x.i) rfl
  have c6_0_1 := B6_0.out.cell 1 (v := .bool x.a) rfl
  have c6_0_2 := B6_0.out.cell 2 (v := .int .i64 x.t) rfl
  clear hb6
  cases v
  all_goals
    go_wp2_with fail
    refine (toPieceS_any A n c w.heap.size l _ R6_a (by omega) hn).mono ?_
    rintro e' w7 ⟨g7, rfl, o7, hb7⟩
    have z7 : w6.heap.size ≤ w7.heap.size := hb7.size
    have HB7 := Lib.hid (HB6.out.trans (hb7.mono (by omega)))
    have B7_0 := Lib.hid (B6_0.out.below hb7 B6_0.out.lt)
    have R7_a := R6_a.below hb7 (by omega)
    have O7_x := O6_x.below hb7 (by omega)
    clear R6_a O6_x
    clear c6_0_0 c6_0_1 c6_0_2
    have c7_0_0 := B7_0.out.cell 0 (v := .int .i64 x.i) rfl
    have c7_0_1 := B7_0.out.cell 1 (v := .bool x.a) rfl
    have c7_0_2 := B7_0.out.cell 2 (v := .int .i64 x.t) rfl
    have O7_y := o7
    clear hb7 o7
    go_wp2_with fail
    refine (eqPieceS_true _ _ _ _ _ _ _ l _ O7_x.rd O7_y.rd (by omega) (by omega) hn).mono ?_
    rintro e' w8 ⟨rfl, hb8⟩
    have z8 : w7.heap.size ≤ w8.heap.size := hb8.size
    have HB8 := Lib.hid (HB7.out.trans (hb8.mono (by omega)))
    have B8_0 := Lib.hid (B7_0.out.below hb8 B7_0.out.lt)
    have R8_a := R7_a.below hb8 (by omega)
    have O8_x := O7_x.below hb8 (by omega)
    have O8_y := O7_y.below hb8 (by omega)
    clear R7_a O7_x O7_y
    clear c7_0_0 c7_0_1 c7_0_2
    have c8_0_0 := B8_0.out.cell 0 (v := .int .i64 x.i) rfl
    have c8_0_1 := B8_0.out.cell 1 (v := .bool x.a) rfl
    have c8_0_2 := B8_0.out.cell 2 (v := .int .i64 x.t) rfl
    clear hb8
    go_wp2_with fail
    go_ret
    exact ⟨rfl, HB8.out⟩
end Go.Proofs.Ytpidcbbpcgbfiaa
