/- The program's BestPlan. -/
import Derived.Test.YtbhofhobnbhhhaaDoorBpPn
import Derived.Test.YtbhofhobnbhhhaaDoorBcPb
namespace Go.Proofs.YtbhofhobnbhhhaaDoor
open Go.RowKit
set_option linter.unusedVariables false

set_option maxRecDepth 100000 in
set_option maxHeartbeats 4000000 in
theorem implBp_any (w0 h0 : Int) (A : Option Addr) (n c B : Nat) (l : List Kd) (C : Int) (w : World) (htab : Lib.TabIs Tryd.prog w "internal/strconv.uint64pow10" .u64 Lib.pow10Tab) (h : RdS Kd.S w B A n l) (hB : B ≤ w.heap.size) (hn : n ≤ 1048577) (hc : n ≤ c) (b1 : Bc.i64 w0) (b2 : Bc.i64 h0) (hC : Bc.code w0 h0 l = C) :
    Calls Tryd.prog 13 #[.int .i64 w0, .int .i64 h0, .slice A n c] w fun e w' => StrC (Bc.BpR w0 h0 l) C w e w' := by
  have hco := checkCut_any w0 h0 A n c B l C w h hB hn hc hC
  have hgp := tabIs_lt htab gPow
  clear b1 b2
  by_cases hc0 : C = 0
  · subst hc0
    obtain ⟨hok, hos⟩ := Bc.code0 hC
    have HC := Lib.hid hC
    have hs := Bc.okS_iff.1 hos
    obtain ⟨W, rfl⟩ : ∃ W : Nat, w0 = (W : Int) := ⟨w0.toNat, by omega⟩
    obtain ⟨H, rfl⟩ : ∃ H : Nat, h0 = (H : Int) := ⟨h0.toNat, by omega⟩
    have hs' : (1 ≤ W ∧ W ≤ 40) ∧ (1 ≤ H ∧ H ≤ 40) := by omega
    have HOK := Lib.hid hok
    clear hC hok hos hs
    go_enter Tryd.func13, Tryd.ntmps13
    go_wp2_with fail
    refine hco.mono ?_
    rintro e w1 ⟨rfl, hb1⟩
    have z1 := hb1.size
    clear hco
    have BX := Lib.hid (Blk.new (w := w1) (g := w1.heap.size) #[.int .i64 (W : Int), .int .i64 (H : Int)] 67 rfl)
    have HB1 := Lib.hid (hb1.trans ((below_new9 w1 (.cells #[.int .i64 (W : Int), .int .i64 (H : Int)] 67)).mono z1))
    have zA : (w1.alloc (.cells #[.int .i64 (W : Int), .int .i64 (H : Int)] 67)).heap.size = w1.heap.size + 1 := by simp
    go_wp2_with fail
    generalize w1.alloc (.cells #[.int .i64 (W : Int), .int .i64 (H : Int)] 67) = w2 at BX HB1 zA ⊢
    have hus := usages_un A n c B l W H w2.drew (h.below (below_drewN' HB1.out 1) hB) (by show B ≤ w2.heap.size; omega) HOK.out hs'.1 hs'.2
    have x0 := BX.out.cell 0 (v := .int .i64 (W : Int)) rfl
    have x1 := BX.out.cell 1 (v := .int .i64 (H : Int)) rfl
    have l1 : w1.heap.size < w2.heap.size := by omega
    have hD2 : Below w.heap.size w w2.drew := below_drewN' HB1.out 1
    have z2 : w.heap.size ≤ w2.heap.size := by omega
    go_region_law (first
        | (go_simp; go_at_call 51; refine (plan_un (plan12_any G cs l W H HOK.out hU.out hs'.1.2 hs'.2.2 (W + H) W H _ (Nat.le_refl _) hs'.1.1 (Nat.le_refl _) hs'.2.1 (Nat.le_refl _) hT5.out ht5)).mono ?_; rintro e' w6 ⟨s, rfl, HP, hbkB⟩)
        | (go_simp; go_at_call 50; refine hus.mono ?_; rintro e' w5 ⟨G, cs, rfl, hT, hG, hU_, hbkA⟩; have hU := Lib.hid hU_; have hT5 := Lib.hid hT; have zG := szD12 hbkA; have hB5 := hD2.trans (hbkA.mono (show w.heap.size ≤ w2.drew.heap.size from z2)); have ht5 := tabIs_below htab hB5 gPow hgp; have y0 : w5.cell? ⟨w1.heap.size, 0, none⟩ = some (.int .i64 (W : Int)) := (hbkA.cell (by exact l1)).trans x0; have y1 : w5.cell? ⟨w1.heap.size, 1, none⟩ = some (.int .i64 (H : Int)) := (hbkA.cell (by exact l1)).trans x1; clear hT hU_))
    all_goals
      have HBF := Lib.hid (hB5.trans (hbkB.mono hB5.size))
      have HPF : Hid (Bc.BpR (W : Int) (H : Int) l s) := Lib.hid (.inl ⟨HC.out, HP⟩)
      clear hbkA hbkB hB5 HP hD2
      go_wp2_with fail
      go_ret2
      exact StrC.mk_ HPF.out rfl HBF.out
  · have hc0' : (C != 0) = true := by simpa using hc0
    have HPP : Hid (Bc.BpR w0 h0 l ⟨#[]⟩) := Lib.hid (.inr ⟨by rw [hC]; exact hc0, rfl⟩)
    clear hC
    go_enter Tryd.func13, Tryd.ntmps13
    go_wp2_with fail
    refine hco.mono ?_
    rintro e w1 ⟨rfl, hb1⟩
    go_wp2_with fail
    go_ret2
    exact StrC.mk_ HPP.out rfl hb1
end Go.Proofs.YtbhofhobnbhhhaaDoor
