/- Contract of the model's BestValue. -/
import Derived.Test.YtbhofhobnbhhhaaDoorBcTb
namespace Go.Proofs.YtbhofhobnbhhhaaDoor
open Go.RowKit
set_option linter.unusedVariables false

/-- The best value of a sheet whose sides are whole numbers. -/
def Bc.bvR (w h : Int) (l : List Kd) : Int := if Bc.code w h l = 0 then Bc.V l w.toNat h.toNat else 0
set_option maxRecDepth 100000 in
set_option maxHeartbeats 4000000 in
theorem specBv_any (w0 h0 : Int) (A : Option Addr) (n c B : Nat) (l : List Kd) (R C : Int) (w : World) (h : RdS Kd.S w B A n l) (hB : B ≤ w.heap.size) (hn : n ≤ 1048577) (hR : Bc.bvR w0 h0 l = R) (hC : Bc.code w0 h0 l = C) :
    Calls Tryd.prog 16 #[.int .i64 w0, .int .i64 h0, .slice A n c] w fun e w' => e = .returned (.tuple #[.int .i64 R, .int .i64 C]) ∧ Below w.heap.size w w' := by
  have hco := specKc_any w0 h0 A n c B l C w h hB hn hC
  by_cases hc0 : C = 0
  · subst hc0
    obtain ⟨hok, hos⟩ := Bc.code0 hC
    have hs := Bc.okS_iff.1 hos
    obtain ⟨W, rfl⟩ : ∃ W : Nat, w0 = (W : Int) := ⟨w0.toNat, by omega⟩
    obtain ⟨H, rfl⟩ : ∃ H : Nat, h0 = (H : Int) := ⟨h0.toNat, by omega⟩
    have HR : Hid (Bc.V l W H = R) := Lib.hid (by rw [← hR]; unfold Bc.bvR; rw [if_pos hC]; rfl)
    have htb := fun W' (hW' : RdS Kd.S W' B A n l) (hz : B ≤ W'.heap.size) => specTb_any W H A n c B l W' hW' hz hok (by omega) (by omega)
    have hs' : (1 ≤ W ∧ W ≤ 40) ∧ (1 ≤ H ∧ H ≤ 40) := by omega
    clear hR hC hok hos hs
    go_enter Tryd.func16, Tryd.ntmps16
    go_wp2_with fail
    refine hco.mono ?_
    rintro e w1 ⟨rfl, hb1⟩
    have z1 := hb1.size
    clear hco
    go_wp2_with fail
    refine (htb _ (h.below hb1 hB) (by omega)).mono ?_
    rintro e w2 ⟨A2, c2, hs2, rfl, ho, hr, hb2⟩
    obtain ⟨g0, ⟨qa, qn, qc⟩, rfl, _, _, _, hq, cq, _⟩ := ho.at_ (k := W) (by omega)
    have cw : w2.cell? ⟨g0, W, none⟩ = some (.slice qa qn qc) := cq
    have o1 : Own I w2 w1.heap.size w2.heap.size 2 (.slice qa qn qc) (Bc.tRow l W (H + 1)) := hr W _ (by omega) hq
    obtain rfl : qn = H + 1 := by have h1 := o1.rd.1; rw [Bc.tRow_len] at h1; exact h1.symm
    obtain ⟨g1, v, rfl, _, _, _, hv, cv, _⟩ := o1.at_ (k := H) (by omega)
    rw [Bc.tRow_at (by omega), HR.out] at hv
    injection hv with hv
    subst hv
    have x1 : (W : Int) < ((W + 1 : Nat) : Int) := by omega
    have x2 : (H : Int) < ((H + 1 : Nat) : Int) := by omega
    have x3 : (W : Int) < (W : Int) + 1 := by omega
    have x4 : (H : Int) < (H : Int) + 1 := by omega
    have HB := Lib.hid (hb1.trans (hb2.mono z1))
    clear ho hr hq cq o1 hb2 htb
    go_wp2_with fail
    go_ret2
    exact ⟨rfl, HB.out⟩
  · have hc0' : (C == 0) = false := by simpa using hc0
    obtain rfl : R = 0 := by rw [← hR]; unfold Bc.bvR; rw [hC, if_neg hc0]
    clear hR hC
    go_enter Tryd.func16, Tryd.ntmps16
    go_wp2_with fail
    refine hco.mono ?_
    rintro e w1 ⟨rfl, hb1⟩
    go_wp2_with fail
    go_ret2
    exact ⟨rfl, hb1⟩
end Go.Proofs.YtbhofhobnbhhhaaDoor
