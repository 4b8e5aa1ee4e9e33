/- Contract of the model's BestPlan. -/
import Derived.Test.YtbhofhobnbhhhaaDoorBcPn
namespace Go.Proofs.YtbhofhobnbhhhaaDoor
open Go.RowKit
set_option linter.unusedVariables false

/-- The text of the best plan of a sheet whose sides are whole numbers, or none. -/
def Bc.BpR (w h : Int) (l : List Kd) (s : ByteArray) : Prop := (Bc.code w h l = 0 ∧ Bc.BP l w.toNat h.toNat s.data.toList) ∨ (Bc.code w h l ≠ 0 ∧ s = ⟨#[]⟩)
theorem bytes_extB {a b : ByteArray} (h : a.data.toList = b.data.toList) : a = b := by
  obtain ⟨⟨x⟩⟩ := a
  obtain ⟨⟨y⟩⟩ := b
  simp at h
  rw [h]
theorem Bc.BpR.same {w h : Int} {l : List Kd} {s t : ByteArray} (hs : BpR w h l s) (ht : BpR w h l t) : s = t := by
  rcases hs with ⟨h0, h1⟩ | ⟨h0, h1⟩
  · rcases ht with ⟨_, h2⟩ | ⟨h3, _⟩
    · exact bytes_extB (h1.same h2)
    · exact absurd h0 h3
  · rcases ht with ⟨h3, _⟩ | ⟨_, h2⟩
    · exact absurd h3 h0
    · rw [h1, h2]
/-- A string of such a kind, and a code. -/
def StrC (P : ByteArray → Prop) (C : Int) (w : World) (e : Ending) (w' : World) : Prop := ∃ s : ByteArray, e = .returned (.tuple #[.string s, .int .i64 C]) ∧ P s ∧ Below w.heap.size w w'
theorem StrC.mk_ {P : ByteArray → Prop} {C C' : Int} {w w' : World} {s : ByteArray} (h : P s) (hC : C = C') (hb : Below w.heap.size w w') : StrC P C w (.returned (.tuple #[.string s, .int .i64 C'])) w' := by subst hC; exact ⟨s, rfl, h, hb⟩
theorem tabR_of {w : World} {lo hi W0 H0 c2 : Nat} {A2 : Option Addr} {l : List Kd} {hs : List HB} (ho : Own HB.v w lo hi 37 (.slice A2 (W0 + 1) c2) hs) (hr : TbR w lo hi l H0 (W0 + 1) hs) : TabR w hi A2 W0 H0 l := by
  intro j k hj hk
  obtain ⟨g0, ⟨qa, qn, qc⟩, rfl, _, hg, _, hq, cq, _⟩ := ho.at_ (k := j) (by omega)
  have o1 : Own I w lo hi 2 (.slice qa qn qc) (Bc.tRow l j (H0 + 1)) := hr j _ (by omega) hq
  obtain rfl : qn = H0 + 1 := by have h1 := o1.rd.1; rw [Bc.tRow_len] at h1; exact h1.symm
  obtain ⟨g1, v, rfl, _, hg1, _, hv, cv, _⟩ := o1.at_ (k := k) (by omega)
  rw [Bc.tRow_at (by omega)] at hv
  injection hv with hv
  subst hv
  refine ⟨g0, 0, qc, g1, 0, rfl, hg, hg1, ?_, ?_⟩
  · rw [Nat.zero_add]; exact cq
  · rw [Nat.zero_add]; exact cv
set_option maxRecDepth 100000 in
set_option maxHeartbeats 4000000 in
theorem specBp_any (w0 h0 : Int) (A : Option Addr) (n c B : Nat) (l : List Kd) (C : Int) (w : World) (h : RdS Kd.S w B A n l) (hB : B ≤ w.heap.size) (hn : n ≤ 1048577) (hC : Bc.code w0 h0 l = C) :
    Calls Tryd.prog 14 #[.int .i64 w0, .int .i64 h0, .slice A n c] w fun e w' => StrC (Bc.BpR w0 h0 l) C w e w' := by
  have hco := specKc_any w0 h0 A n c B l C w h hB hn hC
  by_cases hc0 : C = 0
  · subst hc0
    obtain ⟨hok, hos⟩ := Bc.code0 hC
    have hs := Bc.okS_iff.1 hos
    have HC := Lib.hid hC
    obtain ⟨W, rfl⟩ : ∃ W : Nat, w0 = (W : Int) := ⟨w0.toNat, by omega⟩
    obtain ⟨H, rfl⟩ : ∃ H : Nat, h0 = (H : Int) := ⟨h0.toNat, by omega⟩
    have htb := fun W' (hW' : RdS Kd.S W' B A n l) (hz : B ≤ W'.heap.size) => specTb_any W H A n c B l W' hW' hz hok (by omega) (by omega)
    have hs' : (1 ≤ W ∧ W ≤ 40) ∧ (1 ≤ H ∧ H ≤ 40) := by omega
    have HOK := Lib.hid hok
    clear hC hok hos hs
    go_enter Tryd.func14, Tryd.ntmps14
    go_wp2_with fail
    refine hco.mono ?_
    rintro e w1 ⟨rfl, hb1⟩
    have z1 := hb1.size
    clear hco
    go_wp2_with fail
    refine (htb _ (h.below hb1 hB) (by omega)).mono ?_
    rintro e w2 ⟨A2, c2, hs2, rfl, ho, hr, hb2⟩
    have z2 := hb2.size
    have HB := Lib.hid (hb1.trans (hb2.mono z1))
    have htab := tabR_of ho hr
    have hB2 : B ≤ w2.heap.size := by omega
    have hrd := (h.below HB.out hB).more (B' := w2.heap.size) hB2
    have hpn := specPn_any W H A2 c2 A n c w2.heap.size l HOK.out (by omega) (by omega) (W + H) W H w2 (Nat.le_refl _) (by omega) (Nat.le_refl _) (by omega) (Nat.le_refl _) hrd (Nat.le_refl _) htab
    clear ho hr hb2 htb htab hrd
    go_wp2_with fail
    refine hpn.mono ?_
    rintro e w3 ⟨s, rfl, HP, hb3⟩
    have HPP : Hid (Bc.BpR (W : Int) (H : Int) l s) := Lib.hid (.inl ⟨HC.out, HP⟩)
    have HB3 := Lib.hid (HB.out.trans (hb3.mono (Nat.le_trans z1 z2)))
    clear hpn HP hb3
    go_wp2_with fail
    go_ret2
    exact StrC.mk_ HPP.out rfl HB3.out
  · have hc0' : (C == 0) = false := by simpa using hc0
    have HPP : Hid (Bc.BpR w0 h0 l ⟨#[]⟩) := Lib.hid (.inr ⟨by rw [hC]; exact hc0, rfl⟩)
    clear hC
    go_enter Tryd.func14, Tryd.ntmps14
    go_wp2_with fail
    refine hco.mono ?_
    rintro e w1 ⟨rfl, hb1⟩
    go_wp2_with fail
    go_ret2
    exact StrC.mk_ HPP.out rfl hb1
end Go.Proofs.YtbhofhobnbhhhaaDoor
