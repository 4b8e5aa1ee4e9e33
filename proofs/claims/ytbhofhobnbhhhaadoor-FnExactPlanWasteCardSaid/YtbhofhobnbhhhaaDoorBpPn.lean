/- The program's best plan, out of its table. -/
import Derived.Test.YtbhofhobnbhhhaaDoorBpTs
import Derived.Test.YtbhofhobnbhhhaaDoorPxTx
namespace Go.Proofs.YtbhofhobnbhhhaaDoor
open Go.RowKit
set_option linter.unusedVariables false

/-- What the parts of a sheet are reckoned from: the sheet's box, and the cut in the table. -/
abbrev PlS (p g o : Nat) (W H : Nat) (ac : Bool) (t : Nat) (V : World) : Prop :=
  V.cell? ⟨p, 0, none⟩ = some (.int .i64 (W : Int)) ∧ V.cell? ⟨p, 1, none⟩ = some (.int .i64 (H : Int)) ∧ V.cell? ⟨g, o + 1, none⟩ = some (.int .i64 0) ∧ V.cell? ⟨g, o + 1 + 1, none⟩ = some (.bool ac) ∧ V.cell? ⟨g, o + 1 + 2, none⟩ = some (.int .i64 (t : Int))
section
variable {V V' w : World} {p g o W H t B : Nat} {ac : Bool}
theorem PlS.alloc (h : PlS p g o W H ac t V) (h1 : p < V.heap.size) (h2 : g < V.heap.size) (x : Obj) : PlS p g o W H ac t (V.alloc x) :=
  ⟨(World.cell?_alloc_lt V x _ h1).trans h.1, (World.cell?_alloc_lt V x _ h1).trans h.2.1, (World.cell?_alloc_lt V x _ h2).trans h.2.2.1, (World.cell?_alloc_lt V x _ h2).trans h.2.2.2.1, (World.cell?_alloc_lt V x _ h2).trans h.2.2.2.2⟩
theorem PlS.below (h : PlS p g o W H ac t V) (hb : Below B V V') (h1 : p < B) (h2 : g < B) : PlS p g o W H ac t V' :=
  ⟨(hb.cell h1).trans h.1, (hb.cell h1).trans h.2.1, (hb.cell h2).trans h.2.2.1, (hb.cell h2).trans h.2.2.2.1, (hb.cell h2).trans h.2.2.2.2⟩
theorem PlS.set (h : PlS p g o W H ac t V) (q i : Nat) (v : Value) (h1 : p ≠ q) (h2 : g ≠ q) : PlS p g o W H ac t (V.setCell ⟨q, i, none⟩ v) :=
  ⟨(cell_other9 h1).trans h.1, (cell_other9 h1).trans h.2.1, (cell_other9 h2).trans h.2.2.1, (cell_other9 h2).trans h.2.2.2.1, (cell_other9 h2).trans h.2.2.2.2⟩
end
/-- Behind it: two boxes with the two parts. -/
structure PlM (w : World) (G1 G2 : Nat) (a b c d : Nat) (V : World) : Prop where
  e1 : Blk V G1 #[.int .i64 (a : Int), .int .i64 (b : Int)] 67
  e2 : Blk V G2 #[.int .i64 (c : Int), .int .i64 (d : Int)] 67
  b : Below w.heap.size w V
theorem plan_un {f : FuncId} {a : Array Value} {R : List UInt8 → Prop} {w : World} (h : Calls Tryd.prog f a w fun e w' => StrP R w e w') : Calls Tryd.prog f a w fun e w' => ∃ s : ByteArray, e = .returned (.string s) ∧ R s.data.toList ∧ Below w.heap.size w w' := h
theorem Blk.two12 {V : World} {g : Nat} {ty : TypeId} {v v' v0 v1 : Value} (h : Blk V g #[v0, v1] ty) : Blk ((V.setCell ⟨g, 0, none⟩ v).setCell ⟨g, 1, none⟩ v') g #[v, v'] ty := (h.set 0 v).set 1 v'
theorem Blk.other12 {V : World} {g g' i : Nat} {v : Value} {cs : Array Value} {ty : TypeId} (h : Blk V g cs ty) (hne : g ≠ g') : Blk (V.setCell ⟨g', i, none⟩ v) g cs ty := h.other ⟨g', i, none⟩ v hne
theorem below_set12 {w V : World} {B g' i : Nat} {v : Value} (h : Below B w V) (hb : B ≤ g') : Below B w (V.setCell ⟨g', i, none⟩ v) := below_set9 h hb
theorem smallB {ks : List Kd} {W H : Nat} {s : ByteArray} (h : Bc.BP ks W H s.data.toList) (h1 : 1 ≤ W) (h2 : 1 ≤ H) (h3 : W ≤ 40) (h4 : H ≤ 40) : s.size ≤ 12800 := h.small h1 h2 h3 h4
theorem szlt12 {W : World} {a : Nat} (h : a < W.heap.size) : a < W.drew.heap.size := h
theorem szD12' (W : World) : W.heap.size ≤ W.drew.heap.size := Nat.le_refl _
theorem cut_bytes2 (c : UInt8) (x : Nat) (a b : ByteArray) : ((⟨#[c]⟩ : ByteArray) ++ dec x ++ ⟨#[40]⟩ ++ a ++ ⟨#[41]⟩ ++ ⟨#[40]⟩ ++ b ++ ⟨#[41]⟩).data.toList = Bc.cutL c x a.data.toList b.data.toList := by
  have e : (dec x).data.toList = Lib.decDigits x := rfl
  unfold Bc.cutL
  simp [e]
set_option maxRecDepth 100000 in
set_option maxHeartbeats 8000000 in
theorem plan12_any (g : Nat) (cs : Array Value) (l : List Kd) (SW SH : Nat) (hok : Bc.okL l = true) (hU : UsT l cs (SW + 1) 1 SH) (hSW : SW ≤ 40) (hSH : SH ≤ 40) : ∀ (f W H : Nat) (w : World), W + H ≤ f → 1 ≤ W → W ≤ SW → 1 ≤ H → H ≤ SH → Blk w g cs 110 → Lib.TabIs Tryd.prog w "internal/strconv.uint64pow10" .u64 Lib.pow10Tab →
    Calls Tryd.prog 51 #[.pointer (some ⟨g, 0, none⟩), .agg #[.int .i64 (W : Int), .int .i64 (H : Int)]] w fun e w' => StrP (Bc.BP l W H) w e w' := by
  intro f
  induction f with
  | zero => intro W H w h1 h2; omega
  | succ f ih =>
    intro W H w hf hw1 hw2 hh1 hh2 hT htab
    have IH := Lib.hid ih
    have HT := Lib.hid hT
    have HTAB := Lib.hid htab
    have hgl := hT.lt
    have hgp := tabIs_lt htab gPow
    obtain ⟨mk, ac, t, v, hu, u0, u1, u2, u3, u4⟩ := hU.2 W H hw1 hh1 hh2 (.inl (by omega))
    have HU := Lib.hid hu
    have hof := of12_any g W H (w.alloc (.cells #[.int .i64 (W : Int), .int .i64 (H : Int)] 67)) (by omega) (by omega)
    have BP0 := Lib.hid (Blk.new (w := w) (g := w.heap.size) #[.int .i64 (W : Int), .int .i64 (H : Int)] 67 rfl)
    have HB0 := Lib.hid (below_new9 w (.cells #[.int .i64 (W : Int), .int .i64 (H : Int)] 67))
    have zA : w.heap.size + 1 = (w.alloc (.cells #[.int .i64 (W : Int), .int .i64 (H : Int)] 67)).heap.size := by simp
    have U0 := Lib.hid u0
    have U1 := Lib.hid u1
    have U2 := Lib.hid u2
    have U3 := Lib.hid u3
    clear ih hT htab hu u0 u1 u2 u3 u4
    by_cases ht0 : t = 0
    · subst ht0
      have HP := Lib.hid HU.out.one
      go_enter Tryd.func51, Tryd.ntmps51
      go_wp2_with fail
      refine hof.mono ?_
      rintro e w1 ⟨rfl, hb1⟩
      have HB1 := Lib.hid (HB0.out.trans (hb1.mono (by omega)))
      have T1 := HT.out.below HB1.out hgl
      have c0 := T1.cell _ U0.out
      have c3 : w1.cell? ⟨g, W * 205 + H * 5 + 1 + 2, none⟩ = some (.int .i64 0) := T1.cell _ U3.out
      clear hb1 T1
      go_wp2_with fail
      go_ret
      exact StrP.mk_ HP.out HB1.out
    · have htB : ((t : Int) == 0) = false := by simpa using ht0
      have htI : ¬ (t : Int) = 0 := by omega
      cases ac
      · obtain ⟨⟨ht1, ht2⟩, HV⟩ := HU.out.ver ht0
        obtain ⟨m, hm⟩ : ∃ m, m + t = W := ⟨W - t, by omega⟩
        have hpa := fun V => partsV_any W H t m V ⟨hw1, by omega⟩ ⟨hh1, by omega⟩ ht1 ht2 hm
        obtain ⟨LT, hLT⟩ : ∃ d, (⟨#[124]⟩ : ByteArray) ++ dec t = d := ⟨_, rfl⟩
        have hLN := fun V hV => line_at 0 false (t : Int) LT V hV (by omega) (by omega) hLT
        have sD := dec_size 2 t (by omega) (by omega)
        have sL : LT.size ≤ 3 := by rw [← hLT, ByteArray.size_append]; show 1 + (dec t).size ≤ 3; omega
        have HLT := Lib.hid hLT
        have HVV := Lib.hid HV
        clear hLT HV sD
        go_enter Tryd.func51, Tryd.ntmps51
        go_wp2_with fail
        refine hof.mono ?_
        rintro e w1 ⟨rfl, hb1⟩
        have HB1 := Lib.hid (HB0.out.trans (hb1.mono (by omega)))
        have zB : w.heap.size + 1 ≤ w1.heap.size := by have := hb1.size; omega
        have T1 := HT.out.below HB1.out hgl
        have P1 := BP0.out.below hb1 (by omega)
        have p0 := P1.cell 0 (v := .int .i64 (W : Int)) rfl
        have p1 := P1.cell 1 (v := .int .i64 (H : Int)) rfl
        have c1 := T1.cell _ U1.out
        have c2 : w1.cell? ⟨g, W * 205 + H * 5 + 1 + 1, none⟩ = some (.bool false) := T1.cell _ U2.out
        have c3 : w1.cell? ⟨g, W * 205 + H * 5 + 1 + 2, none⟩ = some (.int .i64 (t : Int)) := T1.cell _ U3.out
        have HT1 := Lib.hid T1
        have HTAB1 := Lib.hid (tabIs_below HTAB.out HB1.out gPow hgp)
        clear hb1 T1 P1
        go_wp2_with fail
        rename_i K hK0
        have hP : ∀ (G1 G2 : Nat) (W1 : World), PlM w1 G1 G2 t H m H W1 → K { tmps := #[.pointer (some ⟨g, 0, none⟩), .agg #[.int .i64 (W : Int), .int .i64 (H : Int)], undef, .pointer (some ⟨w.heap.size, 0, none⟩), .string ⟨#[]⟩, .pointer (some ⟨g, W * 205 + H * 5, none⟩), .pointer (some ⟨G1, 0, none⟩), .pointer (some ⟨G2, 0, none⟩), .pointer (some ⟨g, 0, none⟩), .agg #[.int .i64 (W : Int), .int .i64 (H : Int)], .pointer (some ⟨g, W * 205 + H * 5, none⟩), .pointer (some ⟨g, W * 205 + H * 5, none⟩), .pointer (some ⟨g, W * 205 + H * 5, none⟩), .pointer (some ⟨g, W * 205 + H * 5 + 1, none⟩), .pointer (some ⟨g, W * 205 + H * 5 + 1 + 2, none⟩), .int .i64 (t : Int), .bool false, undef, undef, undef, undef, .tuple #[.agg #[.int .i64 (t : Int), .int .i64 (H : Int)], .agg #[.int .i64 (m : Int), .int .i64 (H : Int)]], .agg #[.int .i64 (W : Int), .int .i64 (H : Int)], .pointer (some ⟨g, W * 205 + H * 5, none⟩), .pointer (some ⟨g, W * 205 + H * 5, none⟩), .pointer (some ⟨g, W * 205 + H * 5 + 1, none⟩), .agg #[.int .i64 0, .bool false, .int .i64 (t : Int)], .tuple #[.agg #[.int .i64 (t : Int), .int .i64 (H : Int)], .agg #[.int .i64 (m : Int), .int .i64 (H : Int)]], .agg #[.int .i64 (t : Int), .int .i64 (H : Int)], .agg #[.int .i64 (m : Int), .int .i64 (H : Int)], undef, undef, undef, undef, undef, undef, undef, undef, undef, undef, undef, undef, undef, undef, undef, undef, undef], defers := [] } W1 := by
          intro G1 G2 W1 M
          apply hK0
          clear hK0 p0 p1 c1 c2 c3 hpa
          have hz1 := M.b.size
          have TW := HT1.out.below M.b (by omega)
          have HTW := Lib.hid TW
          have HTABW : Hid (Lib.TabIs Tryd.prog W1 "internal/strconv.uint64pow10" .u64 Lib.pow10Tab) := Lib.hid (tabIs_below HTAB1.out M.b gPow (by omega))
          have l1 := M.e1.lt
          have l2 := M.e2.lt
          have lg : g < W1.heap.size := by omega
          have lp : 3 < W1.heap.size := by omega
          have k1 := TW.cell _ U1.out
          have k2 : W1.cell? ⟨g, W * 205 + H * 5 + 1 + 1, none⟩ = some (.bool false) := TW.cell _ U2.out
          have k3 : W1.cell? ⟨g, W * 205 + H * 5 + 1 + 2, none⟩ = some (.int .i64 (t : Int)) := TW.cell _ U3.out
          have a0 := M.e1.cell 0 (v := .int .i64 (t : Int)) rfl
          have a1 := M.e1.cell 1 (v := .int .i64 (H : Int)) rfl
          have b0 := M.e2.cell 0 (v := .int .i64 (m : Int)) rfl
          have b1 := M.e2.cell 1 (v := .int .i64 (H : Int)) rfl
          have HBW := Lib.hid (HB1.out.trans (M.b.mono (by omega)))
          have hc1 := fun V (hV : Below W1.heap.size W1 V) => plan_un (IH.out t H V (by omega) (by omega) (by omega) (by omega) (by omega) (HTW.out.below hV lg) (tabIs_below HTABW.out hV gPow lp))
          have hc2 := fun V (hV : Below W1.heap.size W1 V) => plan_un (IH.out m H V (by omega) (by omega) (by omega) (by omega) (by omega) (HTW.out.below hV lg) (tabIs_below HTABW.out hV gPow lp))
          have hlt0 : Lib.TabIs Tryd.prog W1.drew "internal/strconv.uint64pow10" .u64 Lib.pow10Tab := tabIs_below HTABW.out (below_drewN' (Below.refl W1.heap.size W1) 1) gPow lp
          have x1 : 1 ≤ t := by omega
          have x2 : 1 ≤ H := by omega
          have x3 : t ≤ 40 := by omega
          have x4 : H ≤ 40 := by omega
          have y1 : 1 ≤ m := by omega
          have y2 : 1 ≤ H := by omega
          have y3 : m ≤ 40 := by omega
          have y4 : H ≤ 40 := by omega
          have hD1 : Below W1.heap.size W1 W1.drew := below_drewN' (Below.refl _ _) 1
          have q1 : ¬ 9223372036854775807 < LT.size + 1 := by omega
          clear M TW
          go_wp2_with fail
          go_region_held3 (fun V => V.cell? ⟨g, W * 205 + H * 5 + 1, none⟩ = some (.int .i64 0) ∧ V.cell? ⟨g, W * 205 + H * 5 + 1 + 1, none⟩ = some (.bool false) ∧ V.cell? ⟨g, W * 205 + H * 5 + 1 + 2, none⟩ = some (.int .i64 (t : Int)) ∧ V.cell? ⟨G1, 0, none⟩ = some (.int .i64 (t : Int)) ∧ V.cell? ⟨G1, 1, none⟩ = some (.int .i64 (H : Int)) ∧ V.cell? ⟨G2, 0, none⟩ = some (.int .i64 (m : Int)) ∧ V.cell? ⟨G2, 1, none⟩ = some (.int .i64 (H : Int)))
            (first | go_keep | (refine ⟨?_, ?_, ?_, ?_, ?_, ?_, ?_⟩ <;> (first | go_keep | (rw [hbk.cell (by first | omega | (simp; done) | (simp; omega))]; first | assumption | go_keep))))
            (first
              | (go_at_call 51; with_reducible refine (hc2 _ hV6).mono ?_; rintro e' w7 ⟨s2, rfl, HP2, hbk⟩; have hbk7 := hbk; have sS2 : s2.size ≤ 12800 := smallB HP2 y1 y2 y3 y4; have q6 : ¬ 9223372036854775807 < LT.size + 1 + s1.size + 1 + 1 + s2.size := (by omega); have q7 : ¬ 9223372036854775807 < LT.size + 1 + s1.size + 1 + 1 + s2.size + 1 := (by omega))
              | (go_at_call 79; with_reducible refine (hLN _ hlt0).mono ?_; rintro e' w5 ⟨rfl, hbk⟩; have hV5 := hD1.trans (hbk.mono (szD12' W1)); have z5 := szD12 hbk)
              | (go_at_call 51; with_reducible refine (hc1 _ hV5).mono ?_; rintro e' w6 ⟨s1, rfl, HP1, hbk⟩; have hV6 := hV5.trans (hbk.mono z5); have z6 : W1.heap.size ≤ w6.heap.size := Nat.le_trans z5 hbk.size; have sS1 : s1.size ≤ 12800 := smallB HP1 x1 x2 x3 x4; have q2 : ¬ 9223372036854775807 < LT.size + 1 + s1.size := (by omega); have q3 : ¬ 9223372036854775807 < LT.size + 1 + s1.size + 1 := (by omega); have q4 : ¬ 9223372036854775807 < LT.size + 1 + s1.size + 1 + 1 := (by omega)))
          have HBF := Lib.hid (HBW.out.trans ((hV6.trans (hbk7.mono z6)).mono HBW.out.size))
          have HPF : Hid (Bc.BP l W H (LT ++ ⟨#[40]⟩ ++ s1 ++ ⟨#[41]⟩ ++ ⟨#[40]⟩ ++ s2 ++ ⟨#[41]⟩).data.toList) := Lib.hid (by
            rw [← HLT.out, cut_bytes2]
            refine HVV.out _ _ HP1 ?_
            rw [show W - t = m by omega]
            exact HP2)
          clear hbk hbk7 hV5 hV6 HP1 HP2
          go_wp2_with fail
          go_ret
          exact StrP.mk_ HPF.out HBF.out
        clear hK0 hLN
        have hbA : Below w1.heap.size w1 w1.drew := below_drewN' (Below.refl _ _) 1
        have hbB : Below w1.heap.size w1 (w1.alloc (.cells #[.int .i64 0, .int .i64 0] 67)).drew := below_drewN' ((Below.refl _ _).alloc (Nat.le_refl _) _) 1
        have hbC : Below w1.heap.size w1 ((w1.alloc (.cells #[.int .i64 0, .int .i64 0] 67)).alloc (.cells #[.int .i64 0, .int .i64 0] 67)).drew := below_drewN' (((Below.refl _ _).alloc (Nat.le_refl _) _).alloc (by simp) _) 1
        have q1 : Blk (w1.alloc (.cells #[.int .i64 0, .int .i64 0] 67)).drew w1.heap.size #[.int .i64 0, .int .i64 0] 67 := Blk.new _ _ rfl
        have q2 : Blk ((w1.alloc (.cells #[.int .i64 0, .int .i64 0] 67)).alloc (.cells #[.int .i64 0, .int .i64 0] 67)).drew w1.heap.size #[.int .i64 0, .int .i64 0] 67 := Blk.alloc q1 _
        have q3 : Blk ((w1.alloc (.cells #[.int .i64 0, .int .i64 0] 67)).alloc (.cells #[.int .i64 0, .int .i64 0] 67)).drew (w1.heap.size + 1) #[.int .i64 0, .int .i64 0] 67 := Blk.new _ _ (by simp)
        have n12 : ¬ w1.heap.size = w1.heap.size + 1 := by omega
        have n21 : ¬ w1.heap.size + 1 = w1.heap.size := by omega
        have hgw : g < w1.heap.size := by omega
        have hpw : w.heap.size < w1.heap.size := by omega
        have hS0 : PlS w.heap.size g (W * 205 + H * 5) W H false t w1.drew := ⟨p0, p1, c1, c2, c3⟩
        have hS1 : PlS w.heap.size g (W * 205 + H * 5) W H false t (w1.alloc (.cells #[.int .i64 0, .int .i64 0] 67)).drew := PlS.alloc hS0 hpw hgw _
        have hS2 : PlS w.heap.size g (W * 205 + H * 5) W H false t ((w1.alloc (.cells #[.int .i64 0, .int .i64 0] 67)).alloc (.cells #[.int .i64 0, .int .i64 0] 67)).drew := PlS.alloc hS1 (by simp; omega) (by simp; omega) _
        go_region_held3 (fun V => PlS w.heap.size g (W * 205 + H * 5) W H false t V)
          (first | with_reducible exact hS0 | with_reducible exact hS1 | with_reducible exact hS2 | with_reducible exact hS5 | with_reducible exact hS6 _ | with_reducible exact hS7 _ _ | (focus ((repeat' (first | with_reducible assumption | with_reducible exact hS5 | with_reducible exact hS6 _ | with_reducible exact hS7 _ _ | (with_reducible refine PlS.set ?_ _ _ _ ?_ ?_) | (with_reducible refine PlS.alloc ?_ ?_ ?_ _) | omega | (simp; omega))); done)))
          (first
            | (go_at_call 78; with_reducible refine (hpa _).mono ?_; rintro e' w5 ⟨rfl, hbk⟩; have z5 : w1.heap.size ≤ w5.heap.size := (by have z5_ := hbk.size; simp at z5_; omega); have hb5 : Below w1.heap.size w1 w5 := (by first | with_reducible exact hbA.trans (hbk.mono hbA.size) | with_reducible exact hbB.trans (hbk.mono hbB.size) | with_reducible exact hbC.trans (hbk.mono hbC.size)); have hS5 : PlS w.heap.size g (W * 205 + H * 5) W H false t w5 := (by first | exact PlS.below hS0 hbk (szlt12 hpw) (szlt12 hgw) | exact PlS.below hS1 hbk (by simp; omega) (by simp; omega) | exact PlS.below hS2 hbk (by simp; omega) (by simp; omega)); have hS6 : ∀ o', PlS w.heap.size g (W * 205 + H * 5) W H false t (w5.alloc o') := (fun o' => PlS.alloc hS5 (by omega) (by omega) o'); have hS7 : ∀ o' o2, PlS w.heap.size g (W * 205 + H * 5) W H false t ((w5.alloc o').alloc o2) := (fun o' o2 => PlS.alloc (hS6 o') (by simp; omega) (by simp; omega) o2); (try have p1 : Blk w5 w1.heap.size #[.int .i64 0, .int .i64 0] 67 := (by first | with_reducible exact q1.below hbk q1.lt | with_reducible exact q2.below hbk q2.lt)); (try have p2 : Blk w5 (w1.heap.size + 1) #[.int .i64 0, .int .i64 0] 67 := (by with_reducible exact q3.below hbk q3.lt)); (try have pf0 : w5.frozen? ⟨w1.heap.size, 0, none⟩ = false := p1.free 0); (try have pf1 : w5.frozen? ⟨w1.heap.size, 1, none⟩ = false := p1.free 1); (try have pc0 : w5.cell? ⟨w1.heap.size, 0, none⟩ = some (.int .i64 0) := p1.cell 0 rfl); (try have pc1 : w5.cell? ⟨w1.heap.size, 1, none⟩ = some (.int .i64 0) := p1.cell 1 rfl); (try have qf0 : ∀ o', (w5.alloc o').frozen? ⟨w1.heap.size, 0, none⟩ = false := fun o' => (p1.alloc o').free 0); (try have qf1 : ∀ o', (w5.alloc o').frozen? ⟨w1.heap.size, 1, none⟩ = false := fun o' => (p1.alloc o').free 1); (try have qc0 : ∀ o', (w5.alloc o').cell? ⟨w1.heap.size, 0, none⟩ = some (.int .i64 0) := fun o' => (p1.alloc o').cell 0 rfl); (try have qc1 : ∀ o', (w5.alloc o').cell? ⟨w1.heap.size, 1, none⟩ = some (.int .i64 0) := fun o' => (p1.alloc o').cell 1 rfl); (try have rf0 : w5.frozen? ⟨w1.heap.size + 1, 0, none⟩ = false := p2.free 0); (try have rf1 : w5.frozen? ⟨w1.heap.size + 1, 1, none⟩ = false := p2.free 1); (try have rc0 : w5.cell? ⟨w1.heap.size + 1, 0, none⟩ = some (.int .i64 0) := p2.cell 0 rfl); (try have rc1 : w5.cell? ⟨w1.heap.size + 1, 1, none⟩ = some (.int .i64 0) := p2.cell 1 rfl); (try have pl1 := p1.lt); (try have pl2 := p2.lt); (try have pn1 : ¬ w5.heap.size = w1.heap.size := by omega); (try have pn2 : ¬ w1.heap.size = w5.heap.size := by omega); (try have pn3 : ¬ w5.heap.size = w1.heap.size + 1 := by omega); (try have pn4 : ¬ w1.heap.size + 1 = w5.heap.size := by omega)))
        all_goals
          refine hP _ _ _ ⟨?_, ?_, ?_⟩ <;> (focus ((repeat' (first | with_reducible assumption | (with_reducible refine Blk.two12 (v0 := .int .i64 0) (v1 := .int .i64 0) ?_) | (with_reducible refine Blk.other12 ?_ ?_) | exact Blk.new _ _ rfl | exact Blk.new _ _ (by simp) | (with_reducible refine Blk.alloc ?_ _) | (with_reducible refine below_set12 ?_ ?_) | (with_reducible refine Below.alloc ?_ ?_ _) | omega | (simp; omega))); done))
      · obtain ⟨⟨ht1, ht2⟩, HV⟩ := HU.out.hor ht0
        obtain ⟨m, hm⟩ : ∃ m, m + t = H := ⟨H - t, by omega⟩
        have hpa := fun V => partsH_any W H t m V ⟨hw1, by omega⟩ ⟨hh1, by omega⟩ ht1 ht2 hm
        obtain ⟨LT, hLT⟩ : ∃ d, (⟨#[45]⟩ : ByteArray) ++ dec t = d := ⟨_, rfl⟩
        have hLN := fun V hV => line_at 0 true (t : Int) LT V hV (by omega) (by omega) hLT
        have sD := dec_size 2 t (by omega) (by omega)
        have sL : LT.size ≤ 3 := by rw [← hLT, ByteArray.size_append]; show 1 + (dec t).size ≤ 3; omega
        have HLT := Lib.hid hLT
        have HVV := Lib.hid HV
        clear hLT HV sD
        go_enter Tryd.func51, Tryd.ntmps51
        go_wp2_with fail
        refine hof.mono ?_
        rintro e w1 ⟨rfl, hb1⟩
        have HB1 := Lib.hid (HB0.out.trans (hb1.mono (by omega)))
        have zB : w.heap.size + 1 ≤ w1.heap.size := by have := hb1.size; omega
        have T1 := HT.out.below HB1.out hgl
        have P1 := BP0.out.below hb1 (by omega)
        have p0 := P1.cell 0 (v := .int .i64 (W : Int)) rfl
        have p1 := P1.cell 1 (v := .int .i64 (H : Int)) rfl
        have c1 := T1.cell _ U1.out
        have c2 : w1.cell? ⟨g, W * 205 + H * 5 + 1 + 1, none⟩ = some (.bool true) := T1.cell _ U2.out
        have c3 : w1.cell? ⟨g, W * 205 + H * 5 + 1 + 2, none⟩ = some (.int .i64 (t : Int)) := T1.cell _ U3.out
        have HT1 := Lib.hid T1
        have HTAB1 := Lib.hid (tabIs_below HTAB.out HB1.out gPow hgp)
        clear hb1 T1 P1
        go_wp2_with fail
        rename_i K hK0
        have hP : ∀ (G1 G2 : Nat) (W1 : World), PlM w1 G1 G2 W t W m W1 → K { tmps := #[.pointer (some ⟨g, 0, none⟩), .agg #[.int .i64 (W : Int), .int .i64 (H : Int)], undef, .pointer (some ⟨w.heap.size, 0, none⟩), .string ⟨#[]⟩, .pointer (some ⟨g, W * 205 + H * 5, none⟩), .pointer (some ⟨G1, 0, none⟩), .pointer (some ⟨G2, 0, none⟩), .pointer (some ⟨g, 0, none⟩), .agg #[.int .i64 (W : Int), .int .i64 (H : Int)], .pointer (some ⟨g, W * 205 + H * 5, none⟩), .pointer (some ⟨g, W * 205 + H * 5, none⟩), .pointer (some ⟨g, W * 205 + H * 5, none⟩), .pointer (some ⟨g, W * 205 + H * 5 + 1, none⟩), .pointer (some ⟨g, W * 205 + H * 5 + 1 + 2, none⟩), .int .i64 (t : Int), .bool false, undef, undef, undef, undef, .tuple #[.agg #[.int .i64 (W : Int), .int .i64 (t : Int)], .agg #[.int .i64 (W : Int), .int .i64 (m : Int)]], .agg #[.int .i64 (W : Int), .int .i64 (H : Int)], .pointer (some ⟨g, W * 205 + H * 5, none⟩), .pointer (some ⟨g, W * 205 + H * 5, none⟩), .pointer (some ⟨g, W * 205 + H * 5 + 1, none⟩), .agg #[.int .i64 0, .bool true, .int .i64 (t : Int)], .tuple #[.agg #[.int .i64 (W : Int), .int .i64 (t : Int)], .agg #[.int .i64 (W : Int), .int .i64 (m : Int)]], .agg #[.int .i64 (W : Int), .int .i64 (t : Int)], .agg #[.int .i64 (W : Int), .int .i64 (m : Int)], undef, undef, undef, undef, undef, undef, undef, undef, undef, undef, undef, undef, undef, undef, undef, undef, undef], defers := [] } W1 := by
          intro G1 G2 W1 M
          apply hK0
          clear hK0 p0 p1 c1 c2 c3 hpa
          have hz1 := M.b.size
          have TW := HT1.out.below M.b (by omega)
          have HTW := Lib.hid TW
          have HTABW : Hid (Lib.TabIs Tryd.prog W1 "internal/strconv.uint64pow10" .u64 Lib.pow10Tab) := Lib.hid (tabIs_below HTAB1.out M.b gPow (by omega))
          have l1 := M.e1.lt
          have l2 := M.e2.lt
          have lg : g < W1.heap.size := by omega
          have lp : 3 < W1.heap.size := by omega
          have k1 := TW.cell _ U1.out
          have k2 : W1.cell? ⟨g, W * 205 + H * 5 + 1 + 1, none⟩ = some (.bool true) := TW.cell _ U2.out
          have k3 : W1.cell? ⟨g, W * 205 + H * 5 + 1 + 2, none⟩ = some (.int .i64 (t : Int)) := TW.cell _ U3.out
          have a0 := M.e1.cell 0 (v := .int .i64 (W : Int)) rfl
          have a1 := M.e1.cell 1 (v := .int .i64 (t : Int)) rfl
          have b0 := M.e2.cell 0 (v := .int .i64 (W : Int)) rfl
          have b1 := M.e2.cell 1 (v := .int .i64 (m : Int)) rfl
          have HBW := Lib.hid (HB1.out.trans (M.b.mono (by omega)))
          have hc1 := fun V (hV : Below W1.heap.size W1 V) => plan_un (IH.out W t V (by omega) (by omega) (by omega) (by omega) (by omega) (HTW.out.below hV lg) (tabIs_below HTABW.out hV gPow lp))
          have hc2 := fun V (hV : Below W1.heap.size W1 V) => plan_un (IH.out W m V (by omega) (by omega) (by omega) (by omega) (by omega) (HTW.out.below hV lg) (tabIs_below HTABW.out hV gPow lp))
          have hlt0 : Lib.TabIs Tryd.prog W1.drew "internal/strconv.uint64pow10" .u64 Lib.pow10Tab := tabIs_below HTABW.out (below_drewN' (Below.refl W1.heap.size W1) 1) gPow lp
          have x1 : 1 ≤ W := by omega
          have x2 : 1 ≤ t := by omega
          have x3 : W ≤ 40 := by omega
          have x4 : t ≤ 40 := by omega
          have y1 : 1 ≤ W := by omega
          have y2 : 1 ≤ m := by omega
          have y3 : W ≤ 40 := by omega
          have y4 : m ≤ 40 := by omega
          have hD1 : Below W1.heap.size W1 W1.drew := below_drewN' (Below.refl _ _) 1
          have q1 : ¬ 9223372036854775807 < LT.size + 1 := by omega
          clear M TW
          go_wp2_with fail
          go_region_held3 (fun V => V.cell? ⟨g, W * 205 + H * 5 + 1, none⟩ = some (.int .i64 0) ∧ V.cell? ⟨g, W * 205 + H * 5 + 1 + 1, none⟩ = some (.bool true) ∧ V.cell? ⟨g, W * 205 + H * 5 + 1 + 2, none⟩ = some (.int .i64 (t : Int)) ∧ V.cell? ⟨G1, 0, none⟩ = some (.int .i64 (W : Int)) ∧ V.cell? ⟨G1, 1, none⟩ = some (.int .i64 (t : Int)) ∧ V.cell? ⟨G2, 0, none⟩ = some (.int .i64 (W : Int)) ∧ V.cell? ⟨G2, 1, none⟩ = some (.int .i64 (m : Int)))
            (first | go_keep | (refine ⟨?_, ?_, ?_, ?_, ?_, ?_, ?_⟩ <;> (first | go_keep | (rw [hbk.cell (by first | omega | (simp; done) | (simp; omega))]; first | assumption | go_keep))))
            (first
              | (go_at_call 51; with_reducible refine (hc2 _ hV6).mono ?_; rintro e' w7 ⟨s2, rfl, HP2, hbk⟩; have hbk7 := hbk; have sS2 : s2.size ≤ 12800 := smallB HP2 y1 y2 y3 y4; have q6 : ¬ 9223372036854775807 < LT.size + 1 + s1.size + 1 + 1 + s2.size := (by omega); have q7 : ¬ 9223372036854775807 < LT.size + 1 + s1.size + 1 + 1 + s2.size + 1 := (by omega))
              | (go_at_call 79; with_reducible refine (hLN _ hlt0).mono ?_; rintro e' w5 ⟨rfl, hbk⟩; have hV5 := hD1.trans (hbk.mono (szD12' W1)); have z5 := szD12 hbk)
              | (go_at_call 51; with_reducible refine (hc1 _ hV5).mono ?_; rintro e' w6 ⟨s1, rfl, HP1, hbk⟩; have hV6 := hV5.trans (hbk.mono z5); have z6 : W1.heap.size ≤ w6.heap.size := Nat.le_trans z5 hbk.size; have sS1 : s1.size ≤ 12800 := smallB HP1 x1 x2 x3 x4; have q2 : ¬ 9223372036854775807 < LT.size + 1 + s1.size := (by omega); have q3 : ¬ 9223372036854775807 < LT.size + 1 + s1.size + 1 := (by omega); have q4 : ¬ 9223372036854775807 < LT.size + 1 + s1.size + 1 + 1 := (by omega)))
          have HBF := Lib.hid (HBW.out.trans ((hV6.trans (hbk7.mono z6)).mono HBW.out.size))
          have HPF : Hid (Bc.BP l W H (LT ++ ⟨#[40]⟩ ++ s1 ++ ⟨#[41]⟩ ++ ⟨#[40]⟩ ++ s2 ++ ⟨#[41]⟩).data.toList) := Lib.hid (by
            rw [← HLT.out, cut_bytes2]
            refine HVV.out _ _ HP1 ?_
            rw [show H - t = m by omega]
            exact HP2)
          clear hbk hbk7 hV5 hV6 HP1 HP2
          go_wp2_with fail
          go_ret
          exact StrP.mk_ HPF.out HBF.out
        clear hK0 hLN
        have hbA : Below w1.heap.size w1 w1.drew := below_drewN' (Below.refl _ _) 1
        have hbB : Below w1.heap.size w1 (w1.alloc (.cells #[.int .i64 0, .int .i64 0] 67)).drew := below_drewN' ((Below.refl _ _).alloc (Nat.le_refl _) _) 1
        have hbC : Below w1.heap.size w1 ((w1.alloc (.cells #[.int .i64 0, .int .i64 0] 67)).alloc (.cells #[.int .i64 0, .int .i64 0] 67)).drew := below_drewN' (((Below.refl _ _).alloc (Nat.le_refl _) _).alloc (by simp) _) 1
        have q1 : Blk (w1.alloc (.cells #[.int .i64 0, .int .i64 0] 67)).drew w1.heap.size #[.int .i64 0, .int .i64 0] 67 := Blk.new _ _ rfl
        have q2 : Blk ((w1.alloc (.cells #[.int .i64 0, .int .i64 0] 67)).alloc (.cells #[.int .i64 0, .int .i64 0] 67)).drew w1.heap.size #[.int .i64 0, .int .i64 0] 67 := Blk.alloc q1 _
        have q3 : Blk ((w1.alloc (.cells #[.int .i64 0, .int .i64 0] 67)).alloc (.cells #[.int .i64 0, .int .i64 0] 67)).drew (w1.heap.size + 1) #[.int .i64 0, .int .i64 0] 67 := Blk.new _ _ (by simp)
        have n12 : ¬ w1.heap.size = w1.heap.size + 1 := by omega
        have n21 : ¬ w1.heap.size + 1 = w1.heap.size := by omega
        have hgw : g < w1.heap.size := by omega
        have hpw : w.heap.size < w1.heap.size := by omega
        have hS0 : PlS w.heap.size g (W * 205 + H * 5) W H true t w1.drew := ⟨p0, p1, c1, c2, c3⟩
        have hS1 : PlS w.heap.size g (W * 205 + H * 5) W H true t (w1.alloc (.cells #[.int .i64 0, .int .i64 0] 67)).drew := PlS.alloc hS0 hpw hgw _
        have hS2 : PlS w.heap.size g (W * 205 + H * 5) W H true t ((w1.alloc (.cells #[.int .i64 0, .int .i64 0] 67)).alloc (.cells #[.int .i64 0, .int .i64 0] 67)).drew := PlS.alloc hS1 (by simp; omega) (by simp; omega) _
        go_region_held3 (fun V => PlS w.heap.size g (W * 205 + H * 5) W H true t V)
          (first | with_reducible exact hS0 | with_reducible exact hS1 | with_reducible exact hS2 | with_reducible exact hS5 | with_reducible exact hS6 _ | with_reducible exact hS7 _ _ | (focus ((repeat' (first | with_reducible assumption | with_reducible exact hS5 | with_reducible exact hS6 _ | with_reducible exact hS7 _ _ | (with_reducible refine PlS.set ?_ _ _ _ ?_ ?_) | (with_reducible refine PlS.alloc ?_ ?_ ?_ _) | omega | (simp; omega))); done)))
          (first
            | (go_at_call 78; with_reducible refine (hpa _).mono ?_; rintro e' w5 ⟨rfl, hbk⟩; have z5 : w1.heap.size ≤ w5.heap.size := (by have z5_ := hbk.size; simp at z5_; omega); have hb5 : Below w1.heap.size w1 w5 := (by first | with_reducible exact hbA.trans (hbk.mono hbA.size) | with_reducible exact hbB.trans (hbk.mono hbB.size) | with_reducible exact hbC.trans (hbk.mono hbC.size)); have hS5 : PlS w.heap.size g (W * 205 + H * 5) W H true t w5 := (by first | exact PlS.below hS0 hbk (szlt12 hpw) (szlt12 hgw) | exact PlS.below hS1 hbk (by simp; omega) (by simp; omega) | exact PlS.below hS2 hbk (by simp; omega) (by simp; omega)); have hS6 : ∀ o', PlS w.heap.size g (W * 205 + H * 5) W H true t (w5.alloc o') := (fun o' => PlS.alloc hS5 (by omega) (by omega) o'); have hS7 : ∀ o' o2, PlS w.heap.size g (W * 205 + H * 5) W H true t ((w5.alloc o').alloc o2) := (fun o' o2 => PlS.alloc (hS6 o') (by simp; omega) (by simp; omega) o2); (try have p1 : Blk w5 w1.heap.size #[.int .i64 0, .int .i64 0] 67 := (by first | with_reducible exact q1.below hbk q1.lt | with_reducible exact q2.below hbk q2.lt)); (try have p2 : Blk w5 (w1.heap.size + 1) #[.int .i64 0, .int .i64 0] 67 := (by with_reducible exact q3.below hbk q3.lt)); (try have pf0 : w5.frozen? ⟨w1.heap.size, 0, none⟩ = false := p1.free 0); (try have pf1 : w5.frozen? ⟨w1.heap.size, 1, none⟩ = false := p1.free 1); (try have pc0 : w5.cell? ⟨w1.heap.size, 0, none⟩ = some (.int .i64 0) := p1.cell 0 rfl); (try have pc1 : w5.cell? ⟨w1.heap.size, 1, none⟩ = some (.int .i64 0) := p1.cell 1 rfl); (try have qf0 : ∀ o', (w5.alloc o').frozen? ⟨w1.heap.size, 0, none⟩ = false := fun o' => (p1.alloc o').free 0); (try have qf1 : ∀ o', (w5.alloc o').frozen? ⟨w1.heap.size, 1, none⟩ = false := fun o' => (p1.alloc o').free 1); (try have qc0 : ∀ o', (w5.alloc o').cell? ⟨w1.heap.size, 0, none⟩ = some (.int .i64 0) := fun o' => (p1.alloc o').cell 0 rfl); (try have qc1 : ∀ o', (w5.alloc o').cell? ⟨w1.heap.size, 1, none⟩ = some (.int .i64 0) := fun o' => (p1.alloc o').cell 1 rfl); (try have rf0 : w5.frozen? ⟨w1.heap.size + 1, 0, none⟩ = false := p2.free 0); (try have rf1 : w5.frozen? ⟨w1.heap.size + 1, 1, none⟩ = false := p2.free 1); (try have rc0 : w5.cell? ⟨w1.heap.size + 1, 0, none⟩ = some (.int .i64 0) := p2.cell 0 rfl); (try have rc1 : w5.cell? ⟨w1.heap.size + 1, 1, none⟩ = some (.int .i64 0) := p2.cell 1 rfl); (try have pl1 := p1.lt); (try have pl2 := p2.lt); (try have pn1 : ¬ w5.heap.size = w1.heap.size := by omega); (try have pn2 : ¬ w1.heap.size = w5.heap.size := by omega); (try have pn3 : ¬ w5.heap.size = w1.heap.size + 1 := by omega); (try have pn4 : ¬ w1.heap.size + 1 = w5.heap.size := by omega)))
        all_goals
          refine hP _ _ _ ⟨?_, ?_, ?_⟩ <;> (focus ((repeat' (first | with_reducible assumption | (with_reducible refine Blk.two12 (v0 := .int .i64 0) (v1 := .int .i64 0) ?_) | (with_reducible refine Blk.other12 ?_ ?_) | exact Blk.new _ _ rfl | exact Blk.new _ _ (by simp) | (with_reducible refine Blk.alloc ?_ _) | (with_reducible refine below_set12 ?_ ?_) | (with_reducible refine Below.alloc ?_ ?_ _) | omega | (simp; omega))); done))
end Go.Proofs.YtbhofhobnbhhhaaDoor
