/- Contract of the model's ReadProgram. -/
import Derived.Test.YtbhofhobnbhhhaaDoorCtR
import Derived.Test.YtbhofhobnbhhhaaDoorRpNum
import Derived.Test.YtbhofhobnbhhhaaDoorPxSp
import Derived.Deep.RegionHeld3
import Derived.OwnWalk
namespace Go.Proofs.YtbhofhobnbhhhaaDoor
open Go.RowKit
set_option linter.unusedVariables false

set_option maxRecDepth 100000 in
set_option maxHeartbeats 8000000 in
theorem specRp_any (s : ByteArray) (w : World) (hs : s.size ≤ 1048576) :
    Calls Tryd.prog 43 #[.string s] w (RpE s w) := by
  by_cases h0 : s = ⟨#[]⟩
  · subst h0
    have HO := Lib.hid (OwnS.lit0 Ct.S w)
    have HB : Hid (Below w.heap.size w (w.alloc (.cells #[] 76))) := Lib.hid ((Below.refl _ _).alloc (Nat.le_refl _) _)
    go_enter Tryd.func43, Tryd.ntmps43
    go_wp2_with fail
    go_ret2
    exact RpE.mk_ (HO.out.mono (Nat.le_refl _) (by simp)) Px.RP.empty HB.out
  · have HS := Lib.hid h0
    have hne : (s.toList == []) = false := by
      rw [beq_eq_false_iff_ne, ByteArray.toList_eq]
      intro he
      exact h0 (Px.bytes_ext he)
    have HW : Hid (∀ g, Px.ptS g = s → spl 32 [] [] s.data.toList = g.map Px.ctS) := Lib.hid fun g hg => Px.of_words hg h0
    have hsp := fun V => l01Split_any s 32 V hs
    have hcnt := Px.spl_count 32 s
    have HPART : Hid (∀ (k : Nat) (x : ByteArray), (spl 32 [] [] s.data.toList)[k]? = some x → x.size ≤ s.size) := Lib.hid fun k x h => Px.spl_part h
    obtain ⟨W, hW⟩ : ∃ v, v = spl 32 [] [] s.data.toList := ⟨_, rfl⟩
    rw [← hW] at HW hsp hcnt HPART
    obtain ⟨m, hm⟩ : ∃ v, v = W.length := ⟨_, rfl⟩
    rw [← hm] at hcnt
    have HSP : Hid (∀ V, Calls Tryd.prog 70 #[.string s, .int .u8 32] V fun e w' => ∃ A c, e = .returned (.slice A m c) ∧ Own St w' V.heap.size w'.heap.size 9 (.slice A m c) W ∧ Below V.heap.size V w') := Lib.hid fun V => by
      rw [hm]
      exact hsp V
    have HMW := Lib.hid hm
    clear hW hm hsp h0
    have ho0 : OwnS Ct.S (w.alloc (.cells #[] 76)) w.heap.size (w.heap.size + 1) (.slice (some ⟨w.heap.size, 0, none⟩) 0 0) [] := OwnS.lit0 Ct.S w
    have hb0 : Below w.heap.size w (w.alloc (.cells #[] 76)) := (Below.refl _ _).alloc (Nat.le_refl _) _
    have hz0 : (w.alloc (.cells #[] 76)).heap.size = w.heap.size + 1 := by simp
    go_enter Tryd.func43, Tryd.ntmps43
    go_wp2_with fail
    refine (HSP.out _).mono ?_
    rintro e w1 ⟨A1, c1, rfl, ho1, hb1⟩
    have hz1 := hb1.size
    have hob := ho0.below hb1 (by omega)
    have hb01 := hb0.trans (hb1.mono (by omega))
    obtain ⟨gW, _, rfl, hg1, hg2, hg3, _, _, _⟩ := ho1.at_ (k := 0) (by omega)
    have HRD : Hid (∀ V : World, V.heap[gW]? = w1.heap[gW]? → ∀ k, k < m → ∃ x, W[k]? = some x ∧ V.cell? ⟨gW, k, none⟩ = some (.string x)) := Lib.hid fun V hV k hk => by
      obtain ⟨g', x, hg, _, _, _, hx, hc, _⟩ := ho1.at_ (k := k) hk
      injection hg with hg
      injection hg with hg _ _
      subst hg
      exact ⟨x, hx, (cell_same hV).trans hc⟩
    have HF0 : Hid (Far (.slice (some ⟨w.heap.size, 0, none⟩) 0 0) gW) := Lib.hid (Far.of_lt (by omega))
    clear ho0 ho1 hb0 hb1
    go_wp2_with fail
    go_loopw [4, 6] (fun v i wr => ∃ (k : Nat) (A2 : Option Addr) (c2 : Nat) (R : List Ct), k ≤ m ∧ i = .int .i64 k ∧ v = .slice A2 k c2 ∧ OwnS Ct.S wr w.heap.size wr.heap.size (.slice A2 k c2) R ∧ Hid (Px.Pre s R k) ∧ Hid (wr.heap[gW]? = w1.heap[gW]?) ∧ Hid (Far (.slice A2 k c2) gW) ∧ Below w.heap.size w wr ∧ w1.heap.size ≤ wr.heap.size) (fun _ i _ => m - (intOf i).toNat)
    case atStart => exact ⟨0, _, _, [], Nat.zero_le _, rfl, rfl, hob.mono (Nat.le_refl _) (by omega), Lib.hid (Px.Pre.zero s), Lib.hid rfl, HF0, hb01, Nat.le_refl _⟩
    case round =>
      clear hob hb01
      obtain ⟨k, A2, c2, R, hk, rfl, rfl, ho, HP, HGW, HFAR, hb, hz⟩ := hrel
      by_cases hlt : k < m
      · obtain ⟨x, hx, c0⟩ := HRD.out wr HGW.out k hlt
        have HX := Lib.hid hx
        have HXZ : Hid (x.size ≤ 1048576) := Lib.hid (by have := HPART.out k x hx; omega)
        clear hx
        go_wp2_with fail
        refine (l01Split_any x 45 _ HXZ.out).mono ?_
        rintro e w5 ⟨A5, c5, rfl, _, hb5⟩
        obtain ⟨r5, hr5e⟩ : ∃ v, v = (spl 45 [] [] x.data.toList).length := ⟨_, rfl⟩
        rw [← hr5e]
        have HR5 : Hid ((spl 45 [] [] x.data.toList).length = r5) := Lib.hid hr5e.symm
        clear hr5e
        have hz5 := hb5.size
        have hbb5 := hb.trans (hb5.mono (by omega))
        have h5 : w5.heap[gW]? = wr.heap[gW]? := hb5.block gW (by omega)
        have c5_ : w5.cell? ⟨gW, k, none⟩ = some (.string x) := (cell_same h5).trans c0
        have ho5r := ho.below hb5 (Nat.le_refl _)
        have hz5 : w.heap.size ≤ w5.heap.size := by omega
        clear ho c0
        by_cases hr5 : r5 = 2
        · have t5 : (r5 : Int) = 2 := by omega
          go_wp2_with fail
          refine (l01Split_any x 45 _ HXZ.out).mono ?_
          rintro e w6 ⟨A6, c6, rfl, ho6, hb6⟩
          obtain ⟨WL, hWL⟩ : ∃ v, v = spl 45 [] [] x.data.toList := ⟨_, rfl⟩
          rw [← hWL] at ho6 ⊢
          have HWL := Lib.hid hWL
          obtain ⟨r6, hr6⟩ : ∃ v, v = WL.length := ⟨_, rfl⟩
          have hr6z : r6 ≤ 1048577 := by have := (Px.spl_count 45 x).2; have hxz := HXZ.out; rw [← hWL] at this; omega
          rw [← hr6] at ho6 ⊢
          clear hWL hr6
          have hz6 := hb6.size
          have hbb6 := hbb5.trans (hb6.mono hz5)
          have h6 : w6.heap[gW]? = wr.heap[gW]? := (hb6.block gW (by omega)).trans h5
          have ho6r := ho5r.below hb6 (by omega)
          clear ho5r
          go_wp2_with fail
          refine (l01Numbers_any A6 r6 c6 w6.heap.size WL _ ho6.rd (Nat.le_refl _) hr6z).mono ?_
          rintro e w7 ⟨A7, n7, c7, b, NL, rfl, ho7, hN, hb7⟩
          have HN : Hid (Px.NumR (spl 45 [] [] x.data.toList) NL b) := Lib.hid (by rw [← HWL.out]; exact hN)
          clear hN
          have hz7 := hb7.size
          have hbb7 := hbb6.trans (hb7.mono (by omega))
          have h7 : w7.heap[gW]? = wr.heap[gW]? := (hb7.block gW (by omega)).trans h6
          have ho7r := ho6r.below hb7 (by omega)
          have hn7 : NL.length = n7 := ho7.rd.1
          clear ho6r ho6
          have HM : Hid ((45 : UInt8) = if (spl 45 [] [] x.data.toList).length = 2 then 45 else 124) := Lib.hid (by rw [HR5.out]; first | rw [if_pos hr5] | rw [if_neg hr5])
          cases b
          · have HRP : Hid (Px.RP s [] false) := Lib.hid (Px.RP.word HS.out HW.out HX.out (Px.bad_word HM.out HN.out (.inl rfl)))
            go_wp2_with fail
            go_ret2
            exact RpE.mk_ OwnS.nil_ HRP.out hbb7
          · by_cases hn2 : n7 = 2
            · subst hn2
              obtain ⟨p, q, rfl⟩ := list_two hn7
              obtain ⟨gN, x0, rfl, hg1, hg2, hg3, hx0, hc0, _⟩ := ho7.at_ (k := 0) (by omega)
              obtain ⟨gN', x1, hg, _, _, _, hx1, hc1, _⟩ := ho7.at_ (k := 1) (by omega)
              injection hg with hg
              injection hg with hg _ _
              subst hg
              simp at hx0 hx1
              subst hx0 hx1
              by_cases hp : p < 0
              · have HRP : Hid (Px.RP s [] false) := Lib.hid (Px.RP.word HS.out HW.out HX.out (Px.bad_word HM.out HN.out (.inr (.inr ⟨p, q, rfl, .inl hp⟩))))
                go_wp2_with fail
                go_ret2
                exact RpE.mk_ OwnS.nil_ HRP.out hbb7
              · by_cases hq : q < 0
                · have HRP : Hid (Px.RP s [] false) := Lib.hid (Px.RP.word HS.out HW.out HX.out (Px.bad_word HM.out HN.out (.inr (.inr ⟨p, q, rfl, .inr hq⟩))))
                  have hp' : 0 ≤ p := by omega
                  clear hp
                  go_wp2_with fail
                  go_ret2
                  exact RpE.mk_ OwnS.nil_ HRP.out hbb7
                · have HPN : Hid (Px.Pre s (R ++ [⟨p, true, q⟩]) (k + 1)) := Lib.hid (Px.Pre.next HS.out HP.out HW.out HX.out (Px.good_word HM.out HN.out rfl (by decide)))
                  have hp' : 0 ≤ p := by omega
                  have hq' : 0 ≤ q := by omega
                  have hS0 : w7.drew.cell? ⟨gN, 0, none⟩ = some (.int .i64 p) ∧ w7.drew.cell? ⟨gN, 1, none⟩ = some (.int .i64 q) := ⟨hc0, hc1⟩
                  have hS1 : (w7.alloc (.cells #[.int .i64 p, .bool true, .int .i64 q] 76)).drew.cell? ⟨gN, 0, none⟩ = some (.int .i64 p) ∧ (w7.alloc (.cells #[.int .i64 p, .bool true, .int .i64 q] 76)).drew.cell? ⟨gN, 1, none⟩ = some (.int .i64 q) := ⟨(World.cell?_alloc_lt w7 _ ⟨gN, 0, none⟩ hg3).trans hc0, (World.cell?_alloc_lt w7 _ ⟨gN, 1, none⟩ hg3).trans hc1⟩
                  have hfN : Far (.slice A2 k c2) gN := fun e => by have := ho7r.lt _ e; omega
                  clear hp hq
                  go_wp2_with fail
                  go_region_held3 (fun V => V.cell? ⟨gN, 0, none⟩ = some (.int .i64 p) ∧ V.cell? ⟨gN, 1, none⟩ = some (.int .i64 q))
                    (first | with_reducible exact hS0 | with_reducible exact hS1 | with_reducible exact hS8)
                    (first
                      | ((with_reducible refine atWc (w7.alloc (.cells #[.int .i64 p, .bool true, .int .i64 q] 76)).drew ?_); refine step_pushKCt w7.drew rfl (.tmp 58) (.tmp 68) 54 rfl Tryd.underlying54 A2 k c2 R w.heap.size wr.heap.size (by rfl) ho7r ⟨p, true, q⟩ w7.heap.size (by rfl) rfl (by omega) (by show w.heap.size ≤ w7.heap.size; omega) ?_; intro A8 c8 w8 ho8 hm8 hK8; have hS8 : w8.cell? ⟨gN, 0, none⟩ = some (.int .i64 p) ∧ w8.cell? ⟨gN, 1, none⟩ = some (.int .i64 q) := ⟨(cell_same (hK8 gN hg3 hfN).1).trans hc0, (cell_same (hK8 gN hg3 hfN).1).trans hc1⟩))
                  have hz8 := hm8.size
                  have hk8 := hK8 gW (by show gW < w7.heap.size; omega) HFAR.out
                  have h8 : Hid (w8.heap[gW]? = w1.heap[gW]?) := Lib.hid (hk8.1.trans (h7.trans HGW.out))
                  have HF8 := Lib.hid hk8.2
                  have HB8 : Hid (Below w.heap.size w w8) := Lib.hid (hbb7.trans ((below_drewN' (Below.refl _ _) 1).trans (hm8.below (B := w.heap.size) (Nat.le_refl _) (by show w.heap.size ≤ w7.heap.size; omega))))
                  have HO8 := Lib.hid ho8
                  have z8 : w7.heap.size ≤ w8.heap.size := hz8
                  clear ho8 hm8 hK8 hk8 hS0 hS1 hS8 hfN hc0 hc1 ho7r ho7 h7 h6 h5 hz8
                  go_wp2_with fail
                  go_roundw
                  case rel => exact ⟨k + 1, A8, c8, _, by omega, by go_num, rfl, HO8.out, HPN, h8, HF8, HB8.out, by omega⟩
                  case measure => simp [intOf]; omega
            · have HRP : Hid (Px.RP s [] false) := Lib.hid (Px.RP.word HS.out HW.out HX.out (Px.bad_word HM.out HN.out (.inr (.inl (by rw [hn7]; exact hn2)))))
              have t1 : ¬ ((n7 : Int) = 2) := by omega
              clear ho7
              go_wp2_with fail
              go_ret2
              exact RpE.mk_ OwnS.nil_ HRP.out hbb7
        · have t5 : ¬ ((r5 : Int) = 2) := by omega
          go_wp2_with fail
          refine (l01Split_any x 124 _ HXZ.out).mono ?_
          rintro e w6 ⟨A6, c6, rfl, ho6, hb6⟩
          obtain ⟨WL, hWL⟩ : ∃ v, v = spl 124 [] [] x.data.toList := ⟨_, rfl⟩
          rw [← hWL] at ho6 ⊢
          have HWL := Lib.hid hWL
          obtain ⟨r6, hr6⟩ : ∃ v, v = WL.length := ⟨_, rfl⟩
          have hr6z : r6 ≤ 1048577 := by have := (Px.spl_count 124 x).2; have hxz := HXZ.out; rw [← hWL] at this; omega
          rw [← hr6] at ho6 ⊢
          clear hWL hr6
          have hz6 := hb6.size
          have hbb6 := hbb5.trans (hb6.mono hz5)
          have h6 : w6.heap[gW]? = wr.heap[gW]? := (hb6.block gW (by omega)).trans h5
          have ho6r := ho5r.below hb6 (by omega)
          clear ho5r
          go_wp2_with fail
          refine (l01Numbers_any A6 r6 c6 w6.heap.size WL _ ho6.rd (Nat.le_refl _) hr6z).mono ?_
          rintro e w7 ⟨A7, n7, c7, b, NL, rfl, ho7, hN, hb7⟩
          have HN : Hid (Px.NumR (spl 124 [] [] x.data.toList) NL b) := Lib.hid (by rw [← HWL.out]; exact hN)
          clear hN
          have hz7 := hb7.size
          have hbb7 := hbb6.trans (hb7.mono (by omega))
          have h7 : w7.heap[gW]? = wr.heap[gW]? := (hb7.block gW (by omega)).trans h6
          have ho7r := ho6r.below hb7 (by omega)
          have hn7 : NL.length = n7 := ho7.rd.1
          clear ho6r ho6
          have HM : Hid ((124 : UInt8) = if (spl 45 [] [] x.data.toList).length = 2 then 45 else 124) := Lib.hid (by rw [HR5.out]; first | rw [if_pos hr5] | rw [if_neg hr5])
          cases b
          · have HRP : Hid (Px.RP s [] false) := Lib.hid (Px.RP.word HS.out HW.out HX.out (Px.bad_word HM.out HN.out (.inl rfl)))
            go_wp2_with fail
            go_ret2
            exact RpE.mk_ OwnS.nil_ HRP.out hbb7
          · by_cases hn2 : n7 = 2
            · subst hn2
              obtain ⟨p, q, rfl⟩ := list_two hn7
              obtain ⟨gN, x0, rfl, hg1, hg2, hg3, hx0, hc0, _⟩ := ho7.at_ (k := 0) (by omega)
              obtain ⟨gN', x1, hg, _, _, _, hx1, hc1, _⟩ := ho7.at_ (k := 1) (by omega)
              injection hg with hg
              injection hg with hg _ _
              subst hg
              simp at hx0 hx1
              subst hx0 hx1
              by_cases hp : p < 0
              · have HRP : Hid (Px.RP s [] false) := Lib.hid (Px.RP.word HS.out HW.out HX.out (Px.bad_word HM.out HN.out (.inr (.inr ⟨p, q, rfl, .inl hp⟩))))
                go_wp2_with fail
                go_ret2
                exact RpE.mk_ OwnS.nil_ HRP.out hbb7
              · by_cases hq : q < 0
                · have HRP : Hid (Px.RP s [] false) := Lib.hid (Px.RP.word HS.out HW.out HX.out (Px.bad_word HM.out HN.out (.inr (.inr ⟨p, q, rfl, .inr hq⟩))))
                  have hp' : 0 ≤ p := by omega
                  clear hp
                  go_wp2_with fail
                  go_ret2
                  exact RpE.mk_ OwnS.nil_ HRP.out hbb7
                · have HPN : Hid (Px.Pre s (R ++ [⟨p, false, q⟩]) (k + 1)) := Lib.hid (Px.Pre.next HS.out HP.out HW.out HX.out (Px.good_word HM.out HN.out rfl (by decide)))
                  have hp' : 0 ≤ p := by omega
                  have hq' : 0 ≤ q := by omega
                  have hS0 : w7.drew.cell? ⟨gN, 0, none⟩ = some (.int .i64 p) ∧ w7.drew.cell? ⟨gN, 1, none⟩ = some (.int .i64 q) := ⟨hc0, hc1⟩
                  have hS1 : (w7.alloc (.cells #[.int .i64 p, .bool false, .int .i64 q] 76)).drew.cell? ⟨gN, 0, none⟩ = some (.int .i64 p) ∧ (w7.alloc (.cells #[.int .i64 p, .bool false, .int .i64 q] 76)).drew.cell? ⟨gN, 1, none⟩ = some (.int .i64 q) := ⟨(World.cell?_alloc_lt w7 _ ⟨gN, 0, none⟩ hg3).trans hc0, (World.cell?_alloc_lt w7 _ ⟨gN, 1, none⟩ hg3).trans hc1⟩
                  have hfN : Far (.slice A2 k c2) gN := fun e => by have := ho7r.lt _ e; omega
                  clear hp hq
                  go_wp2_with fail
                  go_region_held3 (fun V => V.cell? ⟨gN, 0, none⟩ = some (.int .i64 p) ∧ V.cell? ⟨gN, 1, none⟩ = some (.int .i64 q))
                    (first | with_reducible exact hS0 | with_reducible exact hS1 | with_reducible exact hS8)
                    (first
                      | ((with_reducible refine atWc (w7.alloc (.cells #[.int .i64 p, .bool false, .int .i64 q] 76)).drew ?_); refine step_pushKCt w7.drew rfl (.tmp 58) (.tmp 68) 54 rfl Tryd.underlying54 A2 k c2 R w.heap.size wr.heap.size (by rfl) ho7r ⟨p, false, q⟩ w7.heap.size (by rfl) rfl (by omega) (by show w.heap.size ≤ w7.heap.size; omega) ?_; intro A8 c8 w8 ho8 hm8 hK8; have hS8 : w8.cell? ⟨gN, 0, none⟩ = some (.int .i64 p) ∧ w8.cell? ⟨gN, 1, none⟩ = some (.int .i64 q) := ⟨(cell_same (hK8 gN hg3 hfN).1).trans hc0, (cell_same (hK8 gN hg3 hfN).1).trans hc1⟩))
                  have hz8 := hm8.size
                  have hk8 := hK8 gW (by show gW < w7.heap.size; omega) HFAR.out
                  have h8 : Hid (w8.heap[gW]? = w1.heap[gW]?) := Lib.hid (hk8.1.trans (h7.trans HGW.out))
                  have HF8 := Lib.hid hk8.2
                  have HB8 : Hid (Below w.heap.size w w8) := Lib.hid (hbb7.trans ((below_drewN' (Below.refl _ _) 1).trans (hm8.below (B := w.heap.size) (Nat.le_refl _) (by show w.heap.size ≤ w7.heap.size; omega))))
                  have HO8 := Lib.hid ho8
                  have z8 : w7.heap.size ≤ w8.heap.size := hz8
                  clear ho8 hm8 hK8 hk8 hS0 hS1 hS8 hfN hc0 hc1 ho7r ho7 h7 h6 h5 hz8
                  go_wp2_with fail
                  go_roundw
                  case rel => exact ⟨k + 1, A8, c8, _, by omega, by go_num, rfl, HO8.out, HPN, h8, HF8, HB8.out, by omega⟩
                  case measure => simp [intOf]; omega
            · have HRP : Hid (Px.RP s [] false) := Lib.hid (Px.RP.word HS.out HW.out HX.out (Px.bad_word HM.out HN.out (.inr (.inl (by rw [hn7]; exact hn2)))))
              have t1 : ¬ ((n7 : Int) = 2) := by omega
              clear ho7
              go_wp2_with fail
              go_ret2
              exact RpE.mk_ OwnS.nil_ HRP.out hbb7
      · obtain rfl : m = k := by omega
        obtain ⟨T, hT⟩ : ∃ v, Px.ptS R = v := ⟨_, rfl⟩
        have HT := Lib.hid hT
        clear hT
        go_wp2_with fail
        refine (specPt_any A2 m c2 wr.heap.size R T _ ho.rd (Nat.le_refl _) (by omega) HT.out).mono ?_
        rintro e w8 ⟨rfl, hb8⟩
        have hbb := hb.trans (hb8.mono (by omega))
        by_cases hTs : T = s
        · subst hTs
          have HRP : Hid (Px.RP T R true) := Lib.hid (Px.RP.reads HS.out HT.out)
          have ho8 := (ho.below hb8 (Nat.le_refl _)).mono (Nat.le_refl _) hb8.size
          clear ho
          go_wp2_with fail
          go_ret2
          exact RpE.mk_ ho8 HRP.out hbb
        · have HRP : Hid (Px.RP s [] false) := Lib.hid (Px.RP.differs HS.out HP.out (Px.words_len HW.out HMW.out.symm) (by rw [HT.out]; exact hTs))
          have hneT : (T.toList == s.toList) = false := by
            rw [beq_eq_false_iff_ne, ByteArray.toList_eq, ByteArray.toList_eq]
            intro he
            exact hTs (Px.bytes_ext he)
          clear ho
          go_wp2_with fail
          go_ret2
          exact RpE.mk_ OwnS.nil_ HRP.out hbb
end Go.Proofs.YtbhofhobnbhhhaaDoor
