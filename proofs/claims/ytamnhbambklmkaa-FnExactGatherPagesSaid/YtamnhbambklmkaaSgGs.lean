/- The contract of GatherPages, the model's: the same pages and code as the program's. -/
import Derived.Test.YtamnhbambklmkaaSgGa
namespace Go.Proofs.Ytamnhbambklmkaa
open Go.RowKit

set_option maxRecDepth 100000 in
set_option maxHeartbeats 2000000 in
theorem specGa_any (p u : Int) (A : Option Addr) (n c B : Nat) (L R : List Int) (C : Int) (w : World) (h : Rd I w B A n L) (hB : B ≤ w.heap.size) (hn : n ≤ 1048576) (hnc : n ≤ c) (hR : Sg.gaR p u L = R) (hC : Sg.gaC p u L = C) :
    Calls Try.prog 27 #[.int .i64 p, .int .i64 u, .slice A n c] w fun e w' => LC w R C e w' := by
  have HL : Hid (L.length = n) := h.1
  cases hf : Sg.fits p u
  · have hg : Sg.gaOk p u L = false := by unfold Sg.gaOk; rw [hf]; rfl
    obtain ⟨r0, c0⟩ := Sg.ga_no hg hR hC
    have R0 := Lib.hid r0
    have C0 := Lib.hid c0
    have HF := Lib.hid hf
    clear hf hg r0 c0 hR hC
    go_enter Try.func27, Try.ntmps27
    go_wp2_with fail
    refine (l06Fits_any p u false _ HF.out).mono ?_
    rintro e w1 ⟨rfl, hb1⟩
    go_wp2_with fail
    go_ret2
    exact LC.nil_ R0.out C0.out hb1
  have HF := Lib.hid hf
  have hub := Sg.un_bd (Sg.fits_out hf).2
  have hpb := (Sg.fits_out hf).1
  cases ho : isOrdB L
  · have hg : Sg.gaOk p u L = false := by unfold Sg.gaOk; rw [ho]; simp
    obtain ⟨r0, c0⟩ := Sg.ga_no hg hR hC
    have R0 := Lib.hid r0
    have C0 := Lib.hid c0
    have HO := Lib.hid ho
    clear hf hg r0 c0 hR hC ho
    go_enter Try.func27, Try.ntmps27
    go_wp2_with fail
    refine (l06Fits_any p u true _ HF.out).mono ?_
    rintro e w1 ⟨rfl, hb1⟩
    go_wp2_with fail
    refine (specIsOrder_any A n c B L _ (h.below hb1 hB) hn hnc).mono ?_
    rintro e w2 ⟨rfl, hq2⟩
    rw [HO.out]
    go_wp2_with fail
    go_ret2
    exact LC.nil_ R0.out C0.out (hb1.trans (hq2.below _))
  have HO := Lib.hid ho
  have hcb := Sg.ceil_bd hf
  obtain ⟨r, hr⟩ : ∃ r, Sg.ceil p u = r := ⟨_, rfl⟩
  rw [hr] at hcb
  by_cases hnr : (n : Int) = r
  · have hg : Sg.gaOk p u L = true := by unfold Sg.gaOk; rw [hf, ho, hr, h.1]; simp [hnr]
    subst hnr
    have HRR : Hid ((p + u - 1) / u = (n : Int)) := Lib.hid hr
    obtain ⟨r0, c0⟩ := Sg.ga_yes hg hR hC
    have C0 := Lib.hid c0
    have h64 : n ≤ 64 := by have := (of_decide_eq_true ho).1; rw [h.1] at this; exact this
    obtain ⟨U, rfl⟩ := Int.eq_ofNat_of_zero_le (show 0 ≤ u by omega)
    have R0 : Hid (R = Sg.gath p (U : Int) U L) := Lib.hid (by simpa using r0)
    obtain ⟨i0, hi0, hz0, hz1, hz2⟩ := info_parts infoI
    clear hf hg r0 c0 hR hC hr hcb ho
    go_enter Try.func27, Try.ntmps27
    go_wp2_with fail
    refine (l06Fits_any p (U : Int) true _ HF.out).mono ?_
    rintro e w1 ⟨rfl, hb1⟩
    have z1 := hb1.size
    go_wp2_with fail
    refine (specIsOrder_any A n c B L _ (h.below hb1 hB) hn hnc).mono ?_
    rintro e w2 ⟨rfl, hq2⟩
    rw [HO.out]
    have hB2 := hb1.trans (hq2.below _)
    have z2 := hB2.size
    go_wp2_with fail
    refine (l01Ceil_any p (U : Int) (n : Int) _ (by omega) (by omega) (by omega) (by omega) HRR.out).mono ?_
    rintro e _ ⟨rfl, rfl⟩
    go_wp2_with fail
    have ho3 := Own.lit0 I w2 2
    have hB3 : Below w.heap.size w (w2.alloc (.cells #[] 2)) := hB2.alloc z2 _
    have HB3 := Lib.hid hB3
    clear hB3 hB2 hb1 hq2
    go_loopw [8, 9] (fun v i wr => ∃ k : Nat, k ≤ n ∧ i = .int .i64 k ∧ (∃ A3 N c3, v = .slice A3 N c3 ∧ Own I wr w.heap.size wr.heap.size 2 (.slice A3 N c3) (Sg.gath p (U : Int) U (L.take k))) ∧ Below w.heap.size w wr) (fun _ i _ => n - (intOf i).toNat)
    case atStart => exact ⟨0, Nat.zero_le _, rfl, ⟨_, _, _, rfl, by simpa [Sg.gath] using ho3.mono z2 (by simp)⟩, HB3.out⟩
    case round =>
      clear ho3
      obtain ⟨k, hk, rfl, ⟨A3, N, c3, rfl, ho⟩, hb⟩ := hrel
      have h0 := h
      have h := h.below hb hB
      by_cases hlt : k < n
      · obtain ⟨b', o', x, rfl, hbB, hx, hc⟩ := h.at_ hlt
        have HX := Lib.hid hx
        obtain ⟨y, hy, y0, y1, x0, x1⟩ := Sg.sig_bd HO.out (List.mem_of_getElem? hx) hub.1 hub.2
        have hy' : IntKind.i64.wrap (x * (U : Int)) = y := by rw [hy]; exact IntWalk.i64_in _ (by omega)
        have hy1 : IntKind.i64.wrap (y + 1) = y + 1 := IntWalk.i64_in _ (by omega)
        have hy2 : IntKind.i64.wrap (y + (U : Int)) = y + (U : Int) := IntWalk.i64_in _ (by omega)
        have HY := Lib.hid hy
        have HT : Hid (L.take (k + 1) = L.take k ++ [x]) := Lib.hid (take_next L k x hx)
        have HLT : Hid ((Sg.gath p (U : Int) U (L.take k)).length ≤ 8192) := Lib.hid (by
          rw [Sg.gath_len, List.length_take]
          exact Nat.mul_le_mul (show min k L.length ≤ 64 by omega) (show U ≤ 128 by omega))
        clear hx hy
        obtain ⟨w4, rfl⟩ : ∃ w4, w4 = wr := ⟨_, rfl⟩
        go_wp2
        go_loopw [8, 10] (fun v i wr => ∃ m : Nat, m ≤ U ∧ i = .int .i64 (y + 1 + (m : Int)) ∧ (∃ A4 N4 c4, v = .slice A4 N4 c4 ∧ Own I wr w.heap.size wr.heap.size 2 (.slice A4 N4 c4) (Sg.gath p (U : Int) U (L.take k) ++ Sg.row p (U : Int) x m)) ∧ Below w.heap.size w wr) (fun _ i _ => (y + 1 + (U : Int) - intOf i).toNat)
        case atStart => exact ⟨0, Nat.zero_le _, by simp, ⟨_, _, _, rfl, by simpa [Sg.row] using ho⟩, hb⟩
        case round =>
          obtain ⟨m, hm, rfl, ⟨A4, N4, c4, rfl, ho⟩, hb⟩ := hrel
          have hc := (h0.below hb hB).at_ hlt
          obtain ⟨b2, o2, x2, e2, _, hx2, hc2⟩ := hc
          injection e2 with e2
          injection e2 with e2 e3 _
          subst e2 e3
          obtain rfl : x = x2 := Option.some.inj (HX.out.symm.trans hx2)
          clear hx2
          have z4 := hb.size
          have hN4 : N4 ≤ 20000 := by
            have a1 := ho.rd.1
            have a2 := HLT.out
            rw [List.length_append, Sg.row_len] at a1
            omega
          by_cases hmu : m < U
          · have hle : y + 1 + (m : Int) ≤ y + (U : Int) := by omega
            have e2 : IntKind.i64.wrap (y + 1 + (m : Int) + 1) = y + 1 + (m : Int) + 1 := IntWalk.i64_in _ (by omega)
            by_cases hpg : p < y + 1 + (m : Int)
            · have HN : Hid (Sg.row p (U : Int) x (m + 1) = Sg.row p (U : Int) x m ++ [0]) := Lib.hid (by rw [Sg.row_next, HY.out]; unfold Sg.pg; rw [if_pos (by omega)])
              go_wp2_with (at_builtin; refine wp_push _ rfl _ _ 29 rfl 2 i0 _ 8 Try.underlying29 hi0 hz0 hz1 hz2 rfl A4 N4 c4 _ _ _ rfl ho 0 rfl rfl (by omega) (by omega) (by omega) ?_; intro A5 c5 w5 ho5 hm5)
              go_roundw
              case rel =>
                refine ⟨m + 1, by omega, by go_num, ⟨_, _, _, rfl, ?_⟩, hb.trans (hm5.below (Nat.le_refl _) z4)⟩
                rw [HN.out, ← List.append_assoc]
                exact ho5
              case measure => simp [intOf]; omega
            · have hpg' : y + 1 + (m : Int) ≤ p := by omega
              have HN : Hid (Sg.row p (U : Int) x (m + 1) = Sg.row p (U : Int) x m ++ [y + 1 + (m : Int)]) := Lib.hid (by rw [Sg.row_next, HY.out]; unfold Sg.pg; rw [if_neg (by omega)]; congr 2; omega)
              go_wp2_with (at_builtin; refine wp_push _ rfl _ _ 29 rfl 2 i0 _ 8 Try.underlying29 hi0 hz0 hz1 hz2 rfl A4 N4 c4 _ _ _ rfl ho (y + 1 + (m : Int)) rfl rfl (by omega) (by omega) (by omega) ?_; intro A5 c5 w5 ho5 hm5)
              go_roundw
              case rel =>
                refine ⟨m + 1, by omega, by go_num, ⟨_, _, _, rfl, ?_⟩, hb.trans (hm5.below (Nat.le_refl _) z4)⟩
                rw [HN.out, ← List.append_assoc]
                exact ho5
              case measure => simp [intOf]; omega
          · obtain rfl : m = U := by omega
            have hle : y + (m : Int) < y + 1 + (m : Int) := by omega
            go_wp2
            go_roundw
            case rel =>
              refine ⟨k + 1, by omega, by go_num, ⟨_, _, _, rfl, ?_⟩, hb⟩
              rw [HT.out, Sg.gath_next]
              exact ho
            case measure => simp [intOf]; omega
      · obtain rfl : k = n := by omega
        have hN : N ≤ 20000 := by
          have a1 := ho.rd.1
          rw [Sg.gath_len, List.length_take] at a1
          have a2 := Nat.mul_le_mul (show min k L.length ≤ 64 by omega) (show U ≤ 128 by omega)
          omega
        go_wp2
        go_ret2
        refine LC.mk_ (R0.out.trans ?_) C0.out ho (Nat.le_refl _) (Nat.le_refl _) (by omega) hb
        rw [List.take_of_length_le (Nat.le_of_eq HL.out)]
  · have hg : Sg.gaOk p u L = false := by unfold Sg.gaOk; rw [hr, h.1, decide_eq_false hnr]; simp
    obtain ⟨r0, c0⟩ := Sg.ga_no hg hR hC
    have R0 := Lib.hid r0
    have C0 := Lib.hid c0
    have HRR : Hid ((p + u - 1) / u = r) := Lib.hid hr
    clear hf hg r0 c0 hR hC hr hcb ho
    go_enter Try.func27, Try.ntmps27
    go_wp2_with fail
    refine (l06Fits_any p u true _ HF.out).mono ?_
    rintro e w1 ⟨rfl, hb1⟩
    go_wp2_with fail
    refine (specIsOrder_any A n c B L _ (h.below hb1 hB) hn hnc).mono ?_
    rintro e w2 ⟨rfl, hq2⟩
    rw [HO.out]
    go_wp2_with fail
    refine (l01Ceil_any p u r _ (by omega) (by omega) (by omega) (by omega) HRR.out).mono ?_
    rintro e _ ⟨rfl, rfl⟩
    go_wp2_with fail
    go_ret2
    exact LC.nil_ R0.out C0.out (hb1.trans (hq2.below _))
end Go.Proofs.Ytamnhbambklmkaa
