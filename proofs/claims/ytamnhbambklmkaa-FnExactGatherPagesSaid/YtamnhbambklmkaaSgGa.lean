/- Contracts of GatherPages, the program's and the model's: the same pages and codes. -/
import Derived.Test.YtamnhbambklmkaaSgSc
namespace Go.Proofs.Ytamnhbambklmkaa
open Go.RowKit

theorem Sg.ga_no {p u : Int} {L R : List Int} {C : Int} (h : Sg.gaOk p u L = false) (hR : Sg.gaR p u L = R) (hC : Sg.gaC p u L = C) : R = [] ∧ C = 2 := by
  unfold Sg.gaR at hR
  unfold Sg.gaC at hC
  rw [h] at hR hC
  exact ⟨hR.symm, hC.symm⟩
theorem Sg.ga_yes {p u : Int} {L R : List Int} {C : Int} (h : Sg.gaOk p u L = true) (hR : Sg.gaR p u L = R) (hC : Sg.gaC p u L = C) : R = Sg.gath p u u.toNat L ∧ C = 0 := by
  unfold Sg.gaR at hR
  unfold Sg.gaC at hC
  rw [h] at hR hC
  exact ⟨hR.symm, hC.symm⟩
/-- A signature of an order: where its pages begin. -/
theorem Sg.sig_bd {L : List Int} {x u : Int} (ho : isOrdB L = true) (hx : x ∈ L) (h1 : 4 ≤ u) (h2 : u ≤ 128) : ∃ y, x * u = y ∧ 0 ≤ y ∧ y ≤ 8192 ∧ 0 ≤ x ∧ x ≤ 64 := by
  have h := of_decide_eq_true ho
  have hr := h.2.1 x hx
  have hl := h.1
  refine ⟨_, rfl, Int.mul_nonneg hr.1 (by omega), ?_, hr.1, by omega⟩
  have a := Int.mul_le_mul (show x ≤ 64 by omega) h2 (by omega) (by omega)
  omega

set_option maxRecDepth 100000 in
set_option maxHeartbeats 2000000 in
theorem implGa_any (p u : Int) (A : Option Addr) (n c B : Nat) (L R : List Int) (C : Int) (w : World) (h : Rd I w B A n L) (hB : B ≤ w.heap.size) (hn : n ≤ 1048576) (hR : Sg.gaR p u L = R) (hC : Sg.gaC p u L = C)
    (hp : -9223372036854775808 ≤ p ∧ p ≤ 9223372036854775807) (hu : -9223372036854775808 ≤ u ∧ u ≤ 9223372036854775807) :
    Calls Try.prog 26 #[.int .i64 p, .int .i64 u, .slice A n c] w fun e w' => LC w R C e w' := by
  have HL : Hid (L.length = n) := h.1
  cases hf : Sg.fits p u
  · have hg : Sg.gaOk p u L = false := by unfold Sg.gaOk; rw [hf]; rfl
    obtain ⟨r0, c0⟩ := Sg.ga_no hg hR hC
    have R0 := Lib.hid r0
    have C0 := Lib.hid c0
    have HS : Hid (Sg.scR p u = 0 ∧ Sg.scC p u = 2) := Lib.hid (by unfold Sg.scR Sg.scC; rw [hf]; exact ⟨rfl, rfl⟩)
    clear hf hg r0 c0 hR hC
    go_enter Try.func26, Try.ntmps26
    go_wp2_with fail
    refine (implSc_any p u 0 2 _ HS.out.1 HS.out.2 hp hu).mono ?_
    rintro e w1 ⟨rfl, hb1⟩
    go_wp2_with fail
    go_ret2
    exact LC.nil_ R0.out C0.out hb1
  have hcb := Sg.ceil_bd hf
  have hub := Sg.un_bd (Sg.fits_out hf).2
  have hpb := (Sg.fits_out hf).1
  obtain ⟨r, hr⟩ : ∃ r, Sg.ceil p u = r := ⟨_, rfl⟩
  have HS : Hid (Sg.scR p u = r ∧ Sg.scC p u = 0) := Lib.hid (by unfold Sg.scR Sg.scC; rw [hf]; exact ⟨hr, rfl⟩)
  rw [hr] at hcb
  cases ho : isOrdB L
  · have hg : Sg.gaOk p u L = false := by unfold Sg.gaOk; rw [ho]; simp
    obtain ⟨r0, c0⟩ := Sg.ga_no hg hR hC
    have R0 := Lib.hid r0
    have C0 := Lib.hid c0
    have HO := Lib.hid ho
    clear hf hg r0 c0 hR hC hr hcb ho
    go_enter Try.func26, Try.ntmps26
    go_wp2_with fail
    refine (implSc_any p u r 0 _ HS.out.1 HS.out.2 hp hu).mono ?_
    rintro e w1 ⟨rfl, hb1⟩
    go_wp2_with fail
    refine (IsOrder_any A n c B L _ (h.below hb1 hB) (by have := hb1.size; omega) hn).mono ?_
    rintro e w2 ⟨rfl, hb2⟩
    rw [HO.out]
    go_wp2_with fail
    go_ret2
    exact LC.nil_ R0.out C0.out (hb1.trans (hb2.mono hb1.size))
  by_cases hnr : (n : Int) = r
  · have hg : Sg.gaOk p u L = true := by unfold Sg.gaOk; rw [hf, ho, hr, h.1]; simp [hnr]
    subst hnr
    obtain ⟨r0, c0⟩ := Sg.ga_yes hg hR hC
    have C0 := Lib.hid c0
    have HO := Lib.hid ho
    have h64 : n ≤ 64 := by have := (of_decide_eq_true ho).1; rw [h.1] at this; exact this
    obtain ⟨U, rfl⟩ := Int.eq_ofNat_of_zero_le (show 0 ≤ u by omega)
    have R0 : Hid (R = Sg.gath p (U : Int) U L) := Lib.hid (by simpa using r0)
    obtain ⟨M, hM⟩ : ∃ M : Nat, (n : Int) * (U : Int) = (M : Int) ∧ M ≤ 8192 := by
      refine ⟨n * U, by push_cast; rfl, ?_⟩
      exact Nat.mul_le_mul (show n ≤ 64 from h64) (show U ≤ 128 by omega)
    obtain ⟨hM1, hM2⟩ := hM
    have hm' : IntKind.i64.wrap ((n : Int) * (U : Int)) = (M : Int) := by rw [hM1]; exact IntWalk.i64_in _ (by omega)
    obtain ⟨i0, hi0, hz0, hz1, hz2⟩ := info_parts infoI
    have HB2 : i0.bytes * M ≤ 281474976710656 := by rw [hz2]; omega
    have HN2 : M ≤ maxLen := by unfold maxLen; omega
    clear hf hg r0 c0 hR hC hr hcb ho hM1
    go_enter Try.func26, Try.ntmps26
    go_wp2_with fail
    refine (implSc_any p (U : Int) (n : Int) 0 _ HS.out.1 HS.out.2 hp hu).mono ?_
    rintro e w1 ⟨rfl, hb1⟩
    have z1 := hb1.size
    go_wp2_with fail
    refine (IsOrder_any A n c B L _ (h.below hb1 hB) (by omega) hn).mono ?_
    rintro e w2 ⟨rfl, hb2⟩
    rw [HO.out]
    have hB2 := hb1.trans (hb2.mono z1)
    have z2 := hB2.size
    go_wp2_with (at_make; refine wpList_make_own _ rfl _ _ 29 rfl w2.heap.size 2 i0 _ 1 Try.underlying29 hi0 hz0 hz1 .i64 .i64 _ M rfl rfl rfl HB2 HN2 (Nat.le_refl _) ?_; intro w3 hown3 hg3)
    have hb3 : Below w2.heap.size w2 w3 := (Below.refl _ _).grown hg3 (Nat.le_refl _) (by simp)
    have hB3 := hB2.trans (hb3.mono z2)
    have z3 := hB3.size
    have ho3 : Own I w3 w2.heap.size w3.heap.size 2 (.slice (some ⟨w2.heap.size, 0, none⟩) 0 M) ([] : List Int) := Own.here hown3 rfl
    clear hown3 hg3 hb1 hb2 hb3
    have HB3 := Lib.hid hB3
    clear hB3 hB2
    go_loopw [10, 39] (fun v i wr => ∃ k : Nat, k ≤ n ∧ i = .int .i64 k ∧ (∃ A3 N c3, v = .slice A3 N c3 ∧ Own I wr w.heap.size wr.heap.size 2 (.slice A3 N c3) (Sg.gath p (U : Int) U (L.take k))) ∧ Below w.heap.size w wr) (fun _ i _ => n - (intOf i).toNat)
    case atStart => exact ⟨0, Nat.zero_le _, rfl, ⟨_, _, _, rfl, by simpa [Sg.gath] using ho3.mono z2 (Nat.le_refl _)⟩, HB3.out⟩
    case round =>
      clear ho3
      obtain ⟨k, hk, rfl, ⟨A3, N, c3, rfl, ho⟩, hb⟩ := hrel
      have h := h.below hb hB
      by_cases hlt : k < n
      · obtain ⟨b', o', x, rfl, hbB, hx, hc⟩ := h.at_ hlt
        have HX := Lib.hid hx
        obtain ⟨y, hy, y0, y1, x0, x1⟩ := Sg.sig_bd HO.out (List.mem_of_getElem? hx) hub.1 hub.2
        have hy' : IntKind.i64.wrap (x * (U : Int)) = y := by rw [hy]; exact IntWalk.i64_in _ (by omega)
        have HY := Lib.hid hy
        have HT : Hid (L.take (k + 1) = L.take k ++ [x]) := Lib.hid (take_next L k x hx)
        have HLT : Hid ((Sg.gath p (U : Int) U (L.take k)).length ≤ 8192) := Lib.hid (by
          rw [Sg.gath_len, List.length_take]
          exact Nat.mul_le_mul (show min k L.length ≤ 64 by omega) (show U ≤ 128 by omega))
        clear hx hy
        obtain ⟨w4, rfl⟩ : ∃ w4, w4 = wr := ⟨_, rfl⟩
        go_wp2
        go_loopw [10, 44] (fun v i wr => ∃ m : Nat, m ≤ U ∧ i = .int .i64 m ∧ (∃ A4 N4 c4, v = .slice A4 N4 c4 ∧ Own I wr w.heap.size wr.heap.size 2 (.slice A4 N4 c4) (Sg.gath p (U : Int) U (L.take k) ++ Sg.row p (U : Int) x m)) ∧ Below w.heap.size w wr) (fun _ i _ => U - (intOf i).toNat)
        case atStart => exact ⟨0, Nat.zero_le _, rfl, ⟨_, _, _, rfl, by simpa [Sg.row] using ho⟩, hb⟩
        case round =>
          obtain ⟨m, hm, rfl, ⟨A4, N4, c4, rfl, ho⟩, hb⟩ := hrel
          have z4 := hb.size
          have hN4 : N4 ≤ 20000 := by
            have a1 := ho.rd.1
            have a2 := HLT.out
            rw [List.length_append, Sg.row_len] at a1
            omega
          by_cases hmu : m < U
          · have e1 : IntKind.i64.wrap (y + (m : Int)) = y + (m : Int) := IntWalk.i64_in _ (by omega)
            have e2 : IntKind.i64.wrap (y + (m : Int) + 1) = y + (m : Int) + 1 := IntWalk.i64_in _ (by omega)
            by_cases hpg : p < y + (m : Int) + 1
            · have HN : Hid (Sg.row p (U : Int) x (m + 1) = Sg.row p (U : Int) x m ++ [0]) := Lib.hid (by rw [Sg.row_next, HY.out]; unfold Sg.pg; rw [if_pos hpg])
              go_wp2_with (at_builtin; refine wp_push _ rfl _ _ 29 rfl 2 i0 _ 8 Try.underlying29 hi0 hz0 hz1 hz2 rfl A4 N4 c4 _ _ _ rfl ho 0 rfl rfl (by omega) (by omega) (by omega) ?_; intro A5 c5 w5 ho5 hm5)
              go_roundw
              case rel =>
                refine ⟨m + 1, by omega, by go_num, ⟨_, _, _, rfl, ?_⟩, hb.trans (hm5.below (Nat.le_refl _) z4)⟩
                rw [HN.out, ← List.append_assoc]
                exact ho5
              case measure => simp [intOf]; omega
            · have hpg' : y + (m : Int) + 1 ≤ p := by omega
              have HN : Hid (Sg.row p (U : Int) x (m + 1) = Sg.row p (U : Int) x m ++ [y + (m : Int) + 1]) := Lib.hid (by rw [Sg.row_next, HY.out]; unfold Sg.pg; rw [if_neg hpg])
              go_wp2_with (at_builtin; refine wp_push _ rfl _ _ 29 rfl 2 i0 _ 8 Try.underlying29 hi0 hz0 hz1 hz2 rfl A4 N4 c4 _ _ _ rfl ho (y + (m : Int) + 1) rfl rfl (by omega) (by omega) (by omega) ?_; intro A5 c5 w5 ho5 hm5)
              go_roundw
              case rel =>
                refine ⟨m + 1, by omega, by go_num, ⟨_, _, _, rfl, ?_⟩, hb.trans (hm5.below (Nat.le_refl _) z4)⟩
                rw [HN.out, ← List.append_assoc]
                exact ho5
              case measure => simp [intOf]; omega
          · obtain rfl : m = U := by omega
            go_wp2
            go_roundw
            case rel =>
              refine ⟨k + 1, by omega, by go_num, ⟨_, _, _, rfl, ?_⟩, hb⟩
              rw [HT.out, Sg.gath_next]
              exact ho
            case measure => simp [intOf]; omega
      · obtain rfl : k = n := by omega
        have hN : N ≤ 20000 := by
          have a1 := ho.rd.1
          rw [Sg.gath_len, List.length_take] at a1
          have a2 := Nat.mul_le_mul (show min k L.length ≤ 64 by omega) (show U ≤ 128 by omega)
          omega
        go_wp2
        go_ret2
        refine LC.mk_ (R0.out.trans ?_) C0.out ho (Nat.le_refl _) (Nat.le_refl _) (by omega) hb
        rw [List.take_of_length_le (Nat.le_of_eq HL.out)]
  · have hg : Sg.gaOk p u L = false := by unfold Sg.gaOk; rw [hr, h.1, decide_eq_false hnr]; simp
    obtain ⟨r0, c0⟩ := Sg.ga_no hg hR hC
    have R0 := Lib.hid r0
    have C0 := Lib.hid c0
    have HO := Lib.hid ho
    clear hf hg r0 c0 hR hC hr hcb ho
    go_enter Try.func26, Try.ntmps26
    go_wp2_with fail
    refine (implSc_any p u r 0 _ HS.out.1 HS.out.2 hp hu).mono ?_
    rintro e w1 ⟨rfl, hb1⟩
    go_wp2_with fail
    refine (IsOrder_any A n c B L _ (h.below hb1 hB) (by have := hb1.size; omega) hn).mono ?_
    rintro e w2 ⟨rfl, hb2⟩
    rw [HO.out]
    go_wp2_with fail
    go_ret2
    exact LC.nil_ R0.out C0.out (hb1.trans (hb2.mono hb1.size))
end Go.Proofs.Ytamnhbambklmkaa
