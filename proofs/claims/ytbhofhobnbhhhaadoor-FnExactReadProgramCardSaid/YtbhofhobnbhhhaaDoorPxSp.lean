/- Contract of the model's ProgramText. -/
import Derived.Test.YtbhofhobnbhhhaaDoorPxMath
import Derived.Test.YtbhofhobnbhhhaaDoorLw9
import Derived.Test.YtbhofhobnbhhhaaDoorIn
import Derived.Deep.RegionHeld3
import Derived.OwnWalk
namespace Go.Proofs.YtbhofhobnbhhhaaDoor
open Go.RowKit
set_option linter.unusedVariables false

set_option maxRecDepth 100000 in
set_option maxHeartbeats 4000000 in
theorem specPt_any (A : Option Addr) (n c B : Nat) (g : List Ct) (T : ByteArray) (w : World) (h : RdS Ct.S w B A n g) (hB : B ≤ w.heap.size) (hn : n ≤ 1048577) (hT : Px.ptS g = T) :
    Calls Tryd.prog 39 #[.slice A n c] w fun e w' => e = .returned (.string T) ∧ Below w.heap.size w w' := by
  have HL := Lib.hid h.1
  have HT := Lib.hid hT
  clear hT
  by_cases h79 : 79 < n
  · have HE := Lib.hid (Px.pt_long (g := g) (by rw [HL.out]; exact h79))
    go_enter Tryd.func39, Tryd.ntmps39
    go_wp2_with fail
    go_ret
    exact ⟨Px.ret_s (by rw [← HT.out, HE.out]), Below.refl _ _⟩
  · have h79' : n ≤ 79 := by omega
    go_enter Tryd.func39, Tryd.ntmps39
    go_wp2_with fail
    go_loopw [3, 4] (fun u i wr => ∃ (k : Nat) (U : ByteArray), k ≤ n ∧ i = .int .i64 k ∧ u = .string U ∧ Hid (U = Px.joinS (g.take k)) ∧ Hid (∀ j y, j < k → g[j]? = some y → Px.okC y = true) ∧ Below w.heap.size w wr) (fun _ i _ => n - (intOf i).toNat)
    case atStart => exact ⟨0, _, Nat.zero_le _, rfl, rfl, Lib.hid rfl, Lib.hid (by intro j y h; omega), Below.refl _ _⟩
    case round =>
      obtain ⟨k, U, hk, rfl, rfl, HU, HK, hb⟩ := hrel
      have hz := hb.size
      by_cases hlt : k < n
      · obtain ⟨b1, o, x, rfl, hbB, hx, c0, c1, c2⟩ := (h.below hb hB).at_Ct hlt
        have HX := Lib.hid hx
        clear hx
        have HBA : Hid (Below w.heap.size w (wr.alloc (.cells #[.int .i64 x.i, .bool x.a, .int .i64 x.t] 76))) := Lib.hid (hb.alloc hz _)
        by_cases hi : 0 ≤ x.i ∧ x.i ≤ 20000
        · have hci : ∀ W, Calls Tryd.prog 60 #[.int .i64 x.i, .int .i64 0, .int .i64 20000] W fun e w' => e = .returned (.bool true) ∧ W = w' := fun W => l01In_yes _ _ _ W hi.1 hi.2
          by_cases ht : 0 ≤ x.t ∧ x.t ≤ 20000
          · have hct : ∀ W, Calls Tryd.prog 60 #[.int .i64 x.t, .int .i64 0, .int .i64 20000] W fun e w' => e = .returned (.bool true) ∧ W = w' := fun W => l01In_yes _ _ _ W ht.1 ht.2
            have hI := fun W => l01Dec_int x.i W (by omega) (by omega)
            have hT := fun W => l01Dec_int x.t W (by omega) (by omega)
            have hUz : U.size ≤ 948 := by have h1 := Px.joinS_size g k (by rw [HL.out]; omega) HK.out; rw [← HU.out] at h1; omega
            have s1 := dec_size 5 x.i.toNat (by omega) (by omega)
            have s2 := dec_size 5 x.t.toNat (by omega) (by omega)
            obtain ⟨DI, hDI⟩ : ∃ d, d = dec x.i.toNat := ⟨_, rfl⟩
            obtain ⟨DT, hDT⟩ : ∃ d, d = dec x.t.toNat := ⟨_, rfl⟩
            rw [← hDI] at hI s1
            rw [← hDT] at hT s2
            have HDI := Lib.hid hDI
            have HDT := Lib.hid hDT
            clear hDI hDT
            have HOK : Hid (Px.okC x = true) := Lib.hid (Px.okC_iff.2 ⟨hi.1, hi.2, ht.1, ht.2⟩)
            have HKN : Hid (∀ j y, j < k + 1 → g[j]? = some y → Px.okC y = true) := Lib.hid fun j y hj hy => by
              by_cases he : j = k
              · subst he
                have := HX.out.symm.trans hy
                injection this with this
                rw [← this]
                exact HOK.out
              · exact HK.out j y (by omega) hy
            obtain ⟨sa, hsa⟩ : ∃ sa, sa = x.a := ⟨_, rfl⟩
            rw [← hsa] at c1 HBA
            have HSA := Lib.hid hsa
            clear hsa
            by_cases hk0 : k = 0
            · have HU0 : Hid (U = ⟨#[]⟩) := Lib.hid (by rw [HU.out, hk0]; rfl)
              have HK0 := Lib.hid hk0
              have hkn : ¬ (0 : Int) < (k : Int) := by omega
              have q1 : ¬ 9223372036854775807 < U.size + DI.size := by omega
              have q2 : ¬ 9223372036854775807 < U.size + DI.size + 1 := by omega
              have q3 : ¬ 9223372036854775807 < U.size + DI.size + 1 + DT.size := by omega
              clear hk0
              cases sa
              · have HJ : Hid (U ++ DI ++ ⟨#[124]⟩ ++ DT = Px.joinS (g.take (k + 1))) := Lib.hid (by rw [show k + 1 = 1 by rw [HK0.out], Px.joinS_one g x (by have := HX.out; rwa [HK0.out] at this), HU0.out, ← HDI.out, ← HDT.out]; unfold Px.sign; rw [← HSA.out]; rfl)
                have hza : wr.heap.size + 1 = (wr.alloc (.cells #[.int .i64 x.i, .bool false, .int .i64 x.t] 76)).heap.size := by simp
                go_wp2_with fail
                refine (hci _).mono ?_
                rintro e _ ⟨rfl, rfl⟩
                go_wp2_with fail
                refine (hct _).mono ?_
                rintro e _ ⟨rfl, rfl⟩
                go_wp2_with fail
                go_region_held3 (fun V => V.cell? ⟨wr.heap.size, 0, none⟩ = some (.int .i64 x.i) ∧ V.cell? ⟨wr.heap.size, 1, none⟩ = some (.bool false) ∧ V.cell? ⟨wr.heap.size, 2, none⟩ = some (.int .i64 x.t))
                  (first | go_keep | (refine ⟨?_, ?_, ?_⟩ <;> (first | go_keep | (rw [hbk.cell (by first | omega | (simp; done) | (simp; omega))]; first | assumption | go_keep))))
                  (first
                    | (go_at_call 66; with_reducible refine (hT _).mono ?_; rintro e' w7 ⟨rfl, hbk⟩; have hbk7 := hbk)
                    | (go_at_call 66; with_reducible refine (hI _).mono ?_; rintro e' w6 ⟨rfl, hbk⟩; have hbk6 := hbk; have z6 := sz_drew9 hbk))
                have HB7 := Lib.hid (HBA.out.trans ((below_drewN' (Below.refl _ _) 1).trans ((hbk6.mono (by simp; omega)).trans (hbk7.mono (by simp at z6; omega)))))
                clear hbk hbk6 hbk7
                go_wp2_with fail
                go_roundw
                case rel => exact ⟨k + 1, _, by omega, by go_num, rfl, HJ, HKN, HB7.out⟩
                case measure => simp [intOf]; omega
              · have HJ : Hid (U ++ DI ++ ⟨#[45]⟩ ++ DT = Px.joinS (g.take (k + 1))) := Lib.hid (by rw [show k + 1 = 1 by rw [HK0.out], Px.joinS_one g x (by have := HX.out; rwa [HK0.out] at this), HU0.out, ← HDI.out, ← HDT.out]; unfold Px.sign; rw [← HSA.out]; rfl)
                have hza : wr.heap.size + 1 = (wr.alloc (.cells #[.int .i64 x.i, .bool true, .int .i64 x.t] 76)).heap.size := by simp
                go_wp2_with fail
                refine (hci _).mono ?_
                rintro e _ ⟨rfl, rfl⟩
                go_wp2_with fail
                refine (hct _).mono ?_
                rintro e _ ⟨rfl, rfl⟩
                go_wp2_with fail
                go_region_held3 (fun V => V.cell? ⟨wr.heap.size, 0, none⟩ = some (.int .i64 x.i) ∧ V.cell? ⟨wr.heap.size, 1, none⟩ = some (.bool true) ∧ V.cell? ⟨wr.heap.size, 2, none⟩ = some (.int .i64 x.t))
                  (first | go_keep | (refine ⟨?_, ?_, ?_⟩ <;> (first | go_keep | (rw [hbk.cell (by first | omega | (simp; done) | (simp; omega))]; first | assumption | go_keep))))
                  (first
                    | (go_at_call 66; with_reducible refine (hT _).mono ?_; rintro e' w7 ⟨rfl, hbk⟩; have hbk7 := hbk)
                    | (go_at_call 66; with_reducible refine (hI _).mono ?_; rintro e' w6 ⟨rfl, hbk⟩; have hbk6 := hbk; have z6 := sz_drew9 hbk))
                have HB7 := Lib.hid (HBA.out.trans ((below_drewN' (Below.refl _ _) 1).trans ((hbk6.mono (by simp; omega)).trans (hbk7.mono (by simp at z6; omega)))))
                clear hbk hbk6 hbk7
                go_wp2_with fail
                go_roundw
                case rel => exact ⟨k + 1, _, by omega, by go_num, rfl, HJ, HKN, HB7.out⟩
                case measure => simp [intOf]; omega
            · have HK0 := Lib.hid hk0
              have hk0' : (0 : Int) < (k : Int) := by omega
              have q0 : ¬ 9223372036854775807 < U.size + 1 := by omega
              have q1 : ¬ 9223372036854775807 < U.size + 1 + DI.size := by omega
              have q2 : ¬ 9223372036854775807 < U.size + 1 + DI.size + 1 := by omega
              have q3 : ¬ 9223372036854775807 < U.size + 1 + DI.size + 1 + DT.size := by omega
              clear hk0
              cases sa
              · have HJ : Hid ((U ++ ⟨#[32]⟩) ++ DI ++ ⟨#[124]⟩ ++ DT = Px.joinS (g.take (k + 1))) := Lib.hid (by rw [Px.joinS_next g k x HX.out (by omega), ← HU.out, ← HDI.out, ← HDT.out]; unfold Px.sign; rw [← HSA.out]; rfl)
                have hza : wr.heap.size + 1 = (wr.alloc (.cells #[.int .i64 x.i, .bool false, .int .i64 x.t] 76)).heap.size := by simp
                go_wp2_with fail
                refine (hci _).mono ?_
                rintro e _ ⟨rfl, rfl⟩
                go_wp2_with fail
                refine (hct _).mono ?_
                rintro e _ ⟨rfl, rfl⟩
                go_wp2_with fail
                go_region_held3 (fun V => V.cell? ⟨wr.heap.size, 0, none⟩ = some (.int .i64 x.i) ∧ V.cell? ⟨wr.heap.size, 1, none⟩ = some (.bool false) ∧ V.cell? ⟨wr.heap.size, 2, none⟩ = some (.int .i64 x.t))
                  (first | go_keep | (refine ⟨?_, ?_, ?_⟩ <;> (first | go_keep | (rw [hbk.cell (by first | omega | (simp; done) | (simp; omega))]; first | assumption | go_keep))))
                  (first
                    | (go_at_call 66; with_reducible refine (hT _).mono ?_; rintro e' w7 ⟨rfl, hbk⟩; have hbk7 := hbk)
                    | (go_at_call 66; with_reducible refine (hI _).mono ?_; rintro e' w6 ⟨rfl, hbk⟩; have hbk6 := hbk; have z6 := sz_drew9 hbk))
                have HB7 := Lib.hid (HBA.out.trans ((below_drewN' (Below.refl _ _) 1).trans ((hbk6.mono (by simp; omega)).trans (hbk7.mono (by simp at z6; omega)))))
                clear hbk hbk6 hbk7
                go_wp2_with fail
                go_roundw
                case rel => exact ⟨k + 1, _, by omega, by go_num, rfl, HJ, HKN, HB7.out⟩
                case measure => simp [intOf]; omega
              · have HJ : Hid ((U ++ ⟨#[32]⟩) ++ DI ++ ⟨#[45]⟩ ++ DT = Px.joinS (g.take (k + 1))) := Lib.hid (by rw [Px.joinS_next g k x HX.out (by omega), ← HU.out, ← HDI.out, ← HDT.out]; unfold Px.sign; rw [← HSA.out]; rfl)
                have hza : wr.heap.size + 1 = (wr.alloc (.cells #[.int .i64 x.i, .bool true, .int .i64 x.t] 76)).heap.size := by simp
                go_wp2_with fail
                refine (hci _).mono ?_
                rintro e _ ⟨rfl, rfl⟩
                go_wp2_with fail
                refine (hct _).mono ?_
                rintro e _ ⟨rfl, rfl⟩
                go_wp2_with fail
                go_region_held3 (fun V => V.cell? ⟨wr.heap.size, 0, none⟩ = some (.int .i64 x.i) ∧ V.cell? ⟨wr.heap.size, 1, none⟩ = some (.bool true) ∧ V.cell? ⟨wr.heap.size, 2, none⟩ = some (.int .i64 x.t))
                  (first | go_keep | (refine ⟨?_, ?_, ?_⟩ <;> (first | go_keep | (rw [hbk.cell (by first | omega | (simp; done) | (simp; omega))]; first | assumption | go_keep))))
                  (first
                    | (go_at_call 66; with_reducible refine (hT _).mono ?_; rintro e' w7 ⟨rfl, hbk⟩; have hbk7 := hbk)
                    | (go_at_call 66; with_reducible refine (hI _).mono ?_; rintro e' w6 ⟨rfl, hbk⟩; have hbk6 := hbk; have z6 := sz_drew9 hbk))
                have HB7 := Lib.hid (HBA.out.trans ((below_drewN' (Below.refl _ _) 1).trans ((hbk6.mono (by simp; omega)).trans (hbk7.mono (by simp at z6; omega)))))
                clear hbk hbk6 hbk7
                go_wp2_with fail
                go_roundw
                case rel => exact ⟨k + 1, _, by omega, by go_num, rfl, HJ, HKN, HB7.out⟩
                case measure => simp [intOf]; omega
          · have hct : ∀ W, Calls Tryd.prog 60 #[.int .i64 x.t, .int .i64 0, .int .i64 20000] W fun e w' => e = .returned (.bool false) ∧ W = w' := fun W => l01In_no _ _ _ W (by omega)
            have HE : Hid (Px.ptS g = ⟨#[]⟩) := Lib.hid (Px.pt_bad HX.out (by unfold Px.okC; exact decide_eq_false (by omega)))
            clear HU HK
            go_wp2_with fail
            refine (hci _).mono ?_
            rintro e _ ⟨rfl, rfl⟩
            go_wp2_with fail
            refine (hct _).mono ?_
            rintro e _ ⟨rfl, rfl⟩
            go_wp2_with fail
            go_ret
            exact ⟨Px.ret_s (by rw [← HT.out, HE.out]), HBA.out⟩
        · have hci : ∀ W, Calls Tryd.prog 60 #[.int .i64 x.i, .int .i64 0, .int .i64 20000] W fun e w' => e = .returned (.bool false) ∧ W = w' := fun W => l01In_no _ _ _ W (by omega)
          have HE : Hid (Px.ptS g = ⟨#[]⟩) := Lib.hid (Px.pt_bad HX.out (by unfold Px.okC; exact decide_eq_false (by omega)))
          clear HU HK
          go_wp2_with fail
          refine (hci _).mono ?_
          rintro e _ ⟨rfl, rfl⟩
          go_wp2_with fail
          go_ret
          exact ⟨Px.ret_s (by rw [← HT.out, HE.out]), HBA.out⟩
      · obtain rfl : k = n := by omega
        have HE : Hid (Px.ptS g = U) := Lib.hid (by rw [HU.out, Px.pt_good HL.out h79' HK.out, List.take_of_length_le (by have := HL.out; omega)])
        go_wp2_with fail
        go_ret
        exact ⟨Px.ret_s (by rw [← HT.out, HE.out]), hb⟩
end Go.Proofs.YtbhofhobnbhhhaaDoor
