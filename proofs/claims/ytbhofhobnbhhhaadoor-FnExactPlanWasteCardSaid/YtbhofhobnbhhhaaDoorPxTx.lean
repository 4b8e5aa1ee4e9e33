/- Contract of the text of one cut, the program's. -/
import Derived.Test.YtbhofhobnbhhhaaDoorPxMath
import Derived.Test.YtbhofhobnbhhhaaDoorLw9
import Derived.Deep.RegionHeld3
namespace Go.Proofs.YtbhofhobnbhhhaaDoor
open Go.RowKit
set_option linter.unusedVariables false

theorem line_at (i : Int) (a : Bool) (t : Int) (T : ByteArray) (w : World) (htab : Lib.TabIs Tryd.prog w "internal/strconv.uint64pow10" .u64 Lib.pow10Tab) (h1 : 0 ≤ t) (h2 : t ≤ 20000) (hT : (⟨#[if a then 45 else 124]⟩ : ByteArray) ++ dec t.toNat = T) :
    Calls Tryd.prog 79 #[.agg #[.int .i64 i, .bool a, .int .i64 t]] w fun e w' => e = .returned (.string T) ∧ Below w.heap.size w w' := by
  replace hT := Lib.hid hT
  have hFT := fun W ht => fmt_int t W h1 (by omega) ht
  have s2 := dec_size 5 t.toNat (by omega) (by omega)
  obtain ⟨DT, hDT⟩ : ∃ d, d = dec t.toNat := ⟨_, rfl⟩
  rw [← hDT] at hFT s2
  have HDT := Lib.hid hDT
  clear hDT
  have q1 : ¬ 9223372036854775807 < 1 + DT.size := by omega
  have HBA := Lib.hid ((Below.refl w.heap.size w).alloc (Nat.le_refl _) (.cells #[.int .i64 i, .bool a, .int .i64 t] 76))
  have hzA : w.heap.size + 1 = (w.alloc (.cells #[.int .i64 i, .bool a, .int .i64 t] 76)).heap.size := by simp
  have htA : Lib.TabIs Tryd.prog (w.alloc (.cells #[.int .i64 i, .bool a, .int .i64 t] 76)) "internal/strconv.uint64pow10" .u64 Lib.pow10Tab := tabIs_below htab HBA.out gPow (tabIs_lt htab gPow)
  cases a
  · have HE2 : Hid ((⟨#[124]⟩ : ByteArray) ++ DT = T) := Lib.hid (by rw [HDT.out]; exact hT.out)
    go_enter Tryd.func79, Tryd.ntmps79
    go_wp2_with fail
    refine (hFT _ htA).mono ?_
    rintro e' w6 ⟨rfl, hbk⟩
    have HB7 := Lib.hid (HBA.out.trans (hbk.mono (by omega)))
    clear hbk
    go_wp2_with fail
    go_ret
    exact ⟨Px.ret_s HE2.out, HB7.out⟩
  · have HE2 : Hid ((⟨#[45]⟩ : ByteArray) ++ DT = T) := Lib.hid (by rw [HDT.out]; exact hT.out)
    go_enter Tryd.func79, Tryd.ntmps79
    go_wp2_with fail
    refine (hFT _ htA).mono ?_
    rintro e' w6 ⟨rfl, hbk⟩
    have HB7 := Lib.hid (HBA.out.trans (hbk.mono (by omega)))
    clear hbk
    go_wp2_with fail
    go_ret
    exact ⟨Px.ret_s HE2.out, HB7.out⟩
set_option maxRecDepth 100000 in
set_option maxHeartbeats 4000000 in
theorem implTx_at (i : Int) (a : Bool) (t : Int) (T : ByteArray) (w : World) (htab : Lib.TabIs Tryd.prog w "internal/strconv.uint64pow10" .u64 Lib.pow10Tab) (hT : (if Px.okC ⟨i, a, t⟩ then Px.ctS ⟨i, a, t⟩ else ⟨#[]⟩) = T) :
    Calls Tryd.prog 87 #[.agg #[.int .i64 i, .bool a, .int .i64 t]] w fun e w' => e = .returned (.string T) ∧ Below w.heap.size w w' := by
  replace hT := Lib.hid hT
  have hord : (i < t ∧ ¬ t ≤ i) ∨ (i ≤ t ∧ t ≤ i) ∨ (t < i ∧ ¬ i ≤ t) := by omega
  by_cases hok : 0 ≤ i ∧ i ≤ 20000 ∧ 0 ≤ t ∧ t ≤ 20000
  · have HOK : Hid (Px.okC ⟨i, a, t⟩ = true) := Lib.hid (Px.okC_iff.2 hok)
    obtain ⟨h1, h2, h3, h4⟩ := hok
    have hFI := fun W ht => fmt_int i W h1 (by omega) ht
    have s1 := dec_size 5 i.toNat (by omega) (by omega)
    have s2 := dec_size 5 t.toNat (by omega) (by omega)
    obtain ⟨DI, hDI⟩ : ∃ d, d = dec i.toNat := ⟨_, rfl⟩
    rw [← hDI] at hFI s1
    have HDI := Lib.hid hDI
    clear hDI
    rcases hord with ⟨o1, o2⟩ | ⟨o1, o2⟩ | ⟨o1, o2⟩
    all_goals
      cases a
      · have hza : w.heap.size + 1 = (w.alloc (.cells #[.int .i64 i, .bool false, .int .i64 t] 76)).heap.size := by simp
        have HBA := Lib.hid ((Below.refl w.heap.size w).alloc (Nat.le_refl _) (.cells #[.int .i64 i, .bool false, .int .i64 t] 76))
        have htD : Lib.TabIs Tryd.prog (w.alloc (.cells #[.int .i64 i, .bool false, .int .i64 t] 76)).drew "internal/strconv.uint64pow10" .u64 Lib.pow10Tab := tabIs_below htab (below_drewN' HBA.out 1) gPow (tabIs_lt htab gPow)
        have hgl : 3 < (w.alloc (.cells #[.int .i64 i, .bool false, .int .i64 t] 76)).drew.heap.size := tabIs_lt htD gPow
        obtain ⟨LT, hLT⟩ : ∃ d, (⟨#[124]⟩ : ByteArray) ++ dec t.toNat = d := ⟨_, rfl⟩
        have hLN := fun W ht => line_at i false t LT W ht h3 h4 hLT
        have s2 : LT.size ≤ 6 := by rw [← hLT, ByteArray.size_append]; show 1 + (dec t.toNat).size ≤ 6; omega
        have q1 : ¬ 9223372036854775807 < DI.size + LT.size := by omega
        have HE2 : Hid (DI ++ LT = T) := Lib.hid (by rw [← hT.out, if_pos HOK.out, HDI.out, ← hLT, ← ByteArray.append_assoc]; rfl)
        clear hLT
        go_enter Tryd.func87, Tryd.ntmps87
        go_wp2_with fail
        go_region_held3 (fun V => V.cell? ⟨w.heap.size, 0, none⟩ = some (.int .i64 i) ∧ V.cell? ⟨w.heap.size, 1, none⟩ = some (.bool false) ∧ V.cell? ⟨w.heap.size, 2, none⟩ = some (.int .i64 t))
          (first | go_keep | (refine ⟨?_, ?_, ?_⟩ <;> (first | go_keep | (rw [hbk.cell (by first | omega | (simp; done) | (simp; omega))]; first | assumption | go_keep))))
          (first
            | (go_at_call 79; with_reducible refine (hLN _ ht6).mono ?_; rintro e' w7 ⟨rfl, hbk⟩; have hbk7 := hbk)
            | (go_at_call 94; with_reducible refine (hFI _ htD).mono ?_; rintro e' w6 ⟨rfl, hbk⟩; have hbk6 := hbk; have z6 := sz_drew9 hbk; have ht6 := tabIs_below htD hbk gPow hgl))
        have HB7 := Lib.hid (HBA.out.trans ((below_drewN' (Below.refl _ _) 1).trans ((hbk6.mono (by first | (simp; done) | (simp; omega))).trans (hbk7.mono (by omega)))))
        clear hbk hbk6 hbk7 ht6 htD
        go_wp2_with fail
        go_ret
        exact ⟨Px.ret_s HE2.out, HB7.out⟩
      · have hza : w.heap.size + 1 = (w.alloc (.cells #[.int .i64 i, .bool true, .int .i64 t] 76)).heap.size := by simp
        have HBA := Lib.hid ((Below.refl w.heap.size w).alloc (Nat.le_refl _) (.cells #[.int .i64 i, .bool true, .int .i64 t] 76))
        have htD : Lib.TabIs Tryd.prog (w.alloc (.cells #[.int .i64 i, .bool true, .int .i64 t] 76)).drew "internal/strconv.uint64pow10" .u64 Lib.pow10Tab := tabIs_below htab (below_drewN' HBA.out 1) gPow (tabIs_lt htab gPow)
        have hgl : 3 < (w.alloc (.cells #[.int .i64 i, .bool true, .int .i64 t] 76)).drew.heap.size := tabIs_lt htD gPow
        obtain ⟨LT, hLT⟩ : ∃ d, (⟨#[45]⟩ : ByteArray) ++ dec t.toNat = d := ⟨_, rfl⟩
        have hLN := fun W ht => line_at i true t LT W ht h3 h4 hLT
        have s2 : LT.size ≤ 6 := by rw [← hLT, ByteArray.size_append]; show 1 + (dec t.toNat).size ≤ 6; omega
        have q1 : ¬ 9223372036854775807 < DI.size + LT.size := by omega
        have HE2 : Hid (DI ++ LT = T) := Lib.hid (by rw [← hT.out, if_pos HOK.out, HDI.out, ← hLT, ← ByteArray.append_assoc]; rfl)
        clear hLT
        go_enter Tryd.func87, Tryd.ntmps87
        go_wp2_with fail
        go_region_held3 (fun V => V.cell? ⟨w.heap.size, 0, none⟩ = some (.int .i64 i) ∧ V.cell? ⟨w.heap.size, 1, none⟩ = some (.bool true) ∧ V.cell? ⟨w.heap.size, 2, none⟩ = some (.int .i64 t))
          (first | go_keep | (refine ⟨?_, ?_, ?_⟩ <;> (first | go_keep | (rw [hbk.cell (by first | omega | (simp; done) | (simp; omega))]; first | assumption | go_keep))))
          (first
            | (go_at_call 79; with_reducible refine (hLN _ ht6).mono ?_; rintro e' w7 ⟨rfl, hbk⟩; have hbk7 := hbk)
            | (go_at_call 94; with_reducible refine (hFI _ htD).mono ?_; rintro e' w6 ⟨rfl, hbk⟩; have hbk6 := hbk; have z6 := sz_drew9 hbk; have ht6 := tabIs_below htD hbk gPow hgl))
        have HB7 := Lib.hid (HBA.out.trans ((below_drewN' (Below.refl _ _) 1).trans ((hbk6.mono (by first | (simp; done) | (simp; omega))).trans (hbk7.mono (by omega)))))
        clear hbk hbk6 hbk7 ht6 htD
        go_wp2_with fail
        go_ret
        exact ⟨Px.ret_s HE2.out, HB7.out⟩
  · have HE : Hid (T = ⟨#[]⟩) := Lib.hid (by rw [← hT.out, if_neg (by rw [Px.okC_iff]; exact hok)])
    have HBA := Lib.hid ((Below.refl w.heap.size w).alloc (Nat.le_refl _) (.cells #[.int .i64 i, .bool a, .int .i64 t] 76))
    clear hT
    rcases hord with ⟨o1, o2⟩ | ⟨o1, o2⟩ | ⟨o1, o2⟩
    · by_cases r1 : i < 0
      · go_enter Tryd.func87, Tryd.ntmps87
        go_wp2_with fail
        go_ret
        exact ⟨Px.ret_s HE.out.symm, HBA.out⟩
      · have r2 : 20000 < t := by omega
        go_enter Tryd.func87, Tryd.ntmps87
        go_wp2_with fail
        go_ret
        exact ⟨Px.ret_s HE.out.symm, HBA.out⟩
    · by_cases r1 : i < 0
      · have r3 : t < 0 := by omega
        go_enter Tryd.func87, Tryd.ntmps87
        go_wp2_with fail
        go_ret
        exact ⟨Px.ret_s HE.out.symm, HBA.out⟩
      · have r2 : 20000 < t := by omega
        have r3 : 20000 < i := by omega
        have r4 : ¬ t < 0 := by omega
        go_enter Tryd.func87, Tryd.ntmps87
        go_wp2_with fail
        go_ret
        exact ⟨Px.ret_s HE.out.symm, HBA.out⟩
    · by_cases r1 : t < 0
      · go_enter Tryd.func87, Tryd.ntmps87
        go_wp2_with fail
        go_ret
        exact ⟨Px.ret_s HE.out.symm, HBA.out⟩
      · have r2 : 20000 < i := by omega
        go_enter Tryd.func87, Tryd.ntmps87
        go_wp2_with fail
        go_ret
        exact ⟨Px.ret_s HE.out.symm, HBA.out⟩
theorem implTx_any (x : Ct) (T : ByteArray) (w : World) (htab : Lib.TabIs Tryd.prog w "internal/strconv.uint64pow10" .u64 Lib.pow10Tab) (hT : (if Px.okC x then Px.ctS x else ⟨#[]⟩) = T) :
    Calls Tryd.prog 87 #[x.agg] w fun e w' => e = .returned (.string T) ∧ Below w.heap.size w w' := implTx_at x.i x.a x.t T w htab hT
end Go.Proofs.YtbhofhobnbhhhaaDoor
