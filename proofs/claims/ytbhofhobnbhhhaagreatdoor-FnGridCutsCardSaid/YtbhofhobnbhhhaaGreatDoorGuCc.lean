/- Contracts of the test whether a cut is possible, the program's and the model's, and of the pieces that a cut makes of one. -/
import Derived.Test.YtbhofhobnbhhhaaGreatDoorGuIm
import Derived.BigQuiet
import Derived.Deep.QuietTactic
namespace Go.Proofs.YtbhofhobnbhhhaaGreatDoor
open Go.RowKit
set_option linter.unusedVariables false

theorem Gu.can_len {l : List Pc} {n : Nat} {c : Ct} (hl : l.length = n) (h : 80 ≤ n) : Gu.can l c = false := decide_eq_false fun h1 => by have := h1.1; omega
theorem Gu.can_ix {l : List Pc} {n : Nat} {c : Ct} (hl : l.length = n) (h : c.i < 0 ∨ (n : Int) ≤ c.i) : Gu.can l c = false := decide_eq_false fun h1 => by have h2 := h1.2.1; have h3 := h1.2.2.1; rw [hl] at h3; omega
theorem Gu.can_at {l : List Pc} {n k : Nat} {a : Bool} {t : Int} {p : Pc} (hl : l.length = n) (hn : n < 80) (hp : l[k]? = some p) : Gu.can l ⟨(k : Int), a, t⟩ = decide (1 ≤ t ∧ t < if a then p.h else p.w) := by
  have hk : k < l.length := (List.getElem?_eq_some_iff.1 hp).1
  have hg : Gu.atI l (k : Int) = p := Gu.atI_get (by simpa using hp)
  apply Bool.eq_iff_iff.2
  simp only [Gu.can, decide_eq_true_eq, Gu.canP, Gu.side, hg]
  constructor
  · exact fun h => h.2.2.2
  · exact fun h => ⟨by omega, by omega, by omega, h⟩
theorem Gu.cc_no {l : List Pc} {c : Ct} (h : Gu.okL l = false) : Gu.ccB l c = false := by unfold Gu.ccB; rw [h]; rfl
theorem Gu.cc_of {l : List Pc} {c : Ct} {b : Bool} (h : Gu.okL l = true) (h1 : Gu.can l c = b) : Gu.ccB l c = b := by unfold Gu.ccB; rw [h, h1]; rfl
theorem Gu.side_of {l : List Pc} {k : Nat} {p : Pc} (h : Gu.okL l = true) (hp : l[k]? = some p) : 1 ≤ p.w ∧ p.w ≤ 20000 ∧ 1 ≤ p.h ∧ p.h ≤ 20000 :=
  Gu.okP_iff.1 ((Gu.okL_all h).2 p (List.mem_of_getElem? hp))

set_option maxRecDepth 100000 in
set_option maxHeartbeats 2000000 in
theorem specCc_any (A : Option Addr) (n c B : Nat) (l : List Pc) (i : Int) (a : Bool) (t : Int) (b : Bool) (w : World) (h : RdS Pc.S w B A n l) (hB : B ≤ w.heap.size) (hn : n ≤ 1048577) (hb : Gu.ccB l ⟨i, a, t⟩ = b) :
    Calls Tryz.prog 39 #[.slice A n c, .agg #[.int .i64 i, .bool a, .int .i64 t]] w fun e w' => e = .returned (.bool b) ∧ Below w.heap.size w w' := by
  have HL := Lib.hid h.1
  have HO := Lib.hid hb
  have HBx := Lib.hid (below_new9 w (.cells #[.int .i64 i, .bool a, .int .i64 t] 50))
  have Bx := Lib.hid (Blk.new (w := w) (g := w.heap.size) #[.int .i64 i, .bool a, .int .i64 t] 50 rfl)
  have hr0 := h.alloc hB (.cells #[.int .i64 i, .bool a, .int .i64 t] 50)
  have hz0 : w.heap.size + 1 = (w.alloc (.cells #[.int .i64 i, .bool a, .int .i64 t] 50)).heap.size := by simp
  clear hb
  obtain ⟨d, hd⟩ : ∃ d, Gu.okL l = d := ⟨_, rfl⟩
  have HC := fun W hW hBW => specL9_any A n c B l d W hW hBW hn hd
  have HD := Lib.hid hd
  clear hd
  cases d
  · go_enter Tryz.func39, Tryz.ntmps39
    go_wp2_with fail
    refine (HC _ hr0 (by omega)).mono ?_
    rintro e w1 ⟨rfl, hb1⟩
    have HB1 := Lib.hid (HBx.out.trans (hb1.mono (by omega)))
    go_wp2_with fail
    go_ret
    exact ⟨ret_b (by rw [← HO.out]; exact (Gu.cc_no HD.out).symm), HB1.out⟩
  · by_cases hi : 0 ≤ i ∧ i < (n : Int)
    · obtain ⟨k, rfl⟩ : ∃ k : Nat, i = (k : Int) := ⟨i.toNat, by omega⟩
      have hk : k < n := by omega
      have hn80 : n ≤ 80 := by have := (Gu.okL_all HD.out).1; have := HL.out; omega
      have hin : ∀ W, Calls Tryz.prog 24 #[.int .i64 (k : Int), .int .i64 0, .int .i64 ((n : Int) - 1)] W fun e w' => e = .returned (.bool true) ∧ W = w' := fun W => l01In_yes _ _ _ W (by omega) (by omega)
      have ew : IntKind.i64.wrap ((n : Int) - 1) = (n : Int) - 1 := IntWalk.i64_in _ (by omega)
      by_cases h80 : n = 80
      · subst h80
        go_enter Tryz.func39, Tryz.ntmps39
        go_wp2_with fail
        refine (HC _ hr0 (by omega)).mono ?_
        rintro e w1 ⟨rfl, hb1⟩
        have B1 := Bx.out.below hb1 (by omega)
        have c0 := B1.cell 0 (v := .int .i64 (k : Int)) rfl
        have HB1 := Lib.hid (HBx.out.trans (hb1.mono (by omega)))
        go_wp2_with fail
        refine (hin _).mono ?_
        rintro e _ ⟨rfl, rfl⟩
        go_wp2_with fail
        go_ret
        exact ⟨ret_b (by rw [← HO.out]; exact (Gu.cc_of HD.out (Gu.can_len HL.out (by omega))).symm), HB1.out⟩
      · have hq80 : ¬ ((n : Int) = 80) := by omega
        obtain ⟨b1, o, x, rfl, hbB, hx, _⟩ := h.at_Pc hk
        have HX := Lib.hid hx
        have hs := Gu.side_of HD.out hx
        have HAT := fun W (hW : RdS Pc.S W B (some ⟨b1, o, none⟩) n l) => (hW.at_Pc hk)
        clear hx
        cases a
        · have es : IntKind.i64.wrap (x.w - 1) = x.w - 1 := IntWalk.i64_in _ (by omega)
          have hit : ∀ W, Calls Tryz.prog 24 #[.int .i64 t, .int .i64 1, .int .i64 (x.w - 1)] W fun e w' => e = .returned (.bool b) ∧ W = w' := fun W => by
            have h1 := HO.out
            rw [Gu.cc_of HD.out (Gu.can_at HL.out (by omega) HX.out)] at h1
            rw [← h1]
            by_cases ht : 1 ≤ t ∧ t < x.w
            · rw [decide_eq_true (by simpa using ht)]
              exact l01In_yes _ _ _ W ht.1 (by omega)
            · rw [decide_eq_false (by simpa using ht)]
              exact l01In_no _ _ _ W (by omega)
          go_enter Tryz.func39, Tryz.ntmps39
          go_wp2_with fail
          refine (HC _ hr0 (by omega)).mono ?_
          rintro e w1 ⟨rfl, hb1⟩
          have B1 := Bx.out.below hb1 (by omega)
          have c0 := B1.cell 0 (v := .int .i64 (k : Int)) rfl
          have c1 := B1.cell 1 (v := .bool false) rfl
          have c2 := B1.cell 2 (v := .int .i64 t) rfl
          obtain ⟨b2, o2, x2, ea, hbB2, hx2, d0, d1⟩ := HAT _ (hr0.below hb1 (by omega))
          have hxe := HX.out.symm.trans hx2
          injection hxe with hxe
          injection ea with ea
          injection ea with ea1 ea2 _
          subst hxe ea1 ea2
          have HB1 := Lib.hid (HBx.out.trans (hb1.mono (by omega)))
          clear hx2
          go_wp2_with fail
          refine (hin _).mono ?_
          rintro e _ ⟨rfl, rfl⟩
          go_wp2_with fail
          refine (hit _).mono ?_
          rintro e _ ⟨rfl, rfl⟩
          go_wp2_with fail
          go_ret
          exact ⟨rfl, HB1.out⟩
        · have es : IntKind.i64.wrap (x.h - 1) = x.h - 1 := IntWalk.i64_in _ (by omega)
          have hit : ∀ W, Calls Tryz.prog 24 #[.int .i64 t, .int .i64 1, .int .i64 (x.h - 1)] W fun e w' => e = .returned (.bool b) ∧ W = w' := fun W => by
            have h1 := HO.out
            rw [Gu.cc_of HD.out (Gu.can_at HL.out (by omega) HX.out)] at h1
            rw [← h1]
            by_cases ht : 1 ≤ t ∧ t < x.h
            · rw [decide_eq_true (by simpa using ht)]
              exact l01In_yes _ _ _ W ht.1 (by omega)
            · rw [decide_eq_false (by simpa using ht)]
              exact l01In_no _ _ _ W (by omega)
          go_enter Tryz.func39, Tryz.ntmps39
          go_wp2_with fail
          refine (HC _ hr0 (by omega)).mono ?_
          rintro e w1 ⟨rfl, hb1⟩
          have B1 := Bx.out.below hb1 (by omega)
          have c0 := B1.cell 0 (v := .int .i64 (k : Int)) rfl
          have c1 := B1.cell 1 (v := .bool true) rfl
          have c2 := B1.cell 2 (v := .int .i64 t) rfl
          obtain ⟨b2, o2, x2, ea, hbB2, hx2, d0, d1⟩ := HAT _ (hr0.below hb1 (by omega))
          have hxe := HX.out.symm.trans hx2
          injection hxe with hxe
          injection ea with ea
          injection ea with ea1 ea2 _
          subst hxe ea1 ea2
          have HB1 := Lib.hid (HBx.out.trans (hb1.mono (by omega)))
          clear hx2
          go_wp2_with fail
          refine (hin _).mono ?_
          rintro e _ ⟨rfl, rfl⟩
          go_wp2_with fail
          refine (hit _).mono ?_
          rintro e _ ⟨rfl, rfl⟩
          go_wp2_with fail
          go_ret
          exact ⟨rfl, HB1.out⟩
    · have hin : ∀ W, Calls Tryz.prog 24 #[.int .i64 i, .int .i64 0, .int .i64 ((n : Int) - 1)] W fun e w' => e = .returned (.bool false) ∧ W = w' := fun W => l01In_no _ _ _ W (by omega)
      have ew : IntKind.i64.wrap ((n : Int) - 1) = (n : Int) - 1 := IntWalk.i64_in _ (by omega)
      have HI := Lib.hid hi
      clear hi
      go_enter Tryz.func39, Tryz.ntmps39
      go_wp2_with fail
      refine (HC _ hr0 (by omega)).mono ?_
      rintro e w1 ⟨rfl, hb1⟩
      have B1 := Bx.out.below hb1 (by omega)
      have c0 := B1.cell 0 (v := .int .i64 i) rfl
      have HB1 := Lib.hid (HBx.out.trans (hb1.mono (by omega)))
      go_wp2_with fail
      refine (hin _).mono ?_
      rintro e _ ⟨rfl, rfl⟩
      go_wp2_with fail
      go_ret
      exact ⟨ret_b (by rw [← HO.out]; exact (Gu.cc_of HD.out (Gu.can_ix HL.out (by have := HI.out; show i < 0 ∨ (n : Int) ≤ i; omega))).symm), HB1.out⟩

set_option maxHeartbeats 1000000 in
theorem divided_any (g : Nat) (i : Int) (a : Bool) (t : Int) (w : World) :
    Calls Tryz.prog 48 #[.pointer (some ⟨g, 0, none⟩), .agg #[.int .i64 i, .bool a, .int .i64 t]] w fun e w' => e = .returned (.pointer (some ⟨g, if a then 1 else 0, none⟩)) ∧ Below w.heap.size w w' := by
  have HBx := Lib.hid (below_new9 w (.cells #[.int .i64 i, .bool a, .int .i64 t] 50))
  cases a
  · go_enter Tryz.func48, Tryz.ntmps48
    go_wp2_with fail
    go_ret
    exact ⟨rfl, HBx.out⟩
  · go_enter Tryz.func48, Tryz.ntmps48
    go_wp2_with fail
    go_ret
    exact ⟨rfl, HBx.out⟩

theorem two_new (w : World) (o o2 : Obj) : Below w.heap.size w ((w.alloc o).alloc o2) := (below_new9 w o).alloc (by simp) _
set_option maxRecDepth 100000 in
set_option maxHeartbeats 2000000 in
theorem allows_any (A : Option Addr) (n c B : Nat) (l : List Pc) (i : Int) (a : Bool) (t : Int) (b : Bool) (w : World) (h : RdS Pc.S w B A n l) (hB : B ≤ w.heap.size) (hn : n ≤ 1048577) (hb : Gu.can l ⟨i, a, t⟩ = b) :
    Calls Tryz.prog 33 #[.slice A n c, .agg #[.int .i64 i, .bool a, .int .i64 t]] w fun e w' => e = .returned (.bool b) ∧ Below w.heap.size w w' := by
  have HL := Lib.hid h.1
  have HO := Lib.hid hb
  have HBx := Lib.hid (below_new9 w (.cells #[.int .i64 i, .bool a, .int .i64 t] 50))
  clear hb
  by_cases h80 : 80 ≤ n
  · go_enter Tryz.func33, Tryz.ntmps33
    go_wp2_with fail
    go_ret
    exact ⟨ret_b (by rw [← HO.out]; exact (Gu.can_len HL.out h80).symm), HBx.out⟩
  · by_cases hi0 : i < 0
    · go_enter Tryz.func33, Tryz.ntmps33
      go_wp2_with fail
      go_ret
      exact ⟨ret_b (by rw [← HO.out]; exact (Gu.can_ix HL.out (.inl hi0)).symm), HBx.out⟩
    · obtain ⟨k, rfl⟩ : ∃ k : Nat, i = (k : Int) := ⟨i.toNat, by omega⟩
      by_cases hk : k < n
      · obtain ⟨b1, o, x, rfl, hbB, hx, c0, c1⟩ := (h.alloc hB (.cells #[.int .i64 (k : Int), .bool a, .int .i64 t] 50)).at_Pc hk
        have HAT := Lib.hid (Gu.can_at (a := a) (t := t) HL.out (by omega) hx)
        clear hx
        by_cases ht : 1 ≤ t
        · have HS : Hid (decide (t < if a then x.h else x.w) = b) := Lib.hid (by rw [← HO.out, HAT.out]; apply Bool.eq_iff_iff.2; simp only [decide_eq_true_eq]; exact ⟨fun h => ⟨ht, h⟩, fun h => h.2⟩)
          have HB2 := Lib.hid (two_new w (.cells #[.int .i64 (k : Int), .bool a, .int .i64 t] 50) (.cells #[.int .i64 x.w, .int .i64 x.h] 25))
          cases a
          · go_enter Tryz.func33, Tryz.ntmps33
            go_wp2_with fail
            go_region_held3 (fun V => V.cell? ⟨w.heap.size, 0, none⟩ = some (.int .i64 (k : Int)) ∧ V.cell? ⟨w.heap.size, 1, none⟩ = some (.bool false) ∧ V.cell? ⟨w.heap.size, 2, none⟩ = some (.int .i64 t) ∧ V.cell? ⟨w.heap.size + 1, 0, none⟩ = some (.int .i64 x.w) ∧ V.cell? ⟨w.heap.size + 1, 1, none⟩ = some (.int .i64 x.h))
              (first | go_keep | (refine ⟨?_, ?_, ?_, ?_, ?_⟩ <;> (first | go_keep | (rw [hbk.cell (by first | omega | (simp; omega) | simp)]; first | assumption | go_keep))))
              (first
                | (go_at_call 48; with_reducible refine (divided_any (w.heap.size + 1) (k : Int) false t _).mono ?_; rintro e' w5 ⟨rfl, hbk⟩))
            have HB5 := Lib.hid (HB2.out.trans ((below_drewN' (Below.refl _ _) 1).trans (hbk.mono (by simp; omega))))
            go_wp2_with fail
            go_ret
            exact ⟨ret_b (by simpa using HS.out), HB5.out⟩
          · go_enter Tryz.func33, Tryz.ntmps33
            go_wp2_with fail
            go_region_held3 (fun V => V.cell? ⟨w.heap.size, 0, none⟩ = some (.int .i64 (k : Int)) ∧ V.cell? ⟨w.heap.size, 1, none⟩ = some (.bool true) ∧ V.cell? ⟨w.heap.size, 2, none⟩ = some (.int .i64 t) ∧ V.cell? ⟨w.heap.size + 1, 0, none⟩ = some (.int .i64 x.w) ∧ V.cell? ⟨w.heap.size + 1, 1, none⟩ = some (.int .i64 x.h))
              (first | go_keep | (refine ⟨?_, ?_, ?_, ?_, ?_⟩ <;> (first | go_keep | (rw [hbk.cell (by first | omega | (simp; omega) | simp)]; first | assumption | go_keep))))
              (first
                | (go_at_call 48; with_reducible refine (divided_any (w.heap.size + 1) (k : Int) true t _).mono ?_; rintro e' w5 ⟨rfl, hbk⟩))
            have HB5 := Lib.hid (HB2.out.trans ((below_drewN' (Below.refl _ _) 1).trans (hbk.mono (by simp; omega))))
            go_wp2_with fail
            go_ret
            exact ⟨ret_b (by simpa using HS.out), HB5.out⟩
        · have ht' : decide (1 ≤ t) = false := decide_eq_false ht
          have HB2 := Lib.hid (two_new w (.cells #[.int .i64 (k : Int), .bool a, .int .i64 t] 50) (.cells #[.int .i64 x.w, .int .i64 x.h] 25))
          go_enter Tryz.func33, Tryz.ntmps33
          go_wp2_with fail
          go_quiet (fail)
          go_wp2_with fail
          go_ret
          exact ⟨ret_b (by rw [← HO.out, HAT.out]; exact (decide_eq_false (by omega)).symm), below_drewN' HB2.out _⟩
      · go_enter Tryz.func33, Tryz.ntmps33
        go_wp2_with fail
        go_ret
        exact ⟨ret_b (by rw [← HO.out]; exact (Gu.can_ix HL.out (.inr (by show (n : Int) ≤ (k : Int); omega))).symm), HBx.out⟩

end Go.Proofs.YtbhofhobnbhhhaaGreatDoor
