/- Contracts of AreaOf and of CountPieces, the program's and the model's. -/
import Derived.Test.YtpidcbbpcgbfiaaGuIm
import Derived.Laws.StructEq
import Derived.BigQuiet
import Derived.Deep.QuietTactic
namespace Go.Proofs.Ytpidcbbpcgbfiaa
open Go.RowKit
set_option linter.unusedVariables false

def Pc.eqv (x y : Pc) : Bool := x.w == y.w && x.h == y.h
theorem Pc.eqv_iff (x y : Pc) : x.eqv y = true ↔ x = y := by
  obtain ⟨a, b⟩ := x
  obtain ⟨a', b'⟩ := y
  simp [Pc.eqv]
set_option maxRecDepth 100000 in
theorem eqPc (x y : Pc) (W : World) : (Op.equalIn 10000 25 x.agg y.agg).run Try.prog W = .ok (x.eqv y) W := by
  have hf : Try.prog.underlying 25 = some (.struct (Try.prog.fieldsOf 25)) := by kernel_rfl
  have hp : Try.prog.stoodInHeld 25 = false := by kernel_rfl
  rw [run_equalIn_struct W 9999 _ _ _ hf hp]
  have hu := Try.underlying25
  rw [hf] at hu
  injection hu with hu
  injection hu with hu
  rw [hu]
  simp [Op.eqFields, go_sem, Try.underlying2]
  unfold Pc.eqv
  by_cases h1 : x.w = y.w <;> by_cases h2 : x.h = y.h <;> simp [h1, h2]
theorem eqlPc (x y : Pc) (W : World) : (binOp .eql 25 x.agg y.agg).run Try.prog W = .ok (.bool (x.eqv y)) W := by
  rw [run_eql_struct, eqPc]
  rfl
theorem Gu.ar_no {l : List Pc} (h : Gu.okL l = false) : Gu.arR l = 0 ∧ Gu.arC l = 1 := by unfold Gu.arR Gu.arC; rw [h]; exact ⟨rfl, rfl⟩
theorem Gu.ar_yes {l : List Pc} (h : Gu.okL l = true) : Gu.arR l = Gu.areas l ∧ Gu.arC l = 0 := by unfold Gu.arR Gu.arC; rw [h]; exact ⟨rfl, rfl⟩
theorem Gu.cp_no {l : List Pc} {p : Pc} (h : (Gu.okL l && Gu.okP p) = false) : Gu.cpR l p = 0 ∧ Gu.cpC l p = 1 := by unfold Gu.cpR Gu.cpC; rw [h]; exact ⟨rfl, rfl⟩
theorem Gu.cp_yes {l : List Pc} {p : Pc} (h : (Gu.okL l && Gu.okP p) = true) : Gu.cpR l p = (l.countP (fun x => decide (x = p)) : Int) ∧ Gu.cpC l p = 0 := by unfold Gu.cpR Gu.cpC; rw [h]; exact ⟨rfl, rfl⟩
theorem Gu.areas_take {l : List Pc} {n k : Nat} (hl : l.length = n) (hok : Gu.okL l = true) (hk : k ≤ n) : 0 ≤ Gu.areas (l.take k) ∧ Gu.areas (l.take k) ≤ 32000000000 := by
  have h1 := Gu.okL_all hok
  have h2 := Gu.areas_le (l := l.take k) fun x hx => h1.2 x (List.mem_of_mem_take hx)
  have h3 : (l.take k).length = k := by simp; omega
  rw [h3] at h2
  omega
set_option maxHeartbeats 1000000 in
theorem area_any (x : Pc) (w : World) (h : Gu.okP x = true) :
    Calls Try.prog 45 #[x.agg] w fun e w' => e = .returned (.int .i64 (x.w * x.h)) ∧ Below w.heap.size w w' := by
  have HB := Lib.hid (below_new9 w (.cells #[.int .i64 x.w, .int .i64 x.h] 25))
  have ha := Gu.area_le h
  unfold Gu.area at ha
  have e1 : IntKind.i64.wrap (x.w * x.h) = x.w * x.h := IntWalk.i64_in _ (by omega)
  clear ha
  go_enter Try.func45, Try.ntmps45
  go_wp2
  go_ret
  exact ⟨rfl, HB.out⟩

set_option maxRecDepth 100000 in
set_option maxHeartbeats 2000000 in
theorem specAr_any (A : Option Addr) (n c B : Nat) (l : List Pc) (R Cd : Int) (w : World) (h : RdS Pc.S w B A n l) (hB : B ≤ w.heap.size) (hn : n ≤ 1048577) (hR : Gu.arR l = R) (hC : Gu.arC l = Cd) :
    Calls Try.prog 29 #[.slice A n c] w fun e w' => e = .returned (.tuple #[.int .i64 R, .int .i64 Cd]) ∧ Below w.heap.size w w' := by
  have HL := Lib.hid h.1
  subst hR hC
  obtain ⟨d, hd⟩ : ∃ d, Gu.okL l = d := ⟨_, rfl⟩
  have HD := Lib.hid hd
  clear hd
  cases d
  · have HE := Lib.hid (Gu.ar_no HD.out)
    rw [HE.out.1, HE.out.2]
    go_enter Try.func29, Try.ntmps29
    go_wp2_with fail
    refine (specL9_any A n c B l false _ h hB hn HD.out).mono ?_
    rintro e w1 ⟨rfl, hb1⟩
    go_wp2_with fail
    go_ret2
    exact ⟨rfl, hb1⟩
  · have HE := Lib.hid (Gu.ar_yes HD.out)
    have hn80 : n ≤ 80 := by have := (Gu.okL_all HD.out).1; have := HL.out; omega
    rw [HE.out.1, HE.out.2]
    go_enter Try.func29, Try.ntmps29
    go_wp2_with fail
    refine (specL9_any A n c B l true _ h hB hn HD.out).mono ?_
    rintro e w1 ⟨rfl, hb1⟩
    go_wp2_with fail
    go_loopw [4, 5] (fun u i wr => ∃ (k : Nat) (u' : Int), k ≤ n ∧ i = .int .i64 k ∧ u = .int .i64 u' ∧ Hid (u' = Gu.areas (l.take k)) ∧ Below w.heap.size w wr) (fun _ i _ => n - (intOf i).toNat)
    case atStart => exact ⟨0, 0, Nat.zero_le _, rfl, rfl, Lib.hid (by simp [Gu.areas]), hb1⟩
    case round =>
      clear hb1
      obtain ⟨k, u', hk, rfl, rfl, HU, hb⟩ := hrel
      have hz := hb.size
      by_cases hlt : k < n
      · obtain ⟨b1, o, x, rfl, hbB, hx, c0, c1⟩ := (h.below hb hB).at_Pc hlt
        have HN := Lib.hid (Gu.areas_next l k x hx)
        have HXO := Lib.hid ((Gu.okL_all HD.out).2 x (List.mem_of_getElem? hx))
        have ha := Gu.area_le HXO.out
        unfold Gu.area at ha
        have hu : 0 ≤ u' ∧ u' ≤ 32000000000 := by rw [HU.out]; exact Gu.areas_take HL.out HD.out hk
        have e1 : IntKind.i64.wrap (x.w * x.h) = x.w * x.h := IntWalk.i64_in _ (by omega)
        have e2 : IntKind.i64.wrap (u' + x.w * x.h) = u' + x.w * x.h := IntWalk.i64_in _ (by omega)
        clear hx ha hu
        go_wp2_with fail
        go_quiet (fail)
        go_wp2_with fail
        have HB6 := Lib.hid (below_drewN' hb nq)
        go_roundw
        case rel => exact ⟨k + 1, u' + x.w * x.h, by omega, by go_num, rfl, Lib.hid (by rw [HN.out, HU.out]; rfl), HB6.out⟩
        case measure => simp [intOf]; omega
      · obtain rfl : k = n := by omega
        have HE2 : Hid (Gu.areas l = u') := by rw [HU.out, List.take_of_length_le (by have := HL.out; omega)]; exact Lib.hid rfl
        go_wp2_with fail
        go_ret2
        rw [HE2.out]
        exact ⟨rfl, hb⟩

set_option maxRecDepth 100000 in
set_option maxHeartbeats 2000000 in
theorem implAr_any (A : Option Addr) (n c B : Nat) (l : List Pc) (R Cd : Int) (w : World) (h : RdS Pc.S w B A n l) (hB : B ≤ w.heap.size) (hn : n ≤ 1048577) (hR : Gu.arR l = R) (hC : Gu.arC l = Cd) :
    Calls Try.prog 30 #[.slice A n c] w fun e w' => e = .returned (.tuple #[.int .i64 R, .int .i64 Cd]) ∧ Below w.heap.size w w' := by
  have HL := Lib.hid h.1
  subst hR hC
  obtain ⟨d, hd⟩ : ∃ d, Gu.okL l = d := ⟨_, rfl⟩
  have HD := Lib.hid hd
  clear hd
  cases d
  · have HE := Lib.hid (Gu.ar_no HD.out)
    rw [HE.out.1, HE.out.2]
    go_enter Try.func30, Try.ntmps30
    go_wp2_with fail
    refine (implL9_any A n c B l false _ h hB hn HD.out).mono ?_
    rintro e w1 ⟨rfl, hb1⟩
    go_wp2_with fail
    go_ret2
    exact ⟨rfl, hb1⟩
  · have HE := Lib.hid (Gu.ar_yes HD.out)
    have hn80 : n ≤ 80 := by have := (Gu.okL_all HD.out).1; have := HL.out; omega
    rw [HE.out.1, HE.out.2]
    go_enter Try.func30, Try.ntmps30
    go_wp2_with fail
    refine (implL9_any A n c B l true _ h hB hn HD.out).mono ?_
    rintro e w1 ⟨rfl, hb1⟩
    go_wp2_with fail
    go_loopw [4, 12] (fun u i wr => ∃ (k : Nat) (u' : Int), k ≤ n ∧ i = .int .i64 k ∧ u = .int .i64 u' ∧ Hid (u' = Gu.areas (l.take k)) ∧ Below w.heap.size w wr) (fun _ i _ => n - (intOf i).toNat)
    case atStart => exact ⟨0, 0, Nat.zero_le _, rfl, rfl, Lib.hid (by simp [Gu.areas]), hb1⟩
    case round =>
      clear hb1
      obtain ⟨k, u', hk, rfl, rfl, HU, hb⟩ := hrel
      have hz := hb.size
      by_cases hlt : k < n
      · obtain ⟨b1, o, x, rfl, hbB, hx, c0, c1⟩ := (h.below hb hB).at_Pc hlt
        have HN := Lib.hid (Gu.areas_next l k x hx)
        have HXO := Lib.hid ((Gu.okL_all HD.out).2 x (List.mem_of_getElem? hx))
        have ha := Gu.area_le HXO.out
        unfold Gu.area at ha
        have hu : 0 ≤ u' ∧ u' ≤ 32000000000 := by rw [HU.out]; exact Gu.areas_take HL.out HD.out hk
        have e1 : IntKind.i64.wrap (x.w * x.h) = x.w * x.h := IntWalk.i64_in _ (by omega)
        have e2 : IntKind.i64.wrap (u' + x.w * x.h) = u' + x.w * x.h := IntWalk.i64_in _ (by omega)
        clear hx ha hu
        have hAr := fun W => area_any x W HXO.out
        go_wp2_with fail
        refine (hAr _).mono ?_
        rintro e w6 ⟨rfl, hb6⟩
        have HB6 := Lib.hid (hb.trans (((Below.refl w.heap.size wr).alloc hz _).trans (hb6.mono (by simp; omega))))
        clear hb6
        go_wp2_with fail
        go_roundw
        case rel => exact ⟨k + 1, u' + x.w * x.h, by omega, by go_num, rfl, Lib.hid (by rw [HN.out, HU.out]; rfl), HB6.out⟩
        case measure => simp [intOf]; omega
      · obtain rfl : k = n := by omega
        have HE2 : Hid (Gu.areas l = u') := by rw [HU.out, List.take_of_length_le (by have := HL.out; omega)]; exact Lib.hid rfl
        go_wp2_with fail
        go_ret2
        rw [HE2.out]
        exact ⟨rfl, hb⟩

set_option maxRecDepth 100000 in
set_option maxHeartbeats 2000000 in
theorem specCp_any (A : Option Addr) (n c B : Nat) (l : List Pc) (p : Pc) (R Cd : Int) (w : World) (h : RdS Pc.S w B A n l) (hB : B ≤ w.heap.size) (hn : n ≤ 1048577) (hR : Gu.cpR l p = R) (hC : Gu.cpC l p = Cd) :
    Calls Try.prog 31 #[.slice A n c, p.agg] w fun e w' => e = .returned (.tuple #[.int .i64 R, .int .i64 Cd]) ∧ Below w.heap.size w w' := by
  have HL := Lib.hid h.1
  subst hR hC
  have HB0 := Lib.hid (below_new9 w (.cells #[.int .i64 p.w, .int .i64 p.h] 25))
  have Bx0 := Lib.hid (Blk.new (w := w) (g := w.heap.size) #[.int .i64 p.w, .int .i64 p.h] 25 rfl)
  have hr0 := h.alloc hB (.cells #[.int .i64 p.w, .int .i64 p.h] 25)
  have hz0 : w.heap.size + 1 = (w.alloc (.cells #[.int .i64 p.w, .int .i64 p.h] 25)).heap.size := by simp
  obtain ⟨d, hd⟩ : ∃ d, Gu.okL l = d := ⟨_, rfl⟩
  obtain ⟨d2, hd2⟩ : ∃ d, Gu.okP p = d := ⟨_, rfl⟩
  have HD := Lib.hid hd
  have HD2 := Lib.hid hd2
  clear hd hd2
  cases d
  · have HE := Lib.hid (Gu.cp_no (l := l) (p := p) (by rw [HD.out]; rfl))
    rw [HE.out.1, HE.out.2]
    go_enter Try.func31, Try.ntmps31
    go_wp2_with fail
    refine (specL9_any A n c B l false _ hr0 (by omega) hn HD.out).mono ?_
    rintro e w1 ⟨rfl, hb1⟩
    have z1 : w.heap.size + 1 ≤ w1.heap.size := by have h_ := hb1.size; omega
    have HB1 := Lib.hid (HB0.out.trans (hb1.mono (by omega)))
    have Bx1 := Lib.hid (Bx0.out.below hb1 (by omega))
    have c1_0 := Bx1.out.cell 0 (v := .int .i64 p.w) rfl
    have c1_1 := Bx1.out.cell 1 (v := .int .i64 p.h) rfl
    have hr1 := hr0.below hb1 (by omega)
    clear hb1
    go_wp2_with fail
    go_ret2
    exact ⟨rfl, HB1.out⟩
  · have hn80 : n ≤ 80 := by have := (Gu.okL_all HD.out).1; have := HL.out; omega
    cases d2
    · have HE := Lib.hid (Gu.cp_no (l := l) (p := p) (by rw [HD.out, HD2.out]; rfl))
      rw [HE.out.1, HE.out.2]
      go_enter Try.func31, Try.ntmps31
      go_wp2_with fail
      refine (specL9_any A n c B l true _ hr0 (by omega) hn HD.out).mono ?_
      rintro e w1 ⟨rfl, hb1⟩
      have z1 : w.heap.size + 1 ≤ w1.heap.size := by have h_ := hb1.size; omega
      have HB1 := Lib.hid (HB0.out.trans (hb1.mono (by omega)))
      have Bx1 := Lib.hid (Bx0.out.below hb1 (by omega))
      have c1_0 := Bx1.out.cell 0 (v := .int .i64 p.w) rfl
      have c1_1 := Bx1.out.cell 1 (v := .int .i64 p.h) rfl
      have hr1 := hr0.below hb1 (by omega)
      clear hb1
      go_wp2_with fail
      refine (specPc_any p false _ HD2.out).mono ?_
      rintro e w2 ⟨rfl, hb2⟩
      have z2 : w.heap.size + 1 ≤ w2.heap.size := Nat.le_trans z1 hb2.size
      have HB2 := Lib.hid (HB1.out.trans (hb2.mono (by omega)))
      have Bx2 := Lib.hid (Bx1.out.below hb2 (by omega))
      have hr2 := hr1.below hb2 (by omega)
      clear hb2 c1_0 c1_1
      go_wp2_with fail
      go_ret2
      exact ⟨rfl, HB2.out⟩
    · have HE := Lib.hid (Gu.cp_yes (l := l) (p := p) (by rw [HD.out, HD2.out]; rfl))
      rw [HE.out.1, HE.out.2]
      go_enter Try.func31, Try.ntmps31
      go_wp2_with fail
      refine (specL9_any A n c B l true _ hr0 (by omega) hn HD.out).mono ?_
      rintro e w1 ⟨rfl, hb1⟩
      have z1 : w.heap.size + 1 ≤ w1.heap.size := by have h_ := hb1.size; omega
      have HB1 := Lib.hid (HB0.out.trans (hb1.mono (by omega)))
      have Bx1 := Lib.hid (Bx0.out.below hb1 (by omega))
      have c1_0 := Bx1.out.cell 0 (v := .int .i64 p.w) rfl
      have c1_1 := Bx1.out.cell 1 (v := .int .i64 p.h) rfl
      have hr1 := hr0.below hb1 (by omega)
      clear hb1
      go_wp2_with fail
      refine (specPc_any p true _ HD2.out).mono ?_
      rintro e w2 ⟨rfl, hb2⟩
      have z2 : w.heap.size + 1 ≤ w2.heap.size := Nat.le_trans z1 hb2.size
      have HB2 := Lib.hid (HB1.out.trans (hb2.mono (by omega)))
      have Bx2 := Lib.hid (Bx1.out.below hb2 (by omega))
      have hr2 := hr1.below hb2 (by omega)
      clear hb2 c1_0 c1_1
      go_wp2_with fail
      go_loopw [6, 7] (fun u i wr => ∃ (k : Nat) (u' : Nat), k ≤ n ∧ u' ≤ k ∧ i = .int .i64 k ∧ u = .int .i64 (u' : Int) ∧ Hid (u' = (l.take k).countP (fun x => decide (x = p))) ∧ Below w.heap.size w wr ∧ Below w2.heap.size w2 wr) (fun _ i _ => n - (intOf i).toNat)
      case atStart => exact ⟨0, 0, Nat.zero_le _, Nat.le_refl _, rfl, rfl, Lib.hid (by simp), HB2.out, Below.refl _ _⟩
      case round =>
        obtain ⟨k, u', hk, huk, rfl, rfl, HU, hb, hbw⟩ := hrel
        have hz := hb.size
        have Bx := Bx2.out.below hbw (by omega)
        have c0_ := Bx.cell 0 (v := .int .i64 p.w) rfl
        have c1_ := Bx.cell 1 (v := .int .i64 p.h) rfl
        by_cases hlt : k < n
        · obtain ⟨b1, o, x, rfl, hbB, hx, c0, c1⟩ := (hr2.below hbw (by omega)).at_Pc hlt
          have HN := Lib.hid (Gu.count_next l p k x hx)
          obtain ⟨v, hv⟩ : ∃ v, x.eqv p = v := ⟨_, rfl⟩
          have hEq : ∀ W, (binOp .eql 25 x.agg p.agg).run Try.prog W = .ok (.bool v) W := fun W => by rw [← hv]; exact eqlPc x p W
          have HV : Hid (if v then x = p else ¬ x = p) := by
            cases v
            · exact Lib.hid (fun h => by rw [(Pc.eqv_iff x p).2 h] at hv; cases hv)
            · exact Lib.hid ((Pc.eqv_iff x p).1 hv)
          have e3 : IntKind.i64.wrap ((u' : Int) + 1) = (u' : Int) + 1 := IntWalk.i64_in _ (by omega)
          clear hx hv
          cases v
          · go_wp2_with fail
            go_quiet (fail)
            go_wp2_with fail
            go_roundw
            case rel => exact ⟨k + 1, u', by omega, by omega, by go_num, rfl, Lib.hid (by rw [HN.out, if_neg (show ¬ x = p by simpa using HV.out), ← HU.out]; rfl), below_drewN' hb _, below_drewN' hbw _⟩
            case measure => simp [intOf]; omega
          · go_wp2_with fail
            go_quiet (fail)
            go_wp2_with fail
            go_roundw
            case rel => exact ⟨k + 1, u' + 1, by omega, by omega, by go_num, by go_num, Lib.hid (by rw [HN.out, if_pos (show x = p by simpa using HV.out), ← HU.out]), below_drewN' hb _, below_drewN' hbw _⟩
            case measure => simp [intOf]; omega
        · obtain rfl : k = n := by omega
          have HE2 : Hid (l.countP (fun x => decide (x = p)) = u') := by rw [HU.out, List.take_of_length_le (by have := HL.out; omega)]; exact Lib.hid rfl
          go_wp2_with fail
          go_ret2
          rw [HE2.out]
          exact ⟨rfl, hb⟩

set_option maxRecDepth 100000 in
set_option maxHeartbeats 2000000 in
theorem implCp_any (A : Option Addr) (n c B : Nat) (l : List Pc) (p : Pc) (R Cd : Int) (w : World) (h : RdS Pc.S w B A n l) (hB : B ≤ w.heap.size) (hn : n ≤ 1048577) (hR : Gu.cpR l p = R) (hC : Gu.cpC l p = Cd) :
    Calls Try.prog 32 #[.slice A n c, p.agg] w fun e w' => e = .returned (.tuple #[.int .i64 R, .int .i64 Cd]) ∧ Below w.heap.size w w' := by
  have HL := Lib.hid h.1
  subst hR hC
  have HB0 := Lib.hid (below_new9 w (.cells #[.int .i64 p.w, .int .i64 p.h] 25))
  have Bx0 := Lib.hid (Blk.new (w := w) (g := w.heap.size) #[.int .i64 p.w, .int .i64 p.h] 25 rfl)
  have hr0 := h.alloc hB (.cells #[.int .i64 p.w, .int .i64 p.h] 25)
  have hz0 : w.heap.size + 1 = (w.alloc (.cells #[.int .i64 p.w, .int .i64 p.h] 25)).heap.size := by simp
  obtain ⟨d, hd⟩ : ∃ d, Gu.okL l = d := ⟨_, rfl⟩
  obtain ⟨d2, hd2⟩ : ∃ d, Gu.okP p = d := ⟨_, rfl⟩
  have HD := Lib.hid hd
  have HD2 := Lib.hid hd2
  clear hd hd2
  cases d
  · have HE := Lib.hid (Gu.cp_no (l := l) (p := p) (by rw [HD.out]; rfl))
    rw [HE.out.1, HE.out.2]
    go_enter Try.func32, Try.ntmps32
    go_wp2_with fail
    refine (implL9_any A n c B l false _ hr0 (by omega) hn HD.out).mono ?_
    rintro e w1 ⟨rfl, hb1⟩
    have z1 : w.heap.size + 1 ≤ w1.heap.size := by have h_ := hb1.size; omega
    have HB1 := Lib.hid (HB0.out.trans (hb1.mono (by omega)))
    have Bx1 := Lib.hid (Bx0.out.below hb1 (by omega))
    have c1_0 := Bx1.out.cell 0 (v := .int .i64 p.w) rfl
    have c1_1 := Bx1.out.cell 1 (v := .int .i64 p.h) rfl
    have hr1 := hr0.below hb1 (by omega)
    clear hb1
    go_wp2_with fail
    go_ret2
    exact ⟨rfl, HB1.out⟩
  · have hn80 : n ≤ 80 := by have := (Gu.okL_all HD.out).1; have := HL.out; omega
    cases d2
    · have HE := Lib.hid (Gu.cp_no (l := l) (p := p) (by rw [HD.out, HD2.out]; rfl))
      rw [HE.out.1, HE.out.2]
      go_enter Try.func32, Try.ntmps32
      go_wp2_with fail
      refine (implL9_any A n c B l true _ hr0 (by omega) hn HD.out).mono ?_
      rintro e w1 ⟨rfl, hb1⟩
      have z1 : w.heap.size + 1 ≤ w1.heap.size := by have h_ := hb1.size; omega
      have HB1 := Lib.hid (HB0.out.trans (hb1.mono (by omega)))
      have Bx1 := Lib.hid (Bx0.out.below hb1 (by omega))
      have c1_0 := Bx1.out.cell 0 (v := .int .i64 p.w) rfl
      have c1_1 := Bx1.out.cell 1 (v := .int .i64 p.h) rfl
      have hr1 := hr0.below hb1 (by omega)
      clear hb1
      go_wp2_with fail
      refine (implPc_any p false _ HD2.out).mono ?_
      rintro e w2 ⟨rfl, hb2⟩
      have z2 : w.heap.size + 1 ≤ w2.heap.size := Nat.le_trans z1 hb2.size
      have HB2 := Lib.hid (HB1.out.trans (hb2.mono (by omega)))
      have Bx2 := Lib.hid (Bx1.out.below hb2 (by omega))
      have hr2 := hr1.below hb2 (by omega)
      clear hb2 c1_0 c1_1
      go_wp2_with fail
      go_ret2
      exact ⟨rfl, HB2.out⟩
    · have HE := Lib.hid (Gu.cp_yes (l := l) (p := p) (by rw [HD.out, HD2.out]; rfl))
      rw [HE.out.1, HE.out.2]
      go_enter Try.func32, Try.ntmps32
      go_wp2_with fail
      refine (implL9_any A n c B l true _ hr0 (by omega) hn HD.out).mono ?_
      rintro e w1 ⟨rfl, hb1⟩
      have z1 : w.heap.size + 1 ≤ w1.heap.size := by have h_ := hb1.size; omega
      have HB1 := Lib.hid (HB0.out.trans (hb1.mono (by omega)))
      have Bx1 := Lib.hid (Bx0.out.below hb1 (by omega))
      have c1_0 := Bx1.out.cell 0 (v := .int .i64 p.w) rfl
      have c1_1 := Bx1.out.cell 1 (v := .int .i64 p.h) rfl
      have hr1 := hr0.below hb1 (by omega)
      clear hb1
      go_wp2_with fail
      refine (implPc_any p true _ HD2.out).mono ?_
      rintro e w2 ⟨rfl, hb2⟩
      have z2 : w.heap.size + 1 ≤ w2.heap.size := Nat.le_trans z1 hb2.size
      have HB2 := Lib.hid (HB1.out.trans (hb2.mono (by omega)))
      have Bx2 := Lib.hid (Bx1.out.below hb2 (by omega))
      have hr2 := hr1.below hb2 (by omega)
      clear hb2 c1_0 c1_1
      go_wp2_with fail
      go_loopw [6, 19] (fun u i wr => ∃ (k : Nat) (u' : Nat), k ≤ n ∧ u' ≤ k ∧ i = .int .i64 k ∧ u = .int .i64 (u' : Int) ∧ Hid (u' = (l.take k).countP (fun x => decide (x = p))) ∧ Below w.heap.size w wr ∧ Below w2.heap.size w2 wr) (fun _ i _ => n - (intOf i).toNat)
      case atStart => exact ⟨0, 0, Nat.zero_le _, Nat.le_refl _, rfl, rfl, Lib.hid (by simp), HB2.out, Below.refl _ _⟩
      case round =>
        obtain ⟨k, u', hk, huk, rfl, rfl, HU, hb, hbw⟩ := hrel
        have hz := hb.size
        have Bx := Bx2.out.below hbw (by omega)
        have c0_ := Bx.cell 0 (v := .int .i64 p.w) rfl
        have c1_ := Bx.cell 1 (v := .int .i64 p.h) rfl
        by_cases hlt : k < n
        · obtain ⟨b1, o, x, rfl, hbB, hx, c0, c1⟩ := (hr2.below hbw (by omega)).at_Pc hlt
          have HN := Lib.hid (Gu.count_next l p k x hx)
          obtain ⟨v, hv⟩ : ∃ v, x.eqv p = v := ⟨_, rfl⟩
          have hEq : ∀ W, (binOp .eql 25 x.agg p.agg).run Try.prog W = .ok (.bool v) W := fun W => by rw [← hv]; exact eqlPc x p W
          have HV : Hid (if v then x = p else ¬ x = p) := by
            cases v
            · exact Lib.hid (fun h => by rw [(Pc.eqv_iff x p).2 h] at hv; cases hv)
            · exact Lib.hid ((Pc.eqv_iff x p).1 hv)
          have e3 : IntKind.i64.wrap ((u' : Int) + 1) = (u' : Int) + 1 := IntWalk.i64_in _ (by omega)
          clear hx hv
          have hbx : Below w.heap.size w (wr.alloc (.cells #[.int .i64 x.w, .int .i64 x.h] 25)) := hb.alloc hz _
          have HBX := Lib.hid hbx
          have BxA := Bx.alloc (.cells #[.int .i64 x.w, .int .i64 x.h] 25)
          have a0 := BxA.cell 0 (v := .int .i64 p.w) rfl
          have a1 := BxA.cell 1 (v := .int .i64 p.h) rfl
          clear hbx BxA
          cases v
          · go_wp2_with fail
            go_roundw
            case rel => exact ⟨k + 1, u', by omega, by omega, by go_num, rfl, Lib.hid (by rw [HN.out, if_neg (show ¬ x = p by simpa using HV.out), ← HU.out]; rfl), HBX.out, Below.trans hbw ((Below.refl _ _).alloc (Below.size hbw) _)⟩
            case measure => simp [intOf]; omega
          · go_wp2_with fail
            go_roundw
            case rel => exact ⟨k + 1, u' + 1, by omega, by omega, by go_num, by go_num, Lib.hid (by rw [HN.out, if_pos (show x = p by simpa using HV.out), ← HU.out]), HBX.out, Below.trans hbw ((Below.refl _ _).alloc (Below.size hbw) _)⟩
            case measure => simp [intOf]; omega
        · obtain rfl : k = n := by omega
          have HE2 : Hid (l.countP (fun x => decide (x = p)) = u') := by rw [HU.out, List.take_of_length_le (by have := HL.out; omega)]; exact Lib.hid rfl
          go_wp2_with fail
          go_ret2
          rw [HE2.out]
          exact ⟨rfl, hb⟩

end Go.Proofs.Ytpidcbbpcgbfiaa
