/- Contracts of LabelOf, the model's and the program's. -/
import Derived.Test.YtoanopgafihjiaaDoorLbl
import Derived.Laws.EntriesVeiled
namespace Go.Proofs.YtoanopgafihjiaaDoor
open Go.RowKit Pg Ro

def loR (r : Bool) (f : Int) (l : List Int) (p : Int) : ByteArray := if cpC r f l p = 0 then labB (up r (f + 1)) p else ⟨#[]⟩
theorem tup_si {a b : ByteArray} {c d : Int} (h : a = b) (h' : c = d) : Ending.returned (.tuple #[.string a, .int .i64 c]) = .returned (.tuple #[.string b, .int .i64 d]) := by rw [h, h']

set_option maxRecDepth 100000 in
set_option maxHeartbeats 2000000 in
theorem l02Label_any (f : Int) (A : Option Addr) (n c B : Nat) (r : Bool) (l : List Int) (p : Int) (t : ByteArray) (w : World) (h : Rd I w B A n l) (hB : B ≤ w.heap.size) (hmi : mild f l) (hn1 : 1 ≤ n) (hp0 : -1000000 ≤ p) (hp1 : p ≤ 2000000) (ht : labB (up r (f + 1)) p = t) :
    Calls Tryd.prog 35 #[BK f A n c r, .int .i64 p] w fun e w' => e = .returned (.string t) ∧ Below w.heap.size w w' := by
  have HM := Lib.hid hmi
  have HL : Hid (l.length = n) := h.1
  have hf0 := hmi.1
  have hf1 := hmi.2.1
  have hu := up_ge r (f + 1)
  clear hmi
  go_enter Tryd.func35, Tryd.ntmps35
  go_wp2_with fail
  refine (l02Starts_any _ _ _ _ _ _ _ _ (h.alloc hB _) (by simp; omega) HM.out).mono ?_
  rintro e w1 ⟨A1, n1, c1, rfl, hn1', ho1, hb1⟩
  obtain rfl : n1 = n := hn1'.trans HL.out
  obtain ⟨g1, y, rfl, _, _, _, hy, hcy, _⟩ := ho1.at_ (k := 0) (by omega)
  have hyv : up r (f + 1) = y := by
    rw [starts_at r (f + 1) l 0 (by rw [HL.out]; omega)] at hy
    injection hy
  rw [hyv] at ht hu
  have hB1 : Below w.heap.size w w1 := ((Below.refl w.heap.size w).alloc (Nat.le_refl _) _).trans (hb1.mono (by simp))
  clear hn1' hy hyv
  by_cases hlt : p < y
  · have HT : Hid (St (romI p) = t) := by show _ = _; rw [← ht]; unfold labB; rw [if_pos hlt]
    clear ht
    go_wp2_with fail
    refine (specRoman_any _ _).mono ?_
    rintro e _ ⟨rfl, rfl⟩
    go_wp2_with fail
    go_ret
    exact ⟨ret_s HT.out, hB1⟩
  · have HT : Hid (dec (p - y + 1).toNat = t) := by show _ = _; rw [← ht]; unfold labB; rw [if_neg hlt]
    have hle : y ≤ p := by omega
    clear ht hlt
    go_wp2_with fail
    refine (l01Dec_int _ _ (by omega) (by omega)).mono ?_
    rintro e w2 ⟨rfl, hb2⟩
    go_wp2_with fail
    go_ret
    exact ⟨ret_s HT.out, hB1.trans (hb2.mono hB1.size)⟩

set_option maxRecDepth 100000 in
set_option maxHeartbeats 2000000 in
theorem specLbl_any (f : Int) (A : Option Addr) (n c B : Nat) (r : Bool) (l : List Int) (p : Int) (w : World) (h : Rd I w B A n l) (hB : B ≤ w.heap.size) (hn : n ≤ 1048576) :
    Calls Tryd.prog 12 #[BK f A n c r, .int .i64 p] w fun e w' => e = .returned (.tuple #[.string (loR r f l p), .int .i64 (cpC r f l p)]) ∧ Below w.heap.size w w' := by
  have hR0 := h.alloc hB (.cells (BC f A n c r) 26)
  have HL : Hid (l.length = n) := h.1
  rcases cp_cases r f l p with ⟨hq, ho, hp1, hp2⟩ | ⟨hq, _⟩ | ⟨hq, _⟩
  · have HQ := Lib.hid hq
    have HM : Hid (mild f l) := mild_ok ho
    have hn1 : 1 ≤ n := by have := ho.2.1.1; have := HL.out; omega
    have hbd := mild_take HM.out r l.length
    rw [List.take_length] at hbd
    obtain ⟨m0, m1⟩ := hbd
    obtain ⟨t, ht⟩ : ∃ t, labB (up r (f + 1)) p = t := ⟨_, rfl⟩
    have HT := Lib.hid ht
    have HR : Hid (loR r f l p = t) := by show _ = _; unfold loR; rw [if_pos hq, ht]
    clear hq ho ht
    go_enter Tryd.func12, Tryd.ntmps12
    go_wp2_with fail
    refine (l02Code_is _ _ _ _ _ _ _ _ _ _ hR0 (by simp; omega) hn HQ.out).mono ?_
    rintro e w1 ⟨rfl, hb1⟩
    have a1 := (Blk.new (w := w) (g := w.heap.size) (BC f A n c r) 26 rfl).below hb1 (by simp)
    have a10 := a1.cell 0 (v := .int .i64 f) rfl
    have a11 := a1.cell 1 (v := .slice A n c) rfl
    have a12 := a1.cell 2 (v := .bool r) rfl
    have hB1 : Below w.heap.size w w1 := ((Below.refl w.heap.size w).alloc (Nat.le_refl _) _).trans (hb1.mono (by simp))
    have hz1 := hB1.size
    go_wp2_with fail
    refine (l02Label_any _ _ _ _ _ _ _ _ _ _ (h.below hB1 hB) (by omega) HM.out hn1 (by omega) (by omega) HT.out).mono ?_
    rintro e w2 ⟨rfl, hb2⟩
    go_wp2_with fail
    go_ret2
    exact ⟨tup_si HR.out.symm HQ.out.symm, hB1.trans (hb2.mono hz1)⟩
  all_goals
    have HQ := Lib.hid hq
    have HR : Hid (loR r f l p = ⟨#[]⟩) := by show _ = _; unfold loR; rw [hq, if_neg (by decide)]
    clear hq
    go_enter Tryd.func12, Tryd.ntmps12
    go_wp2_with fail
    refine (l02Code_is _ _ _ _ _ _ _ _ _ _ hR0 (by simp; omega) hn HQ.out).mono ?_
    rintro e w1 ⟨rfl, hb1⟩
    go_wp2_with fail
    go_ret2
    exact ⟨tup_si HR.out.symm HQ.out.symm, ((Below.refl w.heap.size w).alloc (Nat.le_refl _) _).trans (hb1.mono (by simp))⟩

/-- The label found behind k runs. -/
def LbAt (s p : Int) (k : Nat) (t : ByteArray) : Prop := (k = 0 → t = ⟨#[]⟩) ∧ (k = 1 → t = if p < s then labB s p else ⟨#[]⟩) ∧ (k = 2 → t = labB s p)

set_option maxRecDepth 100000 in
set_option maxHeartbeats 2000000 in
theorem implLbl_any (f : Int) (A : Option Addr) (n c B : Nat) (r : Bool) (l : List Int) (p : Int) (w : World) (h : Rd I w B A n l) (hB : B ≤ w.heap.size) (hn : n ≤ 1048576) (hf : -9223372036854775808 ≤ f ∧ f ≤ 9223372036854775807) (henv : Env w) :
    Calls Tryd.prog 11 #[BK f A n c r, .int .i64 p] w fun e w' => e = .returned (.tuple #[.string (loR r f l p), .int .i64 (cpC r f l p)]) ∧ Below w.heap.size w w' := by
  have hR0 := h.alloc hB (.cells (BC f A n c r) 26)
  have HL : Hid (l.length = n) := h.1
  have HENV := Lib.hid henv
  clear henv
  rcases cp_cases r f l p with ⟨hq, ho, hp1, hp2⟩ | ⟨hq, _⟩ | ⟨hq, _⟩
  · have HQ := Lib.hid hq
    have HM : Hid (mild f l) := mild_ok ho
    have hn1 : 1 ≤ n := by have := ho.2.1.1; have := HL.out; omega
    have hbd := mild_take HM.out r l.length
    rw [List.take_length] at hbd
    obtain ⟨m0, m1⟩ := hbd
    have hu := up_ge r (f + 1)
    have hf0 := ho.1.1
    have hf1 := ho.1.2
    obtain ⟨t0, ht⟩ : ∃ t, labB (up r (f + 1)) p = t := ⟨_, rfl⟩
    have HT := Lib.hid ht
    have HR : Hid (loR r f l p = t0) := by show _ = _; unfold loR; rw [if_pos hq, ht]
    obtain ⟨sp, hsp⟩ : ∃ s, up r (f + 1) = s := ⟨_, rfl⟩
    obtain ⟨ep, hep⟩ : ∃ e, stop r (f + 1) l = e := ⟨_, rfl⟩
    rw [hsp] at hu HT
    rw [hep] at hp2 m0 m1
    have HSP := Lib.hid hsp
    have HEP := Lib.hid hep
    clear hq ho ht hsp hep
    go_enter Tryd.func11, Tryd.ntmps11
    go_wp2_with fail
    refine (checkPage_is _ _ _ _ _ _ _ _ _ _ hR0 (by simp; omega) hn hf HQ.out).mono ?_
    rintro e w1 ⟨rfl, hb1⟩
    have a1 := (Blk.new (w := w) (g := w.heap.size) (BC f A n c r) 26 rfl).below hb1 (by simp)
    have a10 := a1.cell 0 (v := .int .i64 f) rfl
    have a11 := a1.cell 1 (v := .slice A n c) rfl
    have a12 := a1.cell 2 (v := .bool r) rfl
    have hB1 : Below w.heap.size w w1 := ((Below.refl w.heap.size w).alloc (Nat.le_refl _) _).trans (hb1.mono (by simp))
    have hz1 := hB1.size
    go_wp2_with fail
    refine (labelledRuns_any _ _ _ _ _ _ _ _ (h.below hB1 hB) (by omega) HM.out hn1).mono ?_
    rintro e w2 ⟨g, rfl, hbl2, hb2⟩
    rw [HSP.out, HEP.out] at hbl2
    have hB2 := hB1.trans (hb2.mono hz1)
    clear a10 a11 a12
    go_wp2_with fail
    go_loopw [7, 19] (fun v i wr => ∃ (k : Nat) (t : ByteArray), k ≤ 2 ∧ i = .int .i64 k ∧ v = .string t ∧ Hid (LbAt sp p k t) ∧ Blk wr g (LR sp ep) 59 ∧ Below w.heap.size w wr) (fun _ i _ => 2 - (intOf i).toNat)
    case atStart => exact ⟨0, ⟨#[]⟩, by omega, rfl, rfl, ⟨fun _ => rfl, fun h => by omega, fun h => by omega⟩, hbl2, hB2⟩
    case round =>
      clear hbl2 hB2
      obtain ⟨k, t, hk, rfl, rfl, hlb, hbl, hb⟩ := hrel
      have hzr := hb.size
      have hlr := hbl.lt
      by_cases hlt : k < 2
      · obtain ⟨a, b, F, hrun, x0, x1, x2⟩ := LR_at sp ep k hlt
        have q0 := hbl.cell _ x0
        have q1 := hbl.cell _ x1
        have q2 := hbl.cell _ x2
        have HRUN := Lib.hid hrun
        have hF : F = fRom ∨ F = fDec := by
          rcases hrun with ⟨_, _, _, h⟩ | ⟨_, _, _, h⟩
          · exact .inl h
          · exact .inr h
        have hbx : Blk (wr.alloc (.cells #[.int .i64 a, .int .i64 b, F] 59)) wr.heap.size #[.int .i64 a, .int .i64 b, F] 59 := Blk.new _ _ rfl
        have hblA := hbl.alloc (.cells #[.int .i64 a, .int .i64 b, F] 59)
        have hbA := hb.alloc hzr (.cells #[.int .i64 a, .int .i64 b, F] 59)
        clear hrun x0 x1 x2
        by_cases hin : a ≤ p ∧ p ≤ b
        · obtain ⟨i1, i2⟩ := hin
          rcases hF with rfl | rfl
          all_goals
            go_wp2_with fail
            refine (has_yes _ _ _ _ ⟨i1, i2⟩).mono ?_
            rintro e w4 ⟨rfl, hb4⟩
            have hbx4 := hbx.below hb4 (by simp)
            have y0 := hbx4.cell 0 (v := .int .i64 a) rfl
            have y1 := hbx4.cell 1 (v := .int .i64 b) rfl
            have y2 := hbx4.cell 2 rfl
            have hb4' : Below w.heap.size w w4 := hbA.trans (hb4.mono (by simp; omega))
            have hz4 := hb4.size
            simp only [World.size_alloc] at hz4
            go_wp2_with fail
            refine (label_run sp ep k a b p _ t0 _ HRUN.out (by omega) (by omega) (by omega) i1 i2 HT.out (HENV.out.below hb4')).mono ?_
            rintro e w5 ⟨rfl, hb5⟩
            go_wp2_with fail
            go_roundw
            case rel =>
              refine ⟨k + 1, t0, by omega, by go_num, rfl, ?_, (hblA.below hb4 (by simp; omega)).below hb5 (by omega), hb4'.trans (hb5.mono (by omega))⟩
              have hru := HRUN.out
              refine ⟨fun h => by omega, fun h => ?_, fun _ => HT.out.symm⟩
              rcases hru with ⟨_, _, hb', _⟩ | ⟨hk1, _⟩
              · rw [if_pos (by omega)]
                exact HT.out.symm
              · omega
            case measure => simp [intOf]; omega
        · have HIN := Lib.hid hin
          have hcase : p < a ∨ (a ≤ p ∧ b < p) := by omega
          clear hin
          rcases hF with rfl | rfl
          all_goals
            go_wp2_with fail
            refine (has_no _ _ _ _ HIN.out).mono ?_
            rintro e w4 ⟨rfl, hb4⟩
            go_wp2_with fail
            go_roundw
            case rel =>
              refine ⟨k + 1, t, by omega, by go_num, rfl, ?_, hblA.below hb4 (by simp; omega), hbA.trans (hb4.mono (by simp; omega))⟩
              have hru := HRUN.out
              obtain ⟨z0, z1, z2⟩ := hlb.out
              refine ⟨fun h => by omega, fun h => ?_, fun h => ?_⟩
              · rcases hru with ⟨hk0, ha', hb', _⟩ | ⟨hk1, _⟩
                · rw [if_neg (by omega)]
                  exact z0 hk0
                · omega
              · rcases hru with ⟨hk0, _⟩ | ⟨hk1, ha', hb', _⟩
                · omega
                · rw [z1 hk1, if_pos (by omega)]
            case measure => simp [intOf]; omega
      · obtain rfl : k = 2 := by omega
        have hT2 := Lib.hid (hlb.out.2.2 rfl)
        go_wp2_with fail
        go_ret2
        exact ⟨tup_si (by rw [hT2.out, HT.out, HR.out]) HQ.out.symm, hb⟩
  all_goals
    have HQ := Lib.hid hq
    have HR : Hid (loR r f l p = ⟨#[]⟩) := by show _ = _; unfold loR; rw [hq, if_neg (by decide)]
    clear hq
    go_enter Tryd.func11, Tryd.ntmps11
    go_wp2_with fail
    refine (checkPage_is _ _ _ _ _ _ _ _ _ _ hR0 (by simp; omega) hn hf HQ.out).mono ?_
    rintro e w1 ⟨rfl, hb1⟩
    go_wp2_with fail
    go_ret2
    exact ⟨tup_si HR.out.symm HQ.out.symm, ((Below.refl w.heap.size w).alloc (Nat.le_refl _) _).trans (hb1.mono (by simp))⟩
end Go.Proofs.YtoanopgafihjiaaDoor
