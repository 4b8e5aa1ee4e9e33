/- Contracts of ReadRoman, the model's and the program's. -/
import Derived.Test.YtoanopgafihjiaaDoorRoImpl
namespace Go.Proofs.YtoanopgafihjiaaDoor
open Go.RowKit Ro

/-- What the signs of a text add up to. -/
def parL (l : List UInt8) : Nat := par (l.length + 14) signs l
def rrOk (l : List UInt8) : Bool := decide (parL l ≠ 0 ∧ romI (parL l) = l)
def rrN (l : List UInt8) : Int := if rrOk l = true then parL l else 0
theorem rr_found {l : List UInt8} {k : Nat} (h1 : 1 ≤ k) (h2 : k ≤ 3999) (h : romanL k = l) : rrN l = k ∧ rrOk l = true := by
  have hp : parL l = k := by rw [← h]; exact par_roman k (by omega)
  have ho : rrOk l = true := by
    unfold rrOk
    rw [hp]
    refine decide_eq_true ⟨by omega, ?_⟩
    unfold romI
    rw [if_pos ⟨by omega, by omega⟩]
    exact h
  refine ⟨?_, ho⟩
  unfold rrN
  rw [if_pos ho, hp]
theorem rr_no {l : List UInt8} (h : rrOk l = false) : rrN l = 0 := by
  unfold rrN
  rw [h]
  rfl
theorem rr_none {l : List UInt8} (h : ∀ j, 1 ≤ j → j ≤ 3999 → romanL j ≠ l) : rrN l = 0 ∧ rrOk l = false := by
  have ho : rrOk l = false := by
    unfold rrOk
    refine decide_eq_false fun ⟨h1, h2⟩ => ?_
    unfold romI at h2
    split at h2
    · rename_i hp
      exact h _ (by omega) (by omega) h2
    · rw [← h2] at h1
      exact h1 rfl
  exact ⟨rr_no ho, ho⟩
theorem ret_ib {a b : Int} {c d : Bool} (h : a = b) (h' : c = d) : Ending.returned (.tuple #[.int .i64 a, .bool c]) = .returned (.tuple #[.int .i64 b, .bool d]) := by rw [h, h']
theorem str_ne {t s : ByteArray} (h : ¬ t = s) : (t.toList == s.toList) = false := by
  rw [beq_eq_false_iff_ne, ByteArray.toList_eq, ByteArray.toList_eq]
  intro e
  exact h (by rw [← St_of t, ← St_of s, e])
theorem str_ne' {t s : ByteArray} (h : ¬ t = s) : (t.toList != s.toList) = true := by rw [bne, str_ne h]; rfl
theorem romI_of (k : Nat) (h1 : 1 ≤ k) (h2 : k ≤ 3999) : romI k = romanL k := if_pos ⟨by omega, by omega⟩

theorem specRoman_is (n : Int) (s : ByteArray) (w : World) (h : St (romI n) = s) :
    Calls Tryd.prog 24 #[.int .i64 n] w fun e w' => e = .returned (.string s) ∧ w = w' := by
  subst h
  exact specRoman_any n w

set_option maxRecDepth 100000 in
set_option maxHeartbeats 1000000 in
theorem specRead_any (s : ByteArray) (w : World) :
    Calls Tryd.prog 20 #[.string s] w fun e w' => e = .returned (.tuple #[.int .i64 (rrN s.data.toList), .bool (rrOk s.data.toList)]) ∧ w = w' := by
  go_enter Tryd.func20, Tryd.ntmps20
  go_wp2_with fail
  go_loop [4] (fun i => ∃ k : Nat, 1 ≤ k ∧ k ≤ 4000 ∧ i = .int .i64 k ∧ Hid (∀ j, 1 ≤ j → j < k → romanL j ≠ s.data.toList)) (fun i => 4000 - (intOf i).toNat)
  case atStart => exact ⟨1, by omega, by omega, rfl, fun j h1 h2 => by omega⟩
  case round =>
    obtain ⟨k, hk1, hk2, rfl, hno⟩ := hrel
    by_cases hlt : k ≤ 3999
    · by_cases heq : romanL k = s.data.toList
      · obtain ⟨r1, r2⟩ := rr_found hk1 hlt heq
        have R1 := Lib.hid r1
        have R2 := Lib.hid r2
        have HS : Hid (St (romI k) = s) := by show _ = _; rw [romI_of k hk1 hlt, heq, St_of]
        clear r1 r2 heq
        go_wp2_with fail
        refine (specRoman_is _ _ _ HS.out).mono ?_
        rintro e _ ⟨rfl, rfl⟩
        go_wp2_with fail
        go_ret2
        exact ⟨ret_ib R1.out.symm R2.out.symm, rfl⟩
      · obtain ⟨t, ht⟩ : ∃ t, St (romI k) = t := ⟨_, rfl⟩
        have hne : ¬ t = s := by
          intro e
          apply heq
          rw [← e, ← ht, romI_of k hk1 hlt, St_list]
        have hne1 := str_ne hne
        clear hne
        have HT := Lib.hid ht
        have HN := Lib.hid heq
        clear ht heq
        go_wp2_with fail
        refine (specRoman_is _ _ _ HT.out).mono ?_
        rintro e _ ⟨rfl, rfl⟩
        go_wp2_with fail
        go_round
        case rel => exact ⟨k + 1, by omega, by omega, by go_num, fun j h1 h2 => by
          rcases Nat.lt_or_ge j k with h | h
          · exact hno.out j h1 h
          · obtain rfl : j = k := by omega
            exact HN.out⟩
        case measure => simp [intOf]; omega
    · obtain ⟨r1, r2⟩ := rr_none (l := s.data.toList) (fun j h1 h2 => hno.out j h1 (by omega))
      have R1 := Lib.hid r1
      have R2 := Lib.hid r2
      clear r1 r2
      go_wp2_with fail
      go_ret2
      exact ⟨ret_ib R1.out.symm R2.out.symm, rfl⟩

theorem hasPrefix_is (s p : ByteArray) (b : Bool) (w : World) (h : p.data.toList.isPrefixOf s.data.toList = b) :
    Calls Tryd.prog 44 #[.string s, .string p] w fun e w' => e = .returned (.bool b) ∧ w = w' :=
  (Tryd.strings_HasPrefix s p w).mono fun _ _ ⟨he, hw⟩ => ⟨by rw [he, ← h]; rfl, hw.symm⟩
theorem implRoman_is (n : Int) (s : ByteArray) (w : World) (hsg : Sg w) (h : St (romI n) = s) :
    Calls Tryd.prog 17 #[.int .i64 n] w fun e w' => e = .returned (.string s) ∧ Below w.heap.size w w' := by
  subst h
  exact implRoman_any n w hsg

/-- What has been read, and what is left to be read. -/
def Rr (l : List UInt8) (f k acc : Nat) (R : List UInt8) : Prop := acc + par f (signs.drop k) R = parL l ∧ R.length + (13 - k) < f ∧ R.length ≤ l.length ∧ acc ≤ 1000 * (l.length - R.length)
theorem Rr.start (l : List UInt8) : Rr l (l.length + 14) 0 0 l := ⟨by rw [Nat.zero_add]; rfl, by omega, Nat.le_refl _, by omega⟩
theorem Rr.hit {l R : List UInt8} {f k acc : Nat} (h : Rr l f k acc R) (hk : k < 13) (hp : (sgS k).isPrefixOf R = true) (hl : (sgS k).length ≤ R.length) : ∃ f', Rr l f' k (acc + sgV k) (R.drop (sgS k).length) := by
  obtain ⟨h1, h2, h3, h4⟩ := h
  obtain ⟨f', rfl⟩ : ∃ f', f = f' + 1 := ⟨f - 1, by omega⟩
  obtain ⟨d1, d2, d3, d4, d5⟩ := sign_at k hk
  refine ⟨f', ?_, ?_, ?_, ?_⟩
  · rw [d1, par_step_hit f' _ _ _ _ hp] at h1
    rw [d1]
    omega
  all_goals rw [List.length_drop]; omega
theorem Rr.miss {l R : List UInt8} {f k acc : Nat} (h : Rr l f k acc R) (hk : k < 13) (hp : (sgS k).isPrefixOf R = false) : ∃ f', Rr l f' (k + 1) acc R := by
  obtain ⟨h1, h2, h3, h4⟩ := h
  obtain ⟨f', rfl⟩ : ∃ f', f = f' + 1 := ⟨f - 1, by omega⟩
  refine ⟨f', ?_, by omega, h3, h4⟩
  rwa [(sign_at k hk).1, par_step_miss f' _ _ _ _ hp] at h1
theorem Rr.done {l R : List UInt8} {f acc : Nat} (h : Rr l f 13 acc R) : acc = parL l := by
  have := h.1
  rwa [show signs.drop 13 = [] from rfl, par_nil, Nat.add_zero] at this
/-- The world is this one. -/
def WAt (X w : World) : Prop := w = X
theorem prefix_len {p R : List UInt8} (h : p.isPrefixOf R = true) : p.length ≤ R.length := (List.isPrefixOf_iff_prefix.1 h).length_le
theorem St_drop (R : List UInt8) (a : Nat) : (St R).extract a (St R).size = St (R.drop a) := by
  have h : ((St R).extract a (St R).size).data.toList = R.drop a := by
    rw [ByteArray.data_extract, Array.toList_extract, St_list]
    simp [St_size]
    exact List.take_of_length_le (by simp)
  rw [← h, St_of]

set_option maxRecDepth 100000 in
set_option maxHeartbeats 2000000 in
theorem implRead_any (s : ByteArray) (w : World) (hsg : Sg w) (hs : s.size ≤ 1048576) :
    Calls Tryd.prog 19 #[.string s] w fun e w' => e = .returned (.tuple #[.int .i64 (rrN s.data.toList), .bool (rrOk s.data.toList)]) ∧ Below w.heap.size w w' := by
  obtain ⟨l, hl⟩ : ∃ l, s.data.toList = l := ⟨_, rfl⟩
  have hll : l.length = s.size := by rw [← hl]; exact Array.length_toList
  have hsl : s = St l := by rw [← hl, St_of]
  rw [hl]
  have HSL := Lib.hid hsl
  have hl20 : l.length ≤ 1048576 := by omega
  have HSG := Lib.hid hsg
  have hgl := hsg.lt
  obtain ⟨tt, fr, hg⟩ := hsg
  clear hl hll hsl hs
  go_enter Tryd.func19, Tryd.ntmps19
  go_wp2_with (refine wpList_load_row rfl 72 (.global 0) rfl 0 rfl tt signCells fr _ hg Tryd.underlying72 rfl signSize ?_)
  clear hg
  go_loopw [4, 5, 10] (fun nn rr i wr => ∃ (k f acc : Nat) (R : List UInt8) (rs : ByteArray), k ≤ 13 ∧ i = .int .i64 k ∧ nn = .int .i64 acc ∧ rr = .string rs ∧ Hid (St R = rs) ∧ acc ≤ 1048576000 ∧ Hid (Rr l f k acc R) ∧ Below w.heap.size w wr) (fun _ _ i _ => 13 - (intOf i).toNat)
  case atStart => exact ⟨0, l.length + 14, 0, l, s, by omega, rfl, rfl, rfl, HSL.out.symm, by omega, Rr.start l, Below.refl _ _⟩
  case round =>
    obtain ⟨k, f, acc, R, rs, hk, rfl, rfl, rfl, hR, hacc, hW, hb⟩ := hrel
    obtain ⟨wo, rfl⟩ : ∃ wo : World, wo = wr := ⟨_, rfl⟩
    have hzo := hb.size
    by_cases hlt13 : k < 13
    · have hd13 : decide ((k : Int) < 13) = true := decide_eq_true (by omega)
      have hix := fun W => sign_index k hlt13 W
      obtain ⟨_, v1, v2, l1, l2⟩ := sign_at k hlt13
      obtain ⟨v, hv⟩ : ∃ v, sgV k = v := ⟨_, rfl⟩
      obtain ⟨sg, hs⟩ : ∃ sg, St (sgS k) = sg := ⟨_, rfl⟩
      have hss : sg.size = (sgS k).length := by rw [← hs, St_size]
      rw [hv] at v1 v2
      rw [hv, hs] at hix
      have HV := Lib.hid hv
      have HS := Lib.hid hs
      have HSS := Lib.hid hss
      have hsz2 : sg.size ≤ 2 := by omega
      clear hv hs hss l1 l2
      have hbx : Blk (wo.alloc (.cells #[.string sg, .int .i64 v] 71)) wo.heap.size #[.string sg, .int .i64 v] 71 := Blk.new _ _ rfl
      have hbA := hb.alloc (by omega) (.cells #[.string sg, .int .i64 v] 71)
      go_wp2_with fail
      go_loopw [4, 5] (fun nn rr wi => ∃ (f acc : Nat) (R : List UInt8) (rs : ByteArray), nn = .int .i64 acc ∧ rr = .string rs ∧ Hid (St R = rs) ∧ acc ≤ 1048576000 ∧ Hid (Rr l f k acc R) ∧ WAt (wo.alloc (.cells #[.string sg, .int .i64 v] 71)) wi) (fun _ rr _ => match rr with | .string rs => rs.size | _ => 0)
      case atStart => exact ⟨f, acc, R, rs, rfl, rfl, hR, hacc, hW, rfl⟩
      case round =>
        clear hW hR hacc hix
        obtain ⟨f, acc, R, rs, rfl, rfl, hR, hacc, hW, hwi⟩ := hrel
        have hwi' : wr = wo.alloc (.cells #[.string sg, .int .i64 v] 71) := hwi
        subst hwi'
        have b0 := hbx.cell 0 (v := .string sg) rfl
        have b1 := hbx.cell 1 (v := .int .i64 v) rfl
        obtain ⟨q, hq⟩ : ∃ q, (sgS k).isPrefixOf R = q := ⟨_, rfl⟩
        have HQ : Hid (sg.data.toList.isPrefixOf rs.data.toList = q) := by
          show _ = _
          rw [← HS.out, ← hR.out, St_list, St_list, hq]
        cases q
        · have HP := Lib.hid hq
          clear hq
          go_wp2_with fail
          refine (hasPrefix_is _ _ _ _ HQ.out).mono ?_
          rintro e _ ⟨rfl, rfl⟩
          go_wp2_with fail
          go_roundw
          case rel =>
            obtain ⟨f', hW'⟩ := hW.out.miss hlt13 HP.out
            exact ⟨k + 1, f', acc, R, rs, by omega, by go_num, rfl, rfl, hR, hacc, hW', hbA⟩
          case measure => simp [intOf]; omega
        · have hpl := prefix_len hq
          have hrs : rs.size = R.length := by rw [← hR.out, St_size]
          have hle : sg.size ≤ rs.size := by rw [hrs, HSS.out]; exact hpl
          obtain ⟨f', hW'⟩ := hW.out.hit hlt13 hq hpl
          rw [HV.out] at hW'
          have hacc2 : acc + v ≤ 1048576000 := by have := hW'.2.2.2; omega
          have HW2 := Lib.hid hW'
          have HEX : Hid (St (R.drop (sgS k).length) = rs.extract sg.size rs.size) := by
            show _ = _
            rw [← hR.out, ← St_drop, HSS.out]
          have HEL : Hid ((rs.extract sg.size rs.size).size < rs.size) := by
            show _ < _
            rw [ByteArray.size_extract]
            have := (sign_at k hlt13).2.2.2.1
            have := HSS.out
            omega
          clear hq hpl hrs hW'
          go_wp2_with fail
          refine (hasPrefix_is _ _ _ _ HQ.out).mono ?_
          rintro e _ ⟨rfl, rfl⟩
          go_wp2_with fail
          go_roundw
          case rel => exact ⟨f', acc + v, _, _, by go_num, rfl, HEX, hacc2, HW2, rfl⟩
          case measure => exact HEL.out
    · obtain rfl : k = 13 := by omega
      have hP := hW.out.done
      subst hP
      have HSG2 : Hid (Sg wo) := HSG.out.below hb hgl
      by_cases h0 : parL l = 0
      · have ho : rrOk l = false := by unfold rrOk; exact decide_eq_false fun hh => hh.1 h0
        have R1 := Lib.hid (rr_no ho)
        have R2 := Lib.hid ho
        rw [h0]
        clear ho h0
        go_wp2_with fail
        go_ret2
        exact ⟨ret_ib R1.out.symm R2.out.symm, hb⟩
      · obtain ⟨t, ht⟩ : ∃ t, St (romI (parL l)) = t := ⟨_, rfl⟩
        have HT := Lib.hid ht
        have hne0 : ¬ ((parL l : Nat) : Int) = 0 := by omega
        by_cases heq : romI (parL l) = l
        · have ho : rrOk l = true := by unfold rrOk; exact decide_eq_true ⟨h0, heq⟩
          have R1 : Hid (rrN l = parL l) := by show _ = _; unfold rrN; rw [if_pos ho]
          have R2 := Lib.hid ho
          have hts : t = s := by rw [← ht, heq, HSL.out]
          clear ho heq ht
          subst hts
          go_wp2_with fail
          refine (implRoman_is _ _ _ HSG2.out HT.out).mono ?_
          rintro e w2 ⟨rfl, hb2⟩
          go_wp2_with fail
          go_ret2
          exact ⟨ret_ib R1.out.symm R2.out.symm, hb.trans (hb2.mono hzo)⟩
        · have ho : rrOk l = false := by unfold rrOk; exact decide_eq_false fun hh => heq hh.2
          have R1 := Lib.hid (rr_no ho)
          have R2 := Lib.hid ho
          have hts : ¬ t = s := by
            intro e
            apply heq
            have := HSL.out
            rw [← e, ← ht] at this
            have h3 := congrArg (fun b : ByteArray => b.data.toList) this
            simpa only [St_list] using h3
          have hts1 := str_ne hts
          have hts2 := str_ne' hts
          clear ho heq ht
          go_wp2_with fail
          refine (implRoman_is _ _ _ HSG2.out HT.out).mono ?_
          rintro e w2 ⟨rfl, hb2⟩
          go_wp2_with fail
          go_ret2
          exact ⟨ret_ib R1.out.symm R2.out.symm, hb.trans (hb2.mono hzo)⟩
end Go.Proofs.YtoanopgafihjiaaDoor
