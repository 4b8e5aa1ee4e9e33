/- Contract of the program's PageOfLabel. -/
import Derived.Test.YtoanopgafihjiaaDoorPol
import Derived.Deep.LoopGhost
import Derived.Laws.EntriesVeiled
namespace Go.Proofs.YtoanopgafihjiaaDoor
open Go.RowKit Pg Ro

set_option maxRecDepth 100000 in
set_option maxHeartbeats 2000000 in
theorem implPol_any (f : Int) (A : Option Addr) (n c B : Nat) (r : Bool) (l : List Int) (t : ByteArray) (w : World) (h : Rd I w B A n l) (hB : B ≤ w.heap.size) (hn : n ≤ 1048576) (hf : -9223372036854775808 ≤ f ∧ f ≤ 9223372036854775807) (henv : Env w) :
    Calls Tryd.prog 14 #[BK f A n c r, .string t] w fun e w' => e = .returned (.tuple #[.int .i64 (poR r f l t), .int .i64 (poC r f l t)]) ∧ Below w.heap.size w w' := by
  have hR0 := h.alloc hB (.cells (BC f A n c r) 26)
  have HL : Hid (l.length = n) := h.1
  have HENV := Lib.hid henv
  clear henv
  by_cases ho : okP f l
  · have HO := Lib.hid (okB_yes ho)
    have HM : Hid (mild f l) := mild_ok ho
    have hn1 : 1 ≤ n := by have := ho.2.1.1; have := HL.out; omega
    have hbd := mild_take HM.out r l.length
    have hge := stop_ge r (f + 1) l (fun c hc => by have := ho.2.2 c hc; omega)
    have hu := up_ge r (f + 1)
    have hf0 := ho.1.1
    have hf1 := ho.1.2
    rw [List.take_length] at hbd
    obtain ⟨sp, hsp⟩ : ∃ s, up r (f + 1) = s := ⟨_, rfl⟩
    obtain ⟨ep, hep⟩ : ∃ e, stop r (f + 1) l = e := ⟨_, rfl⟩
    have hse : sp ≤ ep := by
      obtain ⟨c0, l', hl'⟩ : ∃ c0 l', l = c0 :: l' := by
        cases l with
        | nil => have := ho.2.1.1; simp at this
        | cons a b => exact ⟨a, b, rfl⟩
      have h1 := stop_ge r (up r (f + 1) + c0) l' (fun c hc => by have := ho.2.2 c (by rw [hl']; simp [hc]); omega)
      have h2 := ho.2.2 c0 (by rw [hl']; simp)
      have h3 : stop r (f + 1) l = stop r (up r (f + 1) + c0) l' := by rw [hl']; rfl
      omega
    have HF : Hid (poF r f l t = fnd sp t (ep - 1).toNat 1) := by show _ = _; unfold poF; rw [hsp, hep]
    rw [hep] at hbd hge
    rw [hsp] at hu
    obtain ⟨m0, m1⟩ := hbd
    have HSP := Lib.hid hsp
    have HEP := Lib.hid hep
    clear ho hsp hep
    go_enter Tryd.func14, Tryd.ntmps14
    go_wp2_with fail
    go_step3
    go_wp2_with fail
    refine (implIsBook_is _ _ _ _ _ _ _ _ _ hR0 (by simp; omega) hn hf HO.out).mono ?_
    rintro e w1 ⟨rfl, hb1⟩
    have a1 := (Blk.new (w := w) (g := w.heap.size) (BC f A n c r) 26 rfl).below hb1 (by simp)
    have a10 := a1.cell 0 (v := .int .i64 f) rfl
    have a11 := a1.cell 1 (v := .slice A n c) rfl
    have a12 := a1.cell 2 (v := .bool r) rfl
    have hB1 : Below w.heap.size w w1 := ((Below.refl w.heap.size w).alloc (Nat.le_refl _) _).trans (hb1.mono (by simp))
    have hz1 := hB1.size
    go_wp2_with fail
    go_step3
    go_wp2_with fail
    refine (labelledRuns_any _ _ _ _ _ _ _ _ (h.below hB1 hB) (by omega) HM.out hn1).mono ?_
    rintro e w2 ⟨g, rfl, hbl2, hb2⟩
    rw [HSP.out, HEP.out] at hbl2
    have hB2 := hB1.trans (hb2.mono hz1)
    clear a10 a11 a12
    go_wp2_with fail
    go_loopw [6, 7, 17] (fun s6 s7 i wr => ∃ k : Nat, k ≤ 2 ∧ i = .int .i64 k ∧ s6 = .int .i64 0 ∧ s7 = .int .i64 4 ∧ Hid (FndAt sp ep t (if k = 0 then 1 else if k = 1 then sp else ep)) ∧ Blk wr g (LR sp ep) 59 ∧ Below w.heap.size w wr) (fun _ _ i _ => 2 - (intOf i).toNat)
    case atStart => exact ⟨0, by omega, rfl, rfl, rfl, FndAt.start _ _ _, hbl2, hB2⟩
    case round =>
      clear hbl2 hB2
      obtain ⟨k, hk, rfl, rfl, rfl, hfa, hbl, hb⟩ := hrel
      obtain ⟨wo, rfl⟩ : ∃ wo : World, wo = wr := ⟨_, rfl⟩
      have hzr := hb.size
      have hlr := hbl.lt
      by_cases hlt : k < 2
      · have hd2 : decide ((k : Int) < 2) = true := decide_eq_true (by omega)
        obtain ⟨a, b, F, hrun, x0, x1, x2⟩ := LR_at sp ep k hlt
        have q0 := hbl.cell _ x0
        have q1 := hbl.cell _ x1
        have q2 := hbl.cell _ x2
        have HRUN := Lib.hid hrun
        have hF : F = fRom ∨ F = fDec := by
          rcases hrun with ⟨_, _, _, h⟩ | ⟨_, _, _, h⟩
          · exact .inl h
          · exact .inr h
        have hab : 1 ≤ a ∧ a ≤ b + 1 ∧ b + 1 ≤ ep := by
          rcases hrun with ⟨_, _, _, _⟩ | ⟨_, _, _, _⟩ <;> omega
        have hfa2 : Hid (FndAt sp ep t a) := by
          have := hfa.out
          rcases hrun with ⟨h1, h2, _⟩ | ⟨h1, h2, _⟩
          · rw [if_pos h1] at this
            rw [h2]
            exact this
          · rw [if_neg (by omega), if_pos h1] at this
            rw [h2]
            exact this
        have hend : Hid (b + 1 = if k + 1 = 0 then 1 else if k + 1 = 1 then sp else ep) := by
          show _ = _
          rcases hrun with ⟨h1, _, h2, _⟩ | ⟨h1, _, h2, _⟩
          · rw [if_neg (by omega), if_pos (by omega)]; omega
          · rw [if_neg (by omega), if_neg (by omega)]; omega
        have hbx : Blk (wo.alloc (.cells #[.int .i64 a, .int .i64 b, F] 59)) wo.heap.size #[.int .i64 a, .int .i64 b, F] 59 := Blk.new _ _ rfl
        have hblA := hbl.alloc (.cells #[.int .i64 a, .int .i64 b, F] 59)
        have hbA := hb.alloc hzr (.cells #[.int .i64 a, .int .i64 b, F] 59)
        obtain ⟨ha1, hab1, hb1'⟩ := hab
        clear hrun x0 x1 x2 hfa
        rcases hF with rfl | rfl
        all_goals
          go_wp2_with fail
          go_loopw [6, 7, 10] (fun s6 s7 i wr => ∃ p : Int, a ≤ p ∧ p ≤ b + 1 ∧ i = .int .i64 p ∧ s6 = .int .i64 0 ∧ s7 = .int .i64 4 ∧ Hid (FndAt sp ep t p) ∧ Blk wr wo.heap.size #[.int .i64 a, .int .i64 b, _] 59 ∧ Blk wr g (LR sp ep) 59 ∧ Below w.heap.size w wr) (fun _ _ i _ => (b + 1 - intOf i).toNat)
          case atStart => exact ⟨a, by omega, by omega, rfl, rfl, rfl, hfa2, hbx, hblA, hbA⟩
          case round =>
            clear hfa2 hbx hblA hbA hbl hb q0 q1 q2
            obtain ⟨p, hp1, hp2, rfl, rfl, rfl, hfa, hbx, hbl, hb⟩ := hrel
            have y0 := hbx.cell 0 (v := .int .i64 a) rfl
            have y1 := hbx.cell 1 (v := .int .i64 b) rfl
            have y2 := hbx.cell 2 rfl
            have hzi := hb.size
            have hli := hbx.lt
            by_cases hlt2 : p ≤ b
            · obtain ⟨u, hu⟩ : ∃ u, labB sp p = u := ⟨_, rfl⟩
              have HU := Lib.hid hu
              by_cases heq : u = t
              · subst heq
                obtain ⟨s1, s2⟩ := po_found HO.out (HF.out.trans (hfa.out.hit (by omega) hu))
                have S1 := Lib.hid s1
                have S2 := Lib.hid s2
                clear s1 s2 hu
                go_wp2_with fail
                refine (label_run sp ep k a b p _ u _ HRUN.out (by omega) (by omega) (by omega) hp1 hlt2 HU.out (HENV.out.below hb)).mono ?_
                rintro e w3 ⟨rfl, hb3⟩
                go_wp2_with fail
                rw [Exit.noGoto_ret]
                go_ret2
                exact ⟨tup_ii S1.out.symm S2.out.symm, hb.trans (hb3.mono hzi)⟩
              · have HN : Hid (FndAt sp ep t (p + 1)) := hfa.out.miss (by omega) (by rw [hu]; exact heq)
                have hne := str_ne heq
                clear hu heq
                go_wp2_with fail
                refine (label_run sp ep k a b p _ u _ HRUN.out (by omega) (by omega) (by omega) hp1 hlt2 HU.out (HENV.out.below hb)).mono ?_
                rintro e w3 ⟨rfl, hb3⟩
                go_wp2_with fail
                go_roundw
                case rel => exact ⟨p + 1, by omega, by omega, rfl, rfl, rfl, HN, hbx.below hb3 hli, hbl.below hb3 hbl.lt, hb.trans (hb3.mono hzi)⟩
                case measure => simp [intOf]; omega
            · have hpb : p = b + 1 := by omega
              have hlt3 : b < p := by omega
              have HN : Hid (FndAt sp ep t (if k + 1 = 0 then 1 else if k + 1 = 1 then sp else ep)) := by
                have := hfa.out
                rw [hpb, hend.out] at this
                exact this
              clear hlt2 hpb
              go_wp2_with fail
              go_roundw
              case rel => exact ⟨k + 1, by omega, by go_num, rfl, rfl, HN, hbl, hb⟩
              case measure => simp [intOf]; omega
      · obtain rfl : k = 2 := by omega
        obtain ⟨s1, s2⟩ := po_none HO.out (HF.out.trans (FndAt.done (by have := hfa.out; rw [if_neg (by decide), if_neg (by decide)] at this; exact this)))
        have S1 := Lib.hid s1
        have S2 := Lib.hid s2
        clear s1 s2
        go_wp2_with fail
        rw [Exit.noGoto_ret]
        go_ret2
        exact ⟨tup_ii S1.out.symm S2.out.symm, hb⟩
  · have HO := Lib.hid (okB_no ho)
    obtain ⟨s1, s2⟩ := po_bad (r := r) (t := t) HO.out
    have S1 := Lib.hid s1
    have S2 := Lib.hid s2
    clear s1 s2 ho
    go_enter Tryd.func14, Tryd.ntmps14
    go_wp2_with fail
    go_step3
    go_wp2_with fail
    refine (implIsBook_is _ _ _ _ _ _ _ _ _ hR0 (by simp; omega) hn hf HO.out).mono ?_
    rintro e w1 ⟨rfl, hb1⟩
    go_wp2_with fail
    rw [Exit.noGoto_ret]
    go_ret2
    exact ⟨tup_ii S1.out.symm S2.out.symm, ((Below.refl w.heap.size w).alloc (Nat.le_refl _) _).trans (hb1.mono (by simp))⟩
end Go.Proofs.YtoanopgafihjiaaDoor
