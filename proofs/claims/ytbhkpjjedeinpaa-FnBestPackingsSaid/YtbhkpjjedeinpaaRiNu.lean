/- Contract of the program's numbering of rolls anew. -/
import Derived.Test.YtbhkpjjedeinpaaRiFf
namespace Go.Proofs.Ytbhkpjjedeinpaa
open Go.RowKit
set_option linter.unusedVariables false

theorem Rl.idx_first {L : List Int} {p : Int} {k : Nat} (h : L[k]? = some p) (hn : p ∉ L.take k) : L.idxOf p = k := by
  induction L generalizing k with
  | nil => simp at h
  | cons a L ih =>
    cases k with
    | zero =>
      simp at h
      subst h
      simp
    | succ k =>
      simp only [List.getElem?_cons_succ] at h
      simp only [List.take_succ_cons, List.mem_cons, not_or] at hn
      have h2 : ¬ a = p := fun e => hn.1 e.symm
      have h3 := ih h hn.2
      have hb : (a == p) = false := by simpa using h2
      rw [List.idxOf_cons, hb, h3]
      rfl
set_option maxRecDepth 100000 in
set_option maxHeartbeats 1000000 in
theorem idxI_any (A : Option Addr) (n c B : Nat) (p : Int) (L : List Int) (w : World) (h : Rd I w B A n L) (hn : n ≤ 1048576) (v : Int) (hv : (if p ∈ L then (L.idxOf p : Int) else -1) = v) :
    Calls Try.prog 71 #[.slice A n c, .int .i64 p] w fun e w' => e = .returned (.int .i64 v) ∧ w = w' := by
  have HL : Hid (L.length = n) := h.1
  have HV := Lib.hid hv
  clear hv
  go_enter Try.func71, Try.ntmps71
  go_wp2
  go_loop [5, 8] (fun _ i => ∃ k : Nat, k ≤ n ∧ i = .int .i64 k ∧ Hid (p ∉ L.take k)) (fun _ i => n - (intOf i).toNat)
  case atStart => exact ⟨0, Nat.zero_le _, rfl, Lib.hid (by simp)⟩
  case round =>
    obtain ⟨k, hk, rfl, HN⟩ := hrel
    by_cases hlt : k < n
    · obtain ⟨b, o, x, rfl, hbB, hx, hc⟩ := h.at_ hlt
      have HX := Lib.hid hx
      clear hx
      by_cases hxp : p = x
      · have HE : Hid ((k : Int) = v) := Lib.hid (by
          have h1 := HX.out
          rw [← hxp] at h1
          rw [← HV.out, if_pos (List.mem_of_getElem? h1), Rl.idx_first h1 HN.out])
        subst hxp
        go_wp2
        go_ret
        exact ⟨ret_i HE.out, rfl⟩
      · have hne : (p == x) = false := by simpa using hxp
        go_wp2
        go_round
        case rel =>
          refine ⟨k + 1, by omega, by go_num, Lib.hid ?_⟩
          rw [take_nextRl L k x HX.out, List.mem_append]
          rintro (hh | hh)
          · exact HN.out hh
          · exact hxp (List.mem_singleton.1 hh)
        case measure => simp [intOf]; omega
    · obtain rfl : k = n := by omega
      have HE : Hid (-1 = v) := Lib.hid (by
        have h1 := HN.out
        rw [List.take_of_length_le (Nat.le_of_eq HL.out)] at h1
        rw [← HV.out, if_neg h1])
      go_wp2
      go_ret
      exact ⟨ret_i HE.out, rfl⟩
set_option maxRecDepth 100000 in
set_option maxHeartbeats 8000000 in
theorem renum_any (A : Option Addr) (n c B : Nat) (p : List Int) (w : World) (h : Rd I w B A n p) (hB : B ≤ w.heap.size) (hn : n ≤ 1000) :
    Calls Try.prog 65 #[.slice A n c] w fun e w' => ∃ A' c', e = .returned (.slice A' n c') ∧ Own I w' w.heap.size w'.heap.size 2 (.slice A' n c') (Rl.number p) ∧ Below w.heap.size w w' := by
  obtain ⟨i0, hi0, hz0, hz1, hz2⟩ := info_parts infoI
  have HL := Lib.hid h.1
  have hml : n ≤ maxLen := by unfold maxLen; omega
  go_enter Try.func65, Try.ntmps65
  go_wp2_with (at_make; refine wpList_make_full _ rfl _ _ 24 rfl w.heap.size 2 i0 (.int .i64 0) 1 Try.underlying24 hi0 hz0 hz1 .i64 .i64 _ _ n rfl rfl rfl rfl (by rw [hz2]; omega) hml (Nat.le_refl _) ?_; intro w1 hown1 hg1)
  have hown : Own I w1 w.heap.size (w.heap.size + 1) 2 (.slice (some ⟨w.heap.size, 0, none⟩) n n) (List.replicate n 0) := by
    refine ⟨?_, fun k hk => by simp [Value.ownBlock] at hk; omega⟩
    have hz : (Value.int IntKind.i64 0).cells = #[.int .i64 0] := rfl
    rw [hz, toList_madeCells_one] at hown1
    simpa using hown1
  have hb1 : Below w.heap.size w w1 := (Below.refl _ _).grown hg1 (Nat.le_refl _) (by simp)
  clear hown1 hg1
  have hs1 : w.heap.size + 1 ≤ w1.heap.size := by have := hown.lt w.heap.size rfl; omega
  go_loopw [4, 5, 6, 7, 13] (fun v _ _ _ i wr => ∃ (k m : Nat) (A3 : Option Addr) (c3 : Nat), k ≤ n ∧ m ≤ k ∧ i = .int .i64 k ∧ v = .slice A3 m c3 ∧ Own I wr w.heap.size (w.heap.size + 1) 2 (.slice (some ⟨w.heap.size, 0, none⟩) n n) (Rl.number (p.take k) ++ List.replicate (n - k) 0) ∧ Own I wr (w.heap.size + 1) wr.heap.size 2 (.slice A3 m c3) (Rl.seenT p k) ∧ Below w.heap.size w wr ∧ w.heap.size + 1 ≤ wr.heap.size) (fun _ _ _ _ i _ => n - (intOf i).toNat)
  case atStart => exact ⟨0, 0, none, 0, Nat.zero_le _, Nat.le_refl _, rfl, rfl, by simpa [Rl.number, Rl.numS] using hown, by simpa [Rl.seenT] using (Own.nil_ (enc := I)), hb1, hs1⟩
  case round =>
    clear hown hb1 hs1
    obtain ⟨k, m, A3, c3, hk, hmk, rfl, rfl, hp, ho, hb, hzb⟩ := hrel
    have HSL := Lib.hid ho.rd.1
    have HPL : Hid ((Rl.number (p.take k)).length = k) := Lib.hid (by unfold Rl.number; rw [Rl.numS_len, List.length_take, HL.out]; omega)
    by_cases hlt : k < n
    · obtain ⟨b1, o1, x, rfl, hb1, hx, cx⟩ := (h.below hb hB).at_ hlt
      have HX := Lib.hid hx
      have HSN : Hid (Rl.seenT p (k + 1) = Rl.seen (Rl.seenT p k) x) := Lib.hid (Rl.seenT_next hx)
      have HNN : Hid (Rl.number (p.take (k + 1)) = Rl.number (p.take k) ++ [((Rl.seenT p (k + 1)).idxOf x : Int)]) := Lib.hid (Rl.number_next hx)
      have HSET : Hid (∀ v : Int, (Rl.number (p.take k) ++ List.replicate (n - k) 0).set k v = Rl.number (p.take k) ++ [v] ++ List.replicate (n - (k + 1)) 0) := Lib.hid fun v => by
        rw [show n - k = (n - (k + 1)) + 1 from by omega, List.replicate_succ, List.set_append_right _ _ (by rw [HPL.out]; exact Nat.le_refl _), HPL.out]
        simp
      clear hx
      by_cases hm : x ∈ Rl.seenT p k
      · obtain ⟨j, hj⟩ : ∃ j, (Rl.seenT p k).idxOf x = j := ⟨_, rfl⟩
        have hjm : j < m := by rw [← hj, ← HSL.out]; exact List.idxOf_lt_length_of_mem hm
        have HS2 : Hid (Rl.seenT p (k + 1) = Rl.seenT p k) := Lib.hid (by rw [HSN.out]; unfold Rl.seen; rw [if_pos hm])
        have hix := idxI_any A3 m c3 wr.heap.size x _ wr ho.rd (by omega) (j : Int) (by rw [if_pos hm, hj])
        have nj : ¬ ((j : Int) < 0) := by omega
        have hset := hp.set_ (k := k) (j : Int)
        obtain ⟨gp, u, hgp, hgp1, hgp2, hgp3, _, cp, fp⟩ := hp.at_ hlt
        injection hgp with hgp
        injection hgp with hgp _ _
        subst hgp
        have hp6 := hset.1
        rw [HSET.out] at hp6
        have HP6 : Hid (Own I (wr.setCell ⟨w.heap.size, k, none⟩ (.int .i64 (j : Int))) w.heap.size (w.heap.size + 1) 2 (.slice (some ⟨w.heap.size, 0, none⟩) n n) (Rl.number (p.take (k + 1)) ++ List.replicate (n - (k + 1)) 0)) := Lib.hid (by rw [HNN.out, HS2.out, hj]; exact hp6)
        have HO6 : Hid (Own I (wr.setCell ⟨w.heap.size, k, none⟩ (.int .i64 (j : Int))) (w.heap.size + 1) (wr.setCell ⟨w.heap.size, k, none⟩ (.int .i64 (j : Int))).heap.size 2 (.slice A3 m c3) (Rl.seenT p (k + 1))) := Lib.hid (by rw [HS2.out]; exact (ho.only hset.2 (.inr (Nat.le_refl _))).mono (Nat.le_refl _) (by simp))
        have HB6 := Lib.hid (hb.trans (hset.2.below (Nat.le_refl _) (by omega)))
        have hz6 : w.heap.size + 1 ≤ (wr.setCell ⟨w.heap.size, k, none⟩ (.int .i64 (j : Int))).heap.size := by simp; omega
        clear hset hp6 hm hj ho hp hb
        go_wp2_with fail
        refine hix.mono ?_
        rintro e _ ⟨rfl, rfl⟩
        go_wp2_with fail
        go_roundw
        case rel => exact ⟨k + 1, m, A3, c3, by omega, by omega, by go_num, rfl, HP6.out, HO6.out, HB6.out, hz6⟩
        case measure => simp [intOf]; omega
      · have HS2 : Hid (Rl.seenT p (k + 1) = Rl.seenT p k ++ [x]) := Lib.hid (by rw [HSN.out]; unfold Rl.seen; rw [if_neg hm])
        have HJ : Hid ((Rl.seenT p (k + 1)).idxOf x = m) := Lib.hid (by
          rw [HS2.out]
          refine Rl.idx_first ?_ ?_
          · rw [← HSL.out]; simp
          · rw [← HSL.out]; simpa using hm)
        have hix := idxI_any A3 m c3 wr.heap.size x _ wr ho.rd (by omega) (-1) (by rw [if_neg hm])
        clear hm
        go_wp2_with fail
        refine hix.mono ?_
        rintro e _ ⟨rfl, rfl⟩
        go_wp2_with (at_builtin; refine wp_push (enc := I) wr rfl _ _ 24 rfl 2 i0 _ 8 Try.underlying24 hi0 hz0 hz1 hz2 rfl A3 m c3 _ _ _ rfl ho x rfl rfl (by omega) (by omega) (by omega) ?_; intro A4 c4 w4 ho4 hm4; have hp4 := hp.only hm4 (.inl (Nat.le_refl _)); have hb4 := hb.trans (hm4.below (by omega) (by omega)); have hzb4 : w.heap.size + 1 ≤ w4.heap.size := (by have := hm4.size; omega); obtain ⟨gp, u, hgp, hgp1, hgp2, hgp3, _, cp, fp⟩ := hp4.at_ hlt; injection hgp with hgp; injection hgp with hgp _ _; subst hgp; clear hm4 ho hp hb)
        have hset := hp4.set_ (k := k) (m : Int)
        have hp6 := hset.1
        rw [HSET.out] at hp6
        have HP6 : Hid (Own I (w4.setCell ⟨w.heap.size, k, none⟩ (.int .i64 (m : Int))) w.heap.size (w.heap.size + 1) 2 (.slice (some ⟨w.heap.size, 0, none⟩) n n) (Rl.number (p.take (k + 1)) ++ List.replicate (n - (k + 1)) 0)) := Lib.hid (by rw [HNN.out, HJ.out]; exact hp6)
        have HO6 : Hid (Own I (w4.setCell ⟨w.heap.size, k, none⟩ (.int .i64 (m : Int))) (w.heap.size + 1) (w4.setCell ⟨w.heap.size, k, none⟩ (.int .i64 (m : Int))).heap.size 2 (.slice A4 (m + 1) c4) (Rl.seenT p (k + 1))) := Lib.hid (by rw [HS2.out]; exact (ho4.only hset.2 (.inr (Nat.le_refl _))).mono (Nat.le_refl _) (by simp))
        have HB6 := Lib.hid (hb4.trans (hset.2.below (Nat.le_refl _) (by omega)))
        have hz6 : w.heap.size + 1 ≤ (w4.setCell ⟨w.heap.size, k, none⟩ (.int .i64 (m : Int))).heap.size := by simp; omega
        go_roundw
        case rel => exact ⟨k + 1, m + 1, A4, c4, by omega, by omega, by go_num, rfl, HP6.out, HO6.out, HB6.out, hz6⟩
        case measure => simp [intOf]; omega
    · obtain rfl : k = n := by omega
      have HE : Hid (Rl.number (p.take k) ++ List.replicate (k - k) 0 = Rl.number p) := Lib.hid (by rw [List.take_of_length_le (by rw [HL.out]; exact Nat.le_refl _)]; simp)
      rw [HE.out] at hp
      go_wp2_with fail
      go_ret
      exact ⟨_, _, rfl, hp.mono (by omega) (by omega), hb⟩
end Go.Proofs.Ytbhkpjjedeinpaa
