/- Contract of the model's numbering of rolls. -/
import Derived.Test.YtbhkpjjedeinpaaRlFo
import Derived.Test.YtbhkpjjedeinpaaOrd2
import Derived.Test.YtbhkpjjedeinpaaPush
namespace Go.Proofs.Ytbhkpjjedeinpaa
open Go.RowKit
set_option linter.unusedVariables false

/-- Two rows have no block in common. -/
def Apt (u v : Value) : Prop := ∀ g, u.ownBlock = some g → v.ownBlock ≠ some g
theorem Apt.symm {u v : Value} (h : Apt u v) : Apt v u := fun g hv hu => h g hu hv
theorem Apt.push {α : Type} {enc : α → Value} {w w' : World} {lo hi : Nat} {e : TypeId} {u u' v : Value} {l : List α} (h : Own enc w lo hi e v l) (ha : Apt u v) (hk : Kept w w' u u') : Own enc w' lo hi e v l ∧ Apt u' v :=
  ⟨h.keep fun g hg => (hk g (h.lt g hg).2.2 fun e => ha g e hg).1, fun g hu hv => (hk g (h.lt g hv).2.2 fun e => ha g e hv).2 hu⟩
namespace Rl
def seenT (p : List Int) (k : Nat) : List Int := (p.take k).foldl seen []
theorem seenT_next {p : List Int} {k : Nat} {x : Int} (hx : p[k]? = some x) : seenT p (k + 1) = seen (seenT p k) x := by
  unfold seenT
  rw [take_nextRl p k x hx, List.foldl_append]
  rfl
theorem numS_append (t p : List Int) (x : Int) : numS t (p ++ [x]) = numS t p ++ [((seen (p.foldl seen t) x).idxOf x : Int)] := by
  induction p generalizing t with
  | nil => rfl
  | cons a p ih => simp only [List.cons_append, numS, List.foldl_cons, ih]
theorem number_next {p : List Int} {k : Nat} {x : Int} (hx : p[k]? = some x) : number (p.take (k + 1)) = number (p.take k) ++ [((seenT p (k + 1)).idxOf x : Int)] := by
  unfold number
  rw [seenT_next hx, take_nextRl p k x hx, numS_append]
  rfl
theorem seenT_nodup (p : List Int) (k : Nat) : (seenT p k).Nodup := by
  unfold seenT
  have : ∀ (q t : List Int), t.Nodup → (q.foldl seen t).Nodup := by
    intro q
    induction q with
    | nil => exact fun t h => h
    | cons a q ih => exact fun t h => ih _ (seen_nodup h)
  exact this _ _ List.nodup_nil
theorem seenT_len (p : List Int) (k : Nat) : (seenT p k).length ≤ k := by
  induction k with
  | zero => simp [seenT]
  | succ k ih =>
    rcases Nat.lt_or_ge k p.length with h | h
    · rw [seenT_next (List.getElem?_eq_getElem h)]
      unfold seen
      split
      · omega
      · simp; omega
    · have e : seenT p (k + 1) = seenT p k := by unfold seenT; rw [List.take_of_length_le (by omega), List.take_of_length_le h]
      rw [e]
      omega
/-- What the scan has appended so far. -/
def pend (d j : Nat) : List Int := if d < j then [(d : Int)] else []
theorem pend_hit (j : Nat) : pend j (j + 1) = pend j j ++ [(j : Int)] := by simp [pend]
theorem pend_miss {d j : Nat} (h : j ≠ d) : pend d (j + 1) = pend d j := by
  unfold pend
  by_cases h1 : d < j
  · rw [if_pos h1, if_pos (by omega)]
  · rw [if_neg h1, if_neg (by omega)]
end Rl
set_option maxRecDepth 100000 in
set_option maxHeartbeats 8000000 in
theorem specNu_any (A : Option Addr) (n c B : Nat) (p : List Int) (w : World) (h : Rd I w B A n p) (hB : B ≤ w.heap.size) (hn : n ≤ 1000) :
    Calls Try.prog 46 #[.slice A n c] w fun e w' => ∃ A' c', e = .returned (.slice A' n c') ∧ Own I w' w.heap.size w'.heap.size 2 (.slice A' n c') (Rl.number p) ∧ Below w.heap.size w w' := by
  obtain ⟨i0, hi0, hz0, hz1, hz2⟩ := info_parts infoI
  have HL := Lib.hid h.1
  have hs0 : Own I ((w.alloc (.cells #[] 2)).alloc (.cells #[] 2)) w.heap.size (w.heap.size + 1) 2 (.slice (some ⟨w.heap.size, 0, none⟩) 0 0) ([] : List Int) := (Own.lit0 I w 2).alloc _
  have hz : (w.alloc (.cells #[] 2)).heap.size = w.heap.size + 1 := by simp
  have hz' : ((w.alloc (.cells #[] 2)).alloc (.cells #[] 2)).heap.size = w.heap.size + 1 + 1 := by simp
  have ho0 : Own I ((w.alloc (.cells #[] 2)).alloc (.cells #[] 2)) (w.heap.size + 1) (w.heap.size + 1 + 1) 2 (.slice (some ⟨w.heap.size + 1, 0, none⟩) 0 0) ([] : List Int) := by
    have := Own.lit0 I (w.alloc (.cells #[] 2)) 2
    rwa [hz] at this
  have hb0 : Below w.heap.size w ((w.alloc (.cells #[] 2)).alloc (.cells #[] 2)) := ((Below.refl _ _).alloc (Nat.le_refl _) _).alloc (by simp) _
  go_enter Try.func46, Try.ntmps46
  go_wp2_with fail
  go_loopw [3, 4, 5] (fun u v i wr => ∃ (k : Nat) (A3 : Option Addr) (t c3 : Nat) (A4 : Option Addr) (c4 : Nat), k ≤ n ∧ i = .int .i64 k ∧ u = .slice A3 t c3 ∧ v = .slice A4 k c4 ∧ t ≤ k ∧ Own I wr w.heap.size wr.heap.size 2 (.slice A3 t c3) (Rl.seenT p k) ∧ Own I wr w.heap.size wr.heap.size 2 (.slice A4 k c4) (Rl.number (p.take k)) ∧ Hid (Apt (.slice A3 t c3) (.slice A4 k c4)) ∧ Below w.heap.size w wr) (fun _ _ i _ => n - (intOf i).toNat)
  case atStart => exact ⟨0, _, _, _, _, _, Nat.zero_le _, rfl, rfl, rfl, Nat.le_refl _, hs0.mono (Nat.le_refl _) (by omega), by simpa [Rl.number, Rl.numS] using ho0.mono (lo' := w.heap.size) (hi' := ((w.alloc (.cells #[] 2)).alloc (.cells #[] 2)).heap.size) (by omega) (by omega), Lib.hid (fun g h1 h2 => by simp [Value.ownBlock] at h1 h2; omega), hb0⟩
  case round =>
    clear hs0 ho0 hb0 hz hz'
    obtain ⟨k, A3, t, c3, A4, c4, hk, rfl, rfl, rfl, htk, hs, ho, HAP, hb⟩ := hrel
    have hzb := hb.size
    by_cases hlt : k < n
    · obtain ⟨bp, op, x, rfl, hbp, hx, cx⟩ := (h.below hb hB).at_ hlt
      have HX := Lib.hid hx
      have HBASE : Hid (Rl.number (p.take (k + 1)) = Rl.number (p.take k) ++ [((Rl.seenT p (k + 1)).idxOf x : Int)]) := Lib.hid (Rl.number_next hx)
      have HT1 := Lib.hid (Rl.seenT_next hx)
      clear hx
      obtain ⟨base, hbase⟩ : ∃ base, Rl.number (p.take k) = base := ⟨_, rfl⟩
      rw [hbase] at ho HBASE
      have HBL := Lib.hid ho.rd.1
      clear hbase
      obtain ⟨T, hT⟩ : ∃ T, Rl.seenT p k = T := ⟨_, rfl⟩
      rw [hT] at hs HT1
      have HND : Hid (T.Nodup) := Lib.hid (by rw [← hT]; exact Rl.seenT_nodup p k)
      clear hT
      obtain ⟨dm, hdm⟩ : ∃ dm, decide (x ∈ T) = dm := ⟨_, rfl⟩
      have hhas := fun W (hW : Rd I W wr.heap.size A3 t T) => l01Has_any A3 t c3 wr.heap.size x T W hW (by omega)
      rw [hdm] at hhas
      cases dm
      · have hnm : x ∉ T := of_decide_eq_false hdm
        have HT2 : Hid (Rl.seenT p (k + 1) = T ++ [x]) := Lib.hid (by rw [HT1.out]; unfold Rl.seen; rw [if_neg hnm])
        have HMEM : Hid (x ∈ T ++ [x]) := Lib.hid (by simp)
        have HND2 : Hid ((T ++ [x]).Nodup) := Lib.hid (by have := Rl.seen_nodup (k := x) HND.out; unfold Rl.seen at this; rwa [if_neg hnm] at this)
        clear hdm hnm
        go_wp2_with fail
        refine (hhas _ hs.rd).mono ?_
        rintro e _ ⟨rfl, rfl⟩
        clear hhas
        go_wp2_with (at_builtin; refine wp_push3 (enc := I) wr rfl (.tmp 22) (.tmp 27) 24 rfl 2 i0 _ 8 Try.underlying24 hi0 hz0 hz1 hz2 rfl A3 t c3 _ _ _ (by rfl) hs x (by rfl) rfl (by omega) (by omega) hzb ?_; intro A7 c7 w7 hs7 hm7 hK7; have HS7 := Lib.hid hs7; have HP7 := Lib.hid (Apt.push ho HAP.out hK7); have HB7 := Lib.hid (hb.trans (hm7.below (Nat.le_refl _) hzb)); have HZ7 := Lib.hid hm7.size; clear hs7 hm7 hK7 hs ho hb hzb cx)
        go_loopw [4, 6] (fun v i wr => ∃ (j : Nat) (A5 : Option Addr) (e5 c5 : Nat), j ≤ t + 1 ∧ i = .int .i64 j ∧ v = .slice A5 e5 c5 ∧ Own I wr w.heap.size wr.heap.size 2 (.slice A5 e5 c5) (base ++ Rl.pend ((T ++ [x]).idxOf x) j) ∧ Own I wr w.heap.size wr.heap.size 2 (.slice A7 (t + 1) c7) (T ++ [x]) ∧ Hid (Apt (.slice A7 (t + 1) c7) (.slice A5 e5 c5)) ∧ Below w.heap.size w wr ∧ e5 ≤ 2000) (fun _ i _ => t + 1 - (intOf i).toNat)
        case atStart =>
          have hp := HP7.out
          have hz7 := HB7.out.size
          exact ⟨0, A4, k, c4, Nat.zero_le _, rfl, rfl, by simpa [Rl.pend] using hp.1.mono (Nat.le_refl _) HZ7.out, HS7.out, Lib.hid hp.2, HB7.out, by omega⟩
        case round =>
          clear HS7 HP7 HB7
          obtain ⟨j, A5, e5, c5, hj, rfl, rfl, ho, hs, HAP5, hb, he5⟩ := hrel
          have hzb := hb.size
          have hlen5 := ho.rd.1
          have HLEN5 := Lib.hid hlen5
          clear hlen5
          by_cases hjt : j < t + 1
          · obtain ⟨bp', op', x', ep', _, hx', cx⟩ := (h.below hb hB).at_ hlt
            injection ep' with ep'
            injection ep' with epa epb _
            subst epa epb
            have hxx := HX.out.symm.trans hx'
            injection hxx with hxx
            subst hxx
            obtain ⟨g, y, hA, _, _, _, hy, cy, fy⟩ := hs.at_ (k := j) hjt
            have HY := Lib.hid hy
            clear hx' hy
            by_cases hyx : y = x
            · have hyx' := hyx.symm
              subst hyx'
              have hd : (T ++ [x]).idxOf x = j := (Rl.idx_iff HND2.out HMEM.out HY.out).2 rfl
              have HD := Lib.hid hd
              rw [hd] at ho
              clear hd
              subst hA
              go_wp2_with fail
              go_quiet (fail)
              have hoq := ho.drewN nq
              have hsq := hs.drewN nq
              have hbq := below_drewN' hb nq
              have hzq : w.heap.size ≤ (wr.drewN nq).heap.size := hzb
              clear ho hs hb hzb cx cy fy
              replace hoq : Own I (wr.drewN nq) w.heap.size (wr.drewN nq).heap.size 2 (.slice A5 e5 c5) (base ++ Rl.pend j j) := hoq
              replace hsq : Own I (wr.drewN nq) w.heap.size (wr.drewN nq).heap.size 2 (.slice (some ⟨g, 0, none⟩) (t + 1) c7) (T ++ [x]) := hsq
              generalize wr.drewN nq = w8 at *
              go_wp2_with (at_builtin; refine wp_push3 (enc := I) w8 rfl (.tmp 44) (.tmp 46) 24 rfl 2 i0 _ 8 Try.underlying24 hi0 hz0 hz1 hz2 rfl A5 e5 c5 _ _ _ (by rfl) hoq (j : Int) (by rfl) rfl (by omega) (by omega) hzq ?_; intro A9 c9 w9 ho9 hm9 hK9; have HO9 := Lib.hid ho9; have HP9 := Lib.hid (Apt.push hsq HAP5.out.symm hK9); have HB9 := Lib.hid (hbq.trans (hm9.below (Nat.le_refl _) hzq)); have HZ9 := Lib.hid hm9.size; clear ho9 hm9 hK9)
              go_roundw
              case rel =>
                refine ⟨j + 1, A9, e5 + 1, c9, by omega, by go_num, rfl, ?_, HP9.out.1.mono (Nat.le_refl _) HZ9.out, Lib.hid HP9.out.2.symm, HB9.out, ?_⟩
                · rw [HD.out, Rl.pend_hit, ← List.append_assoc]
                  exact HO9.out
                · have h_ := HLEN5.out
                  rw [List.length_append, HD.out] at h_
                  simp [Rl.pend] at h_
                  have h2_ := HBL.out
                  omega
              case measure => simp [intOf]; omega
            · have HNE : Hid (j ≠ (T ++ [x]).idxOf x) := Lib.hid fun e => hyx ((Rl.idx_iff HND2.out HMEM.out HY.out).1 e.symm).symm
              subst hA
              go_wp2_with fail
              go_quiet (fail)
              go_wp2_with fail
              go_roundw
              case rel => exact ⟨j + 1, A5, e5, c5, by omega, by go_num, rfl, by rw [Rl.pend_miss HNE.out]; exact ho.drewN nq, hs.drewN nq, HAP5, below_drewN' hb nq, he5⟩
              case measure => simp [intOf]; omega
          · obtain rfl : t + 1 = j := by omega
            have HPE : Hid (base ++ Rl.pend ((T ++ [x]).idxOf x) (t + 1) = Rl.number (p.take (k + 1))) := Lib.hid (by
              have h_ := List.idxOf_lt_length_of_mem HMEM.out
              rw [hs.rd.1] at h_
              rw [HBASE.out, HT2.out]
              unfold Rl.pend
              rw [if_pos h_])
            rw [HPE.out] at ho
            have HEK : Hid (e5 = k + 1) := Lib.hid (by
              have h1 := ho.rd.1
              unfold Rl.number at h1
              rw [Rl.numS_len] at h1
              have h2 := HL.out
              simp at h1
              omega)
            obtain rfl := HEK.out
            have hs9 : Own I wr w.heap.size wr.heap.size 2 (.slice A7 (t + 1) c7) (Rl.seenT p (k + 1)) := by rw [HT2.out]; exact hs
            clear hs HEK HPE
            go_wp2_with fail
            go_roundw
            case rel => exact ⟨k + 1, A7, t + 1, c7, A5, c5, by omega, by go_num, rfl, rfl, by omega, hs9, ho, HAP5, hb⟩
            case measure => simp [intOf]; omega
      · have hm : x ∈ T := of_decide_eq_true hdm
        have HT2 : Hid (Rl.seenT p (k + 1) = T) := Lib.hid (by rw [HT1.out]; unfold Rl.seen; rw [if_pos hm])
        have HMEM := Lib.hid hm
        clear hdm hm
        go_wp2_with fail
        refine (hhas _ hs.rd).mono ?_
        rintro e _ ⟨rfl, rfl⟩
        clear hhas
        have HS7 := Lib.hid hs
        have HP7 := Lib.hid (And.intro ho HAP.out)
        have HB7 := Lib.hid hb
        clear hs ho hb hzb cx
        go_wp2_with fail
        go_loopw [4, 6] (fun v i wr => ∃ (j : Nat) (A5 : Option Addr) (e5 c5 : Nat), j ≤ t ∧ i = .int .i64 j ∧ v = .slice A5 e5 c5 ∧ Own I wr w.heap.size wr.heap.size 2 (.slice A5 e5 c5) (base ++ Rl.pend ((T).idxOf x) j) ∧ Own I wr w.heap.size wr.heap.size 2 (.slice A3 (t) c3) (T) ∧ Hid (Apt (.slice A3 (t) c3) (.slice A5 e5 c5)) ∧ Below w.heap.size w wr ∧ e5 ≤ 2000) (fun _ i _ => t - (intOf i).toNat)
        case atStart =>
          have hp := HP7.out
          have hz7 := HB7.out.size
          exact ⟨0, A4, k, c4, Nat.zero_le _, rfl, rfl, by simpa [Rl.pend] using hp.1.mono (Nat.le_refl _) (Nat.le_refl _), HS7.out, Lib.hid hp.2, HB7.out, by omega⟩
        case round =>
          clear HS7 HP7 HB7
          obtain ⟨j, A5, e5, c5, hj, rfl, rfl, ho, hs, HAP5, hb, he5⟩ := hrel
          have hzb := hb.size
          have hlen5 := ho.rd.1
          have HLEN5 := Lib.hid hlen5
          clear hlen5
          by_cases hjt : j < t
          · obtain ⟨bp', op', x', ep', _, hx', cx⟩ := (h.below hb hB).at_ hlt
            injection ep' with ep'
            injection ep' with epa epb _
            subst epa epb
            have hxx := HX.out.symm.trans hx'
            injection hxx with hxx
            subst hxx
            obtain ⟨g, y, hA, _, _, _, hy, cy, fy⟩ := hs.at_ (k := j) hjt
            have HY := Lib.hid hy
            clear hx' hy
            by_cases hyx : y = x
            · have hyx' := hyx.symm
              subst hyx'
              have hd : (T).idxOf x = j := (Rl.idx_iff HND.out HMEM.out HY.out).2 rfl
              have HD := Lib.hid hd
              rw [hd] at ho
              clear hd
              subst hA
              go_wp2_with fail
              go_quiet (fail)
              have hoq := ho.drewN nq
              have hsq := hs.drewN nq
              have hbq := below_drewN' hb nq
              have hzq : w.heap.size ≤ (wr.drewN nq).heap.size := hzb
              clear ho hs hb hzb cx cy fy
              replace hoq : Own I (wr.drewN nq) w.heap.size (wr.drewN nq).heap.size 2 (.slice A5 e5 c5) (base ++ Rl.pend j j) := hoq
              replace hsq : Own I (wr.drewN nq) w.heap.size (wr.drewN nq).heap.size 2 (.slice (some ⟨g, 0, none⟩) (t) c3) (T) := hsq
              generalize wr.drewN nq = w8 at *
              go_wp2_with (at_builtin; refine wp_push3 (enc := I) w8 rfl (.tmp 44) (.tmp 46) 24 rfl 2 i0 _ 8 Try.underlying24 hi0 hz0 hz1 hz2 rfl A5 e5 c5 _ _ _ (by rfl) hoq (j : Int) (by rfl) rfl (by omega) (by omega) hzq ?_; intro A9 c9 w9 ho9 hm9 hK9; have HO9 := Lib.hid ho9; have HP9 := Lib.hid (Apt.push hsq HAP5.out.symm hK9); have HB9 := Lib.hid (hbq.trans (hm9.below (Nat.le_refl _) hzq)); have HZ9 := Lib.hid hm9.size; clear ho9 hm9 hK9)
              go_roundw
              case rel =>
                refine ⟨j + 1, A9, e5 + 1, c9, by omega, by go_num, rfl, ?_, HP9.out.1.mono (Nat.le_refl _) HZ9.out, Lib.hid HP9.out.2.symm, HB9.out, ?_⟩
                · rw [HD.out, Rl.pend_hit, ← List.append_assoc]
                  exact HO9.out
                · have h_ := HLEN5.out
                  rw [List.length_append, HD.out] at h_
                  simp [Rl.pend] at h_
                  have h2_ := HBL.out
                  omega
              case measure => simp [intOf]; omega
            · have HNE : Hid (j ≠ (T).idxOf x) := Lib.hid fun e => hyx ((Rl.idx_iff HND.out HMEM.out HY.out).1 e.symm).symm
              subst hA
              go_wp2_with fail
              go_quiet (fail)
              go_wp2_with fail
              go_roundw
              case rel => exact ⟨j + 1, A5, e5, c5, by omega, by go_num, rfl, by rw [Rl.pend_miss HNE.out]; exact ho.drewN nq, hs.drewN nq, HAP5, below_drewN' hb nq, he5⟩
              case measure => simp [intOf]; omega
          · obtain rfl : t = j := by omega
            have HPE : Hid (base ++ Rl.pend ((T).idxOf x) (t) = Rl.number (p.take (k + 1))) := Lib.hid (by
              have h_ := List.idxOf_lt_length_of_mem HMEM.out
              rw [hs.rd.1] at h_
              rw [HBASE.out, HT2.out]
              unfold Rl.pend
              rw [if_pos h_])
            rw [HPE.out] at ho
            have HEK : Hid (e5 = k + 1) := Lib.hid (by
              have h1 := ho.rd.1
              unfold Rl.number at h1
              rw [Rl.numS_len] at h1
              have h2 := HL.out
              simp at h1
              omega)
            obtain rfl := HEK.out
            have hs9 : Own I wr w.heap.size wr.heap.size 2 (.slice A3 (t) c3) (Rl.seenT p (k + 1)) := by rw [HT2.out]; exact hs
            clear hs HEK HPE
            go_wp2_with fail
            go_roundw
            case rel => exact ⟨k + 1, A3, t, c3, A5, c5, by omega, by go_num, rfl, rfl, by omega, hs9, ho, HAP5, hb⟩
            case measure => simp [intOf]; omega
    · obtain rfl : k = n := by omega
      have HE : Hid (Rl.number (p.take k) = Rl.number p) := Lib.hid (by rw [List.take_of_length_le (by rw [HL.out]; exact Nat.le_refl _)])
      rw [HE.out] at ho
      go_wp2_with fail
      go_ret
      exact ⟨_, _, rfl, ho, hb⟩
end Go.Proofs.Ytbhkpjjedeinpaa
