/- Contracts of the model's IsRollTask and of the loads of a list of numbers. -/
import Derived.Test.YtbhkpjjedeinpaaRlMat3
import Derived.Test.YtbhkpjjedeinpaaIn
import Derived.Test.YtbhkpjjedeinpaaSgDo
import Derived.BigRegion
namespace Go.Proofs.Ytbhkpjjedeinpaa
open Go.RowKit
set_option linter.unusedVariables false

theorem take_nextRl (l : List Int) (k : Nat) (x : Int) (hx : l[k]? = some x) : l.take (k + 1) = l.take k ++ [x] := by
  rw [List.take_add_one, hx]
  rfl
/-- A list of at most 12 numbers of 1..r. -/
def Rl.wi (r : Int) (s : List Int) : Bool := decide (s.length ≤ 12) && s.all fun x => decide (1 ≤ x ∧ x ≤ r)
set_option maxRecDepth 100000 in
set_option maxHeartbeats 1000000 in
theorem rlWithin_any (r : Int) (A : Option Addr) (n c B : Nat) (s : List Int) (b : Bool) (w : World) (h : Rd I w B A n s) (hn : n ≤ 1048576) (hb : Rl.wi r s = b) :
    Calls Try.prog 56 #[.slice A n c, .int .i64 12, .int .i64 1, .int .i64 r] w fun e w' => e = .returned (.bool b) ∧ w = w' := by
  have HL : Hid (s.length = n) := h.1
  have HB := Lib.hid hb
  clear hb
  go_enter Try.func56, Try.ntmps56
  go_wp2_with fail
  go_loop [9] (fun i => ∃ k : Nat, k ≤ n ∧ i = .int .i64 k ∧ ∀ c ∈ s.take k, 1 ≤ c ∧ c ≤ r) (fun i => n - (intOf i).toNat)
  case atStart => exact ⟨0, Nat.zero_le _, rfl, by simp⟩
  case round =>
    obtain ⟨k, hk, rfl, hall⟩ := hrel
    have HA := Lib.hid hall
    clear hall
    by_cases hlt : k < n
    · obtain ⟨b1, o, x, rfl, hbB, hx, hc⟩ := h.at_ hlt
      have HX := Lib.hid hx
      clear hx
      by_cases hok : 1 ≤ x ∧ x ≤ r
      · obtain ⟨x0, x1⟩ := hok
        have hin := fun W => l01In_yes x 1 r W x0 x1
        have HOK : Hid (1 ≤ x ∧ x ≤ r) := Lib.hid ⟨x0, x1⟩
        clear x0 x1
        go_wp2_with fail
        refine (hin _).mono ?_
        rintro e _ ⟨rfl, rfl⟩
        go_wp2_with fail
        go_round
        case rel =>
          refine ⟨k + 1, by omega, by go_num, ?_⟩
          rw [take_nextRl s k x HX.out]
          intro y hy
          rcases List.mem_append.1 hy with hy | hy
          · exact HA.out y hy
          · simp at hy; subst hy; exact HOK.out
        case measure => simp [intOf]; omega
      · have HN : Hid (b = false) := Lib.hid (by
          rw [← HB.out]
          unfold Rl.wi
          rw [Bool.and_eq_false_iff]
          right
          rw [List.all_eq_false]
          exact ⟨x, List.mem_of_getElem? HX.out, by simpa using hok⟩)
        have hin := fun W => l01In_no x 1 r W (by omega)
        clear hok
        go_wp2_with fail
        refine (hin _).mono ?_
        rintro e _ ⟨rfl, rfl⟩
        go_wp2_with fail
        go_ret
        exact ⟨ret_b HN.out.symm, rfl⟩
    · obtain rfl : k = n := by omega
      have HE : Hid (decide (k ≤ 12) = b) := Lib.hid (by
        rw [← HB.out]
        unfold Rl.wi
        have h1 := HA.out
        rw [List.take_of_length_le (by rw [HL.out]; exact Nat.le_refl _)] at h1
        rw [HL.out, List.all_eq_true.2 (fun x hx => by simpa using h1 x hx), Bool.and_true])
      go_wp2_with fail
      go_ret
      exact ⟨ret_b (by rw [← HE.out]; simp <;> omega), rfl⟩
set_option maxRecDepth 100000 in
theorem specRlT_any (r : Int) (A : Option Addr) (n c B : Nat) (s : List Int) (b : Bool) (w : World) (h : Rd I w B A n s) (hn : n ≤ 1048576) (hb : Rl.okT r s = b) :
    Calls Try.prog 33 #[.int .i64 r, .slice A n c] w fun e w' => e = .returned (.bool b) ∧ w = w' := by
  have HB := Lib.hid hb
  clear hb
  by_cases hr : 1 ≤ r ∧ r ≤ 100000
  · have hin := fun W => l01In_yes r 1 100000 W hr.1 hr.2
    have hwi := fun W (hW : Rd I W B A n s) => rlWithin_any r A n c B s b W hW hn (by rw [← HB.out]; unfold Rl.okT Rl.wi; rw [decide_eq_true hr, Bool.true_and])
    clear hr
    go_enter Try.func33, Try.ntmps33
    go_wp2_with fail
    refine (hin _).mono ?_
    rintro e _ ⟨rfl, rfl⟩
    go_wp2_with fail
    refine (hwi _ h).mono ?_
    rintro e _ ⟨rfl, rfl⟩
    go_wp2_with fail
    go_ret
    exact ⟨rfl, rfl⟩
  · have hin := fun W => l01In_no r 1 100000 W (by omega)
    have HF : Hid (b = false) := Lib.hid (by rw [← HB.out]; unfold Rl.okT; rw [decide_eq_false hr, Bool.false_and])
    clear hr
    go_enter Try.func33, Try.ntmps33
    go_wp2_with fail
    refine (hin _).mono ?_
    rintro e _ ⟨rfl, rfl⟩
    go_wp2_with fail
    go_ret
    exact ⟨ret_b HF.out.symm, rfl⟩

/-- Bounds of loads. -/
theorem Rl.loads_bd {s p : List Int} (hs : ∀ x ∈ s, 0 ≤ x ∧ x ≤ 100000) : ∀ i, i ≤ p.length → p.length ≤ s.length → ∀ k, 0 ≤ (Rl.loads (s.take i) (p.take i)).getD k 0 ∧ (Rl.loads (s.take i) (p.take i)).getD k 0 ≤ 100000 * (i : Int)
  | 0, _, _, k => by simp [Rl.loads, Rl.loadsF]
  | i + 1, hi, hl, k => by
    have h1 := Rl.loads_bd hs i (by omega) hl k
    have hx : s[i]? = some s[i] := List.getElem?_eq_getElem (by omega)
    have hk : p[i]? = some p[i] := List.getElem?_eq_getElem (by omega)
    have h2 := hs s[i] (List.getElem_mem _)
    rw [Rl.loads_next s p i _ _ hx hk, Rl.addAt_get]
    split <;> omega
theorem Rl.loads_lenT {s p : List Int} (hp : ∀ k ∈ p, 0 ≤ k ∧ k ≤ 100) (i : Nat) (hl : p.length ≤ s.length) : (Rl.loads (s.take i) (p.take i)).length ≤ 101 := by
  rw [Rl.loads_len _ _ (by simp; omega)]
  have : ∀ q : List Int, (∀ k ∈ q, 0 ≤ k ∧ k ≤ 100) → Rl.rolls q ≤ 101 := by
    intro q hq
    induction q with
    | nil => simp [Rl.rolls]
    | cons a q ih =>
      have h1 := hq a (by simp)
      have h2 := ih fun k hk => hq k (by simp [hk])
      simp only [Rl.rolls]
      omega
  exact this _ fun k hk => hp k (List.mem_of_mem_take hk)
set_option maxRecDepth 100000 in
set_option maxHeartbeats 4000000 in
theorem specLo_any (A1 A2 : Option Addr) (n1 c1 B1 n2 c2 B2 : Nat) (s p : List Int) (w : World) (h1 : Rd I w B1 A1 n1 s) (h2 : Rd I w B2 A2 n2 p) (hB1 : B1 ≤ w.heap.size) (hB2 : B2 ≤ w.heap.size) (hn : n2 ≤ n1) (hn1 : n1 ≤ 12) (hs : ∀ x ∈ s, 0 ≤ x ∧ x ≤ 100000) (hp : ∀ k ∈ p, 0 ≤ k ∧ k ≤ 100) :
    Calls Try.prog 52 #[.slice A1 n1 c1, .slice A2 n2 c2] w fun e w' => ∃ A n c, e = .returned (.slice A n c) ∧ Own I w' w.heap.size w'.heap.size 2 (.slice A n c) (Rl.loads s p) ∧ Below w.heap.size w w' := by
  obtain ⟨i0, hi0, hz0, hz1, hz2⟩ := info_parts infoI
  have HS := Lib.hid hs
  have HP := Lib.hid hp
  have HL1 := Lib.hid h1.1
  have HL2 := Lib.hid h2.1
  have ho0 : Own I (w.alloc (.cells #[] 2)) w.heap.size (w.heap.size + 1) 2 (.slice (some ⟨w.heap.size, 0, none⟩) 0 0) ([] : List Int) := Own.lit0 I w 2
  have hb0 : Below w.heap.size w (w.alloc (.cells #[] 2)) := (Below.refl _ _).alloc (Nat.le_refl _) _
  have hz : (w.alloc (.cells #[] 2)).heap.size = w.heap.size + 1 := by simp
  clear hs hp
  go_enter Try.func52, Try.ntmps52
  go_wp2_with fail
  go_loopw [5, 6] (fun v i wr => ∃ (k : Nat) (A : Option Addr) (m c : Nat) (o : List Int), k ≤ n2 ∧ i = .int .i64 k ∧ v = .slice A m c ∧ Own I wr w.heap.size wr.heap.size 2 (.slice A m c) o ∧ Hid (o = Rl.loads (s.take k) (p.take k)) ∧ Below w.heap.size w wr) (fun _ i _ => n2 - (intOf i).toNat)
  case atStart => exact ⟨0, _, _, _, [], Nat.zero_le _, rfl, rfl, ho0.mono (Nat.le_refl _) (by omega), Lib.hid (by simp [Rl.loads, Rl.loadsF]), hb0⟩
  case round =>
    clear ho0 hb0 hz
    obtain ⟨k, A, m, c, o, hk, rfl, rfl, ho, HO, hb⟩ := hrel
    have hzb := hb.size
    by_cases hlt : k < n2
    · have hk1 : k < n1 := by omega
      obtain ⟨b2, o2, y, rfl, hb2, hy, cy⟩ := (h2.below hb hB2).at_ hlt
      have HY := Lib.hid hy
      have hy0 := HP.out y (List.mem_of_getElem? hy)
      obtain ⟨q, rfl⟩ := Int.eq_ofNat_of_zero_le hy0.1
      have hq : q ≤ 100 := by omega
      have hml := ho.rd.1
      have hm101 : m ≤ 101 := by rw [← hml, HO.out]; exact Rl.loads_lenT HP.out k (by rw [HL1.out, HL2.out]; exact hn)
      obtain ⟨w0, hw0⟩ : ∃ w0, w0 = wr := ⟨_, rfl⟩
      have HW0 := Lib.hid hw0
      clear hy hy0 hw0
      go_wp2_with fail
      go_loopw [5] (fun v wr => ∃ (j : Nat) (A : Option Addr) (c : Nat), v = .slice A (m + j) c ∧ (m + j ≤ max m (q + 1)) ∧ Own I wr w.heap.size wr.heap.size 2 (.slice A (m + j) c) (o ++ List.replicate j 0) ∧ Below w.heap.size w wr) (fun v _ => match v with | .slice _ n _ => q + 1 - n | _ => 0)
      case atStart => exact ⟨0, A, c, rfl, by omega, by simpa using ho, hb⟩
      case round =>
        clear ho hb hzb cy
        obtain ⟨j, A3, c3, rfl, hj, ho, hb⟩ := hrel
        have hzb := hb.size
        obtain ⟨b2', o2', y', e2, hb2', hy', cy⟩ := (h2.below hb hB2).at_ hlt
        injection e2 with e2
        injection e2 with e2a e2b _
        have hye := HY.out.symm.trans hy'
        injection hye with hye
        subst e2a e2b hye
        clear hy'
        by_cases hc : m + j ≤ q
        · have hcI : ((m + j : Nat) : Int) ≤ (q : Int) := by omega
          go_wp2_with (at_builtin; refine wp_push (enc := I) _ rfl _ _ 24 rfl 2 i0 _ 8 Try.underlying24 hi0 hz0 hz1 hz2 rfl A3 (m + j) c3 _ _ _ rfl ho 0 rfl rfl (by omega) (by omega) (by omega) ?_; intro A4 c4 w4 ho4 hm4)
          have HO4 : Hid (Own I w4 w.heap.size w4.heap.size 2 (.slice A4 (m + (j + 1)) c4) (o ++ List.replicate (j + 1) 0)) := Lib.hid (by rw [List.replicate_succ', ← List.append_assoc]; exact ho4)
          have HB4 := Lib.hid (hb.trans (hm4.below (Nat.le_refl _) hzb))
          clear ho4 hm4
          go_roundw
          case rel => exact ⟨j + 1, A4, c4, rfl, by omega, HO4.out, HB4.out⟩
          case measure => simp; omega
        · obtain ⟨b1, o1, x, rfl, hb1, hx, cx⟩ := (h1.below hb hB1).at_ hk1
          have HX := Lib.hid hx
          have hx0 := HS.out x (List.mem_of_getElem? hx)
          obtain ⟨g, z, rfl, hg1, hg2, hg3, hz, cz, fz⟩ := ho.at_ (k := q) (by omega)
          have hjm : j = q + 1 - m := by omega
          subst hjm
          have HZ : Hid (z = (o ++ List.replicate (q + 1 - o.length) 0).getD q 0) := Lib.hid (by
            have e : m = o.length := hml.symm
            rw [List.getD_eq_getElem?_getD, ← e, hz]
            rfl)
          have hzb2 : 0 ≤ z ∧ z ≤ 1200000 := by
            have h3 := Rl.loads_bd HS.out k (by rw [HL2.out]; exact hk) (by rw [HL1.out, HL2.out]; exact hn) q
            have e : z = o.getD q 0 := by
              rw [HZ.out]
              simp only [List.getD_eq_getElem?_getD]
              rcases Nat.lt_or_ge q o.length with h4 | h4
              · rw [List.getElem?_append_left h4]
              · rw [List.getElem?_append_right h4, List.getElem?_replicate, List.getElem?_eq_none h4]
                split <;> rfl
            rw [e, HO.out]
            omega
          have ex : IntKind.i64.wrap (z + x) = z + x := IntWalk.i64_in _ (by omega)
          have hst := ho.set_ (k := q) (z + x)
          have HS3 := Lib.hid hst
          have hqm : q < m + (q + 1 - m) := by omega
          clear hx hz hst hx0 hzb2
          go_wp2_with fail
          go_region
          go_wp2_with fail
          go_roundw
          case rel =>
            have e : m = o.length := hml.symm
            have hO := (HS3.out.1.mono (Nat.le_refl _) (show wr.heap.size ≤ (wr.setCell ⟨g, q, none⟩ (.int .i64 (z + x))).heap.size by simp)).drewN 1
            have hB := below_drewN' (hb.trans (HS3.out.2.below (Nat.le_refl _) hzb)) 1
            refine ⟨k + 1, _, _, _, _, by omega, by go_num, rfl, hO, Lib.hid ?_, hB⟩
            rw [Rl.loads_next s p k _ _ HX.out HY.out, ← HO.out, Int.toNat_natCast, Rl.addAt_set, ← HZ.out, ← e]
          case measure => simp [intOf]; omega
    · obtain rfl : k = n2 := by omega
      have HE : Hid (o = Rl.loads s p) := Lib.hid (by
        rw [HO.out]
        have e1 : p.take k = p := List.take_of_length_le (by rw [HL2.out]; exact Nat.le_refl _)
        rw [e1]
        have := Rl.loads_cut s p
        rw [HL2.out] at this
        exact this)
      go_wp2_with fail
      go_ret
      exact ⟨A, m, c, rfl, by rw [← HE.out]; exact ho, hb⟩
end Go.Proofs.Ytbhkpjjedeinpaa
