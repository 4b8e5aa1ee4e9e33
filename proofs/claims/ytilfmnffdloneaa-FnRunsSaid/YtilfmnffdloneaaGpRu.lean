/- Contracts of the program's rounded quotients, of its test of ups, its run and its least ups. -/
import Derived.Test.YtilfmnffdloneaaGpVt
import Derived.Laws.MakeOwn
namespace Go.Proofs.Ytilfmnffdloneaa
open Go.RowKit
set_option linter.unusedVariables false

theorem roundedG_any (x u r : Int) (w : World) (h0 : 0 ≤ x) (h1 : x ≤ 1000000000) (hu : 1 ≤ u) (hu1 : u ≤ 1000000000) (hr : (x + u - 1) / u = r) :
    Calls Try.prog 77 #[.int .i64 x, .int .i64 u, .int .i64 1] w fun e w' => e = .returned (.int .i64 r) ∧ w = w' := by
  subst hr
  have u0 : ¬ u = 0 := by omega
  have a1 := Int.ediv_nonneg (a := x + u - 1) (b := u) (by omega) (by omega)
  have a2 := Int.ediv_le_self (a := x + u - 1) u (by omega)
  have e1 : IntKind.i64.wrap (x + u) = x + u := IntWalk.i64_in _ (by omega)
  have e2 : IntKind.i64.wrap (x + u - 1) = x + u - 1 := IntWalk.i64_in _ (by omega)
  have e3 : (x + u - 1).tdiv u = (x + u - 1) / u := Int.tdiv_eq_ediv_of_nonneg (by omega)
  have e4 : IntKind.i64.wrap ((x + u - 1) / u) = (x + u - 1) / u := IntWalk.i64_in _ (by omega)
  go_enter Try.func77, Try.ntmps77
  go_wp2_with fail
  go_ret
  exact ⟨rfl, rfl⟩
theorem quotUp_any (x u r : Int) (w : World) (h0 : 0 ≤ x) (h1 : x ≤ 1000000000) (hu : 1 ≤ u) (hu1 : u ≤ 1000000000) (hr : Ga.ceil x u = r) :
    Calls Try.prog 67 #[.int .i64 x, .int .i64 u] w fun e w' => e = .returned (.int .i64 r) ∧ w = w' := by
  have HR : Hid ((x + u - 1) / u = r) := Lib.hid hr
  clear hr
  go_enter Try.func67, Try.ntmps67
  go_wp2_with fail
  refine (roundedG_any x u r _ h0 h1 hu hu1 HR.out).mono ?_
  rintro e _ ⟨rfl, rfl⟩
  go_wp2_with fail
  go_ret
  exact ⟨rfl, rfl⟩
set_option maxRecDepth 100000 in
set_option maxHeartbeats 4000000 in
theorem implGal_any (r : Int) (A1 A2 : Option Addr) (n1 c1 n2 c2 B2 : Nat) (q u : List Int) (b : Bool) (w : World) (hq : q.length = n1) (h2 : Rd I w B2 A2 n2 u) (hB2 : B2 ≤ w.heap.size) (hn1 : n1 ≤ 6) (hr : 1 ≤ r ∧ r ≤ 32) (hb : Ga.okU r q u = b) :
    Calls Try.prog 49 #[GV r A1 n1 c1, .slice A2 n2 c2] w fun e w' => e = .returned (.bool b) ∧ Below w.heap.size w w' := by
  have HB := Lib.hid hb
  have HL1 := Lib.hid hq
  have HL2 := Lib.hid h2.1
  have HN := Lib.hid (below_newG w (.cells #[.int .i64 r, .slice A1 n1 c1] 57))
  have hbx : GBx (w.alloc (.cells #[.int .i64 r, .slice A1 n1 c1] 57)) w.heap.size r A1 n1 c1 := Blk.new _ _ rfl
  have hr0 := h2.alloc hB2 (.cells #[.int .i64 r, .slice A1 n1 c1] 57)
  have k0 := hbx.cell 0 (v := .int .i64 r) rfl
  have k1 := hbx.cell 1 (v := .slice A1 n1 c1) rfl
  clear hbx hb hq
  by_cases hnn : n2 = n1
  rotate_left
  · have HF : Hid (b = false) := Lib.hid (by rw [← HB.out]; unfold Ga.okU; rw [HL1.out, HL2.out, decide_eq_false hnn, Bool.false_and])
    have hnI : ¬ ((n2 : Int) = (n1 : Int)) := by omega
    have hnB : ((n2 : Int) != (n1 : Int)) = true := by simpa using hnI
    go_enter Try.func49, Try.ntmps49
    go_wp2_with fail
    go_ret
    exact ⟨ret_b HF.out.symm, HN.out⟩
  subst hnn
  go_enter Try.func49, Try.ntmps49
  go_wp2_with fail
  go_loop [5, 7, 18] (fun l _ i => ∃ (k : Nat) (t : Int), k ≤ n2 ∧ i = .int .i64 k ∧ l = .int .i64 t ∧ 0 ≤ t ∧ t ≤ r ∧ Hid (Ga.tot (u.take k) = r - t) ∧ Hid (∀ x ∈ u.take k, 1 ≤ x ∧ x ≤ r)) (fun _ _ i => n2 - (intOf i).toNat)
  case atStart => exact ⟨0, r, Nat.zero_le _, rfl, rfl, by omega, Int.le_refl _, Lib.hid (by simp [Ga.tot]), Lib.hid (by simp)⟩
  case round =>
    obtain ⟨k, t, hk, rfl, rfl, ht0, ht1, HT, HA⟩ := hrel
    by_cases hlt : k < n2
    · obtain ⟨b1, o, x, rfl, hbB, hx, hc⟩ := hr0.at_ hlt
      have HX := Lib.hid hx
      clear hx
      have HD : Hid (u = u.take (k + 1) ++ u.drop (k + 1)) := Lib.hid (List.take_append_drop _ _).symm
      have HK : Hid (u.take (k + 1) = u.take k ++ [x]) := Lib.hid (take_nextGa u k x HX.out)
      by_cases hx1 : x < 1
      · have HF : Hid (b = false) := Lib.hid (by
          cases e : Ga.okU r q u
          · rw [← HB.out, e]
          · have h9 := (Ga.okU_iff.1 e).2.1.2 x (List.mem_of_getElem? HX.out)
            omega)
        go_wp2_with fail
        go_ret
        exact ⟨ret_b HF.out.symm, HN.out⟩
      by_cases hx2 : t < x
      · have HF : Hid (b = false) := Lib.hid (by
          cases e : Ga.okU r q u
          · rw [← HB.out, e]
          · have h9 := Ga.okU_iff.1 e
            have h10 := h9.2.2
            rw [HD.out, Ga.tot_append, HK.out, Ga.tot_append, HT.out] at h10
            have h11 := Ga.tot_ge (m := 0) (l := u.drop (k + 1)) fun y hy => by have := h9.2.1.2 y (List.mem_of_mem_drop hy); omega
            simp only [Ga.tot] at h10
            omega)
        go_wp2_with fail
        go_ret
        exact ⟨ret_b HF.out.symm, HN.out⟩
      have HT2 : Hid (Ga.tot (u.take (k + 1)) = r - (t - x)) := Lib.hid (by rw [HK.out, Ga.tot_append, HT.out]; simp only [Ga.tot]; omega)
      have HA2 : Hid (∀ y ∈ u.take (k + 1), 1 ≤ y ∧ y ≤ r) := Lib.hid (by
        rw [HK.out]
        intro y hy
        rcases List.mem_append.1 hy with hy | hy
        · exact HA.out y hy
        · simp at hy; subst hy; omega)
      have e1 : IntKind.i64.wrap (t - x) = t - x := IntWalk.i64_in _ (by omega)
      go_wp2_with fail
      go_round
      case rel => exact ⟨k + 1, t - x, by omega, by go_num, rfl, by omega, by omega, HT2, HA2⟩
      case measure => simp [intOf]; omega
    · obtain rfl : k = n2 := by omega
      have HG : Hid (b = true) := Lib.hid (by
        rw [← HB.out, Ga.okU_iff, HL1.out, HL2.out]
        have h3 := HA.out
        have h4 := HT.out
        rw [List.take_of_length_le (by rw [HL2.out]; exact Nat.le_refl _)] at h3 h4
        exact ⟨rfl, ⟨hn1, h3⟩, by omega⟩)
      go_wp2_with fail
      go_ret
      exact ⟨ret_b HG.out.symm, HN.out⟩
set_option maxRecDepth 100000 in
set_option maxHeartbeats 4000000 in
theorem implGrun_any (r : Int) (A1 A2 : Option Addr) (n c1 B1 c2 B2 : Nat) (q u : List Int) (R : Int) (w : World) (h1 : Rd I w B1 A1 n q) (h2 : Rd I w B2 A2 n u) (hB1 : B1 ≤ w.heap.size) (hB2 : B2 ≤ w.heap.size) (hn : n ≤ 6) (hq : ∀ x ∈ q, 1 ≤ x ∧ x ≤ 1000000) (hu : ∀ x ∈ u, 1 ≤ x ∧ x ≤ 32) (hR : Ga.run q u = R) :
    Calls Try.prog 50 #[GV r A1 n c1, .slice A2 n c2] w fun e w' => e = .returned (.int .i64 R) ∧ Below w.heap.size w w' := by
  have HL1 : Hid (q.length = n) := Lib.hid h1.1
  have HL2 : Hid (u.length = n) := Lib.hid h2.1
  have HQ := Lib.hid hq
  have HU := Lib.hid hu
  have HR := Lib.hid hR
  have HN := Lib.hid (below_newG w (.cells #[.int .i64 r, .slice A1 n c1] 57))
  have hbx : GBx (w.alloc (.cells #[.int .i64 r, .slice A1 n c1] 57)) w.heap.size r A1 n c1 := Blk.new _ _ rfl
  have hr1 := h1.alloc hB1 (.cells #[.int .i64 r, .slice A1 n c1] 57)
  have hr2 := h2.alloc hB2 (.cells #[.int .i64 r, .slice A1 n c1] 57)
  have k0 := hbx.cell 0 (v := .int .i64 r) rfl
  have k1 := hbx.cell 1 (v := .slice A1 n c1) rfl
  clear hq hu hR hbx
  go_enter Try.func50, Try.ntmps50
  go_wp2_with fail
  go_loop [5, 6, 7, 11] (fun v _ _ i => ∃ (k : Nat) (t : Int), k ≤ n ∧ i = .int .i64 k ∧ v = .int .i64 t ∧ Hid (Ga.run (q.take k) (u.take k) = t)) (fun _ _ _ i => n - (intOf i).toNat)
  case atStart => exact ⟨0, 0, Nat.zero_le _, rfl, rfl, Lib.hid (by simp [Ga.run])⟩
  case round =>
    obtain ⟨k, t, hk, rfl, rfl, HT⟩ := hrel
    by_cases hlt : k < n
    · obtain ⟨b1, o1, a, rfl, hb1, ha, ca⟩ := hr1.at_ hlt
      obtain ⟨b2, o2, b, rfl, hb2, hb, cb⟩ := hr2.at_ hlt
      have ha1 := HQ.out a (List.mem_of_getElem? ha)
      have hb1' := HU.out b (List.mem_of_getElem? hb)
      obtain ⟨z, hz⟩ : ∃ z, Ga.ceil a b = z := ⟨_, rfl⟩
      have hce := fun W => quotUp_any a b z W (by omega) (by omega) (by omega) (by omega) hz
      have HN : Hid (Ga.run (q.take (k + 1)) (u.take (k + 1)) = max t z) := Lib.hid (by
        rw [take_nextGa q k a ha, take_nextGa u k b hb, Ga.run_snoc a b (by rw [List.length_take, List.length_take, HL1.out, HL2.out]), HT.out, hz])
      clear ha hb ha1 hb1' hz
      rcases Int.lt_trichotomy t z with hlu | hlu | hlu
      · have HE : Hid (max t z = z) := Lib.hid (by omega)
        have g1 : ¬ z < t := by omega
        have g2 : ¬ z ≤ t := by omega
        have g3 : t ≤ z := by omega
        go_wp2_with fail
        refine (hce _).mono ?_
        rintro e _ ⟨rfl, rfl⟩
        go_wp2_with fail
        go_round
        case rel => exact ⟨k + 1, z, by omega, by go_num, rfl, Lib.hid (by rw [HN.out, HE.out])⟩
        case measure => simp [intOf]; omega
      · subst hlu
        have HE : Hid (max t t = t) := Lib.hid (by omega)
        go_wp2_with fail
        refine (hce _).mono ?_
        rintro e _ ⟨rfl, rfl⟩
        go_wp2_with fail
        go_round
        case rel => exact ⟨k + 1, t, by omega, by go_num, rfl, Lib.hid (by rw [HN.out, HE.out])⟩
        case measure => simp [intOf]; omega
      · have HE : Hid (max t z = t) := Lib.hid (by omega)
        have g1 : ¬ t < z := by omega
        have g2 : ¬ t ≤ z := by omega
        have g3 : z ≤ t := by omega
        go_wp2_with fail
        refine (hce _).mono ?_
        rintro e _ ⟨rfl, rfl⟩
        go_wp2_with fail
        go_round
        case rel => exact ⟨k + 1, t, by omega, by go_num, rfl, Lib.hid (by rw [HN.out, HE.out])⟩
        case measure => simp [intOf]; omega
    · obtain rfl : k = n := by omega
      have HE : Hid (t = R) := Lib.hid (by
        have h3 := HT.out
        rw [List.take_of_length_le (by rw [HL1.out]; exact Nat.le_refl _), List.take_of_length_le (by rw [HL2.out]; exact Nat.le_refl _)] at h3
        rw [← h3, HR.out])
      go_wp2_with fail
      go_ret
      exact ⟨ret_i HE.out, HN.out⟩
/-- A list and whether it is one. -/
def LBG (w : World) (R : List Int) (b : Bool) (e : Ending) (w' : World) : Prop :=
  ∃ A n c, e = .returned (.tuple #[.slice A n c, .bool b]) ∧ Own I w' w.heap.size w'.heap.size 2 (.slice A n c) R ∧ n ≤ 1048576 ∧ Below w.heap.size w w'
theorem LBG.nil_ {w w' : World} {R : List Int} {b b' : Bool} (hR : R = []) (hC : b = b') (hb : Below w.heap.size w w') : LBG w R b (.returned (.tuple #[.slice none 0 0, .bool b'])) w' := by
  subst hR hC
  exact ⟨none, 0, 0, rfl, Own.nil_, by omega, hb⟩
theorem LBG.mk_ {w w' : World} {R R' : List Int} {b b' : Bool} {A : Option Addr} {n c lo hi : Nat} (hR : R = R') (hC : b = b') (ho : Own I w' lo hi 2 (.slice A n c) R') (h1 : w.heap.size ≤ lo) (h2 : hi ≤ w'.heap.size) (hn : n ≤ 1048576) (hb : Below w.heap.size w w') :
    LBG w R b (.returned (.tuple #[.slice A n c, .bool b'])) w' := by
  subst hR hC
  exact ⟨A, n, c, rfl, ho.mono h1 h2, hn, hb⟩
theorem tot_take_le {l : List Int} {k : Nat} (h : ∀ x ∈ l, 1 ≤ x ∧ x ≤ 1000000) (hl : l.length ≤ 6) : 0 ≤ Ga.tot (l.take k) ∧ Ga.tot (l.take k) ≤ 6000000 := by
  have h1 := Ga.tot_le (m := 1000000) (l := l.take k) fun x hx => (h x (List.mem_of_mem_take hx)).2
  have h2 := Ga.tot_ge (m := 0) (l := l.take k) fun x hx => by have := (h x (List.mem_of_mem_take hx)).1; omega
  have h3 : (l.take k).length ≤ 6 := by rw [List.length_take]; omega
  have h4 : ((l.take k).length : Int) * 1000000 ≤ 6 * 1000000 := Int.mul_le_mul_of_nonneg_right (by omega) (by omega)
  omega
set_option maxRecDepth 100000 in
set_option maxHeartbeats 4000000 in
theorem implGuf_any (r z : Int) (A : Option Addr) (n c B : Nat) (q R : List Int) (b : Bool) (w : World) (h : Rd I w B A n q) (hB : B ≤ w.heap.size) (hn : n ≤ 6) (hq : ∀ x ∈ q, 1 ≤ x ∧ x ≤ 1000000) (hr : 1 ≤ r ∧ r ≤ 32) (hz : 1 ≤ z ∧ z ≤ 1000000) (hR : (if Ga.tot (Ga.forR q z) ≤ r then Ga.forR q z else []) = R) (hb : decide (Ga.tot (Ga.forR q z) ≤ r) = b) :
    Calls Try.prog 53 #[GV r A n c, .int .i64 z] w fun e w' => LBG w R b e w' := by
  obtain ⟨i0, hi0, hz0, hz1, hz2⟩ := info_parts infoI
  have HL1 : Hid (q.length = n) := Lib.hid h.1
  have HQ := Lib.hid hq
  have HR := Lib.hid hR
  have HB := Lib.hid hb
  have HBD := Lib.hid (Ga.forR_bd hq hz.1)
  have HFL : Hid ((Ga.forR q z).length = n) := Lib.hid (by rw [Ga.forR_len]; exact h.1)
  have HN := Lib.hid (below_newG w (.cells #[.int .i64 r, .slice A n c] 57))
  have hbx : GBx (w.alloc (.cells #[.int .i64 r, .slice A n c] 57)) w.heap.size r A n c := Blk.new _ _ rfl
  have hzz : (w.alloc (.cells #[.int .i64 r, .slice A n c] 57)).heap.size = w.heap.size + 1 := by simp
  have HB2 : i0.bytes * n ≤ 281474976710656 := by rw [hz2]; omega
  have HN2 : n ≤ maxLen := by unfold maxLen; omega
  have k0 := hbx.cell 0 (v := .int .i64 r) rfl
  have k1 := hbx.cell 1 (v := .slice A n c) rfl
  clear hq hR hb
  go_enter Try.func53, Try.ntmps53
  go_wp2_with (at_make; refine wpList_make_own _ rfl _ _ 24 rfl (w.alloc (.cells #[.int .i64 r, .slice A n c] 57)).heap.size 2 i0 _ 1 Try.underlying24 hi0 hz0 hz1 .i64 .i64 _ n rfl rfl rfl HB2 HN2 (Nat.le_refl _) ?_; intro w1 hown1 hg1; have hb1 := (Below.refl (w.alloc (.cells #[.int .i64 r, .slice A n c] 57)).heap.size (w.alloc (.cells #[.int .i64 r, .slice A n c] 57))).grown hg1 (Nat.le_refl _) (by simp); have hbx1 := hbx.below hb1 hbx.lt; have k01 := hbx1.cell 0 (v := .int .i64 r) rfl; have k11 := hbx1.cell 1 (v := .slice A n c) rfl)
  have ho1 : Own I w1 (w.alloc (.cells #[.int .i64 r, .slice A n c] 57)).heap.size w1.heap.size 2 (.slice (some ⟨(w.alloc (.cells #[.int .i64 r, .slice A n c] 57)).heap.size, 0, none⟩) 0 n) ([] : List Int) := Own.here hown1 rfl
  have hbw := HN.out.trans (hb1.mono (by omega))
  rw [hzz] at ho1
  have hs1 : w.heap.size + 1 ≤ w1.heap.size := by have := hb1.size; omega
  clear hown1 hg1 hb1 hbx k0 k1
  go_loopw [6, 7, 9, 10, 20] (fun v l _ _ i wr => ∃ (k : Nat) (t : Int) (A3 : Option Addr) (c3 : Nat), k ≤ n ∧ i = .int .i64 k ∧ v = .slice A3 k c3 ∧ l = .int .i64 t ∧ Own I wr (w.heap.size + 1) wr.heap.size 2 (.slice A3 k c3) ((Ga.forR q z).take k) ∧ Hid (Ga.tot ((Ga.forR q z).take k) = r - t) ∧ GBx wr w.heap.size r A n c ∧ Below w.heap.size w wr ∧ w.heap.size + 1 ≤ wr.heap.size) (fun _ _ _ _ i _ => n - (intOf i).toNat)
  case atStart => exact ⟨0, r, _, _, Nat.zero_le _, rfl, rfl, rfl, by simpa using ho1, Lib.hid (by simp [Ga.tot]), hbx1, hbw, hs1⟩
  case round =>
    clear ho1 hbx1 hbw hs1 k01 k11
    obtain ⟨k, t, A3, c3, hk, rfl, rfl, rfl, ho, HT, hbx, hb, hs⟩ := hrel
    have k0 := hbx.cell 0 (v := .int .i64 r) rfl
    have k1 := hbx.cell 1 (v := .slice A n c) rfl
    have htb : -6000000 ≤ t ∧ t ≤ 32 := by
      have h3 := tot_take_le (k := k) HBD.out (by rw [HFL.out]; exact hn)
      rw [HT.out] at h3
      omega
    by_cases hlt : k < n
    · obtain ⟨b1, o1, a, rfl, hb1, ha, ca⟩ := (h.below hb hB).at_ hlt
      have ha1 := HQ.out a (List.mem_of_getElem? ha)
      obtain ⟨y, hy⟩ : ∃ y, Ga.ceil a z = y := ⟨_, rfl⟩
      have hyb := Ga.ceil_bd ha1.1 hz.1
      rw [hy] at hyb
      have hce := fun W => quotUp_any a z y W (by omega) (by omega) (by omega) (by omega) hy
      have HK : Hid ((Ga.forR q z).take (k + 1) = (Ga.forR q z).take k ++ [y]) := Lib.hid (take_nextGa _ k y (by unfold Ga.forR; rw [List.getElem?_map, ha, ← hy]; rfl))
      have HT2 : Hid (Ga.tot ((Ga.forR q z).take (k + 1)) = r - (t - y)) := Lib.hid (by rw [HK.out, Ga.tot_append, HT.out]; simp only [Ga.tot]; omega)
      have e1 : IntKind.i64.wrap (t - y) = t - y := IntWalk.i64_in _ (by omega)
      clear ha ha1 hy hyb htb
      go_wp2_with fail
      refine (hce _).mono ?_
      rintro e _ ⟨rfl, rfl⟩
      go_wp2_with (at_builtin; refine wp_push (enc := I) wr rfl _ _ 24 rfl 2 i0 _ 8 Try.underlying24 hi0 hz0 hz1 hz2 rfl A3 k c3 _ _ _ rfl ho y rfl rfl (by omega) (by omega) (by omega) ?_; intro A4 c4 w4 ho4 hm4; have HO4 : Hid (Own I w4 (w.heap.size + 1) w4.heap.size 2 (.slice A4 (k + 1) c4) ((Ga.forR q z).take (k + 1))) := Lib.hid (by rw [HK.out]; exact ho4); have HB4 := Lib.hid (hb.trans (hm4.below (by omega) (by omega))); have HX4 := Lib.hid (hbx.only hm4 (.inl (by omega))); have HS4 := Lib.hid (Nat.le_trans hs hm4.size); clear ho4 hm4)
      go_roundw
      case rel => exact ⟨k + 1, t - y, A4, c4, by omega, by go_num, rfl, rfl, HO4.out, HT2, HX4.out, HB4.out, HS4.out⟩
      case measure => simp [intOf]; omega
    · obtain rfl : k = n := by omega
      have HE : Hid ((Ga.forR q z).take k = Ga.forR q z) := Lib.hid (List.take_of_length_le (by rw [HFL.out]; exact Nat.le_refl _))
      rw [HE.out] at ho
      have HO := Lib.hid ho
      have HTT : Hid (Ga.tot (Ga.forR q z) = r - t) := Lib.hid (by rw [← HT.out, HE.out])
      clear ho htb
      by_cases ht : t < 0
      · have HRR : Hid (R = []) := Lib.hid (by rw [← HR.out, if_neg (by rw [HTT.out]; omega)])
        have HBB : Hid (b = false) := Lib.hid (by rw [← HB.out, decide_eq_false (by rw [HTT.out]; omega)])
        go_wp2_with fail
        go_ret2
        exact LBG.nil_ HRR.out HBB.out hb
      · have HRR : Hid (R = Ga.forR q z) := Lib.hid (by rw [← HR.out, if_pos (by rw [HTT.out]; omega)])
        have HBB : Hid (b = true) := Lib.hid (by rw [← HB.out, decide_eq_true (by rw [HTT.out]; omega)])
        go_wp2_with fail
        go_ret2
        exact LBG.mk_ HRR.out HBB.out HO.out (by omega) (Nat.le_refl _) (by omega) hb
end Go.Proofs.Ytilfmnffdloneaa
