/- Walks of the library's stable sort over the numbers of the strips. -/
import Derived.Test.YtbhkpjjedeinpaaRiSo
import Derived.Shelf.Abstract
namespace Go.Proofs.Ytbhkpjjedeinpaa
open Go.RowKit
set_option linter.unusedVariables false

def cmpC (a b : Int) : Int := if a < b then -1 else if b < a then 1 else 0
theorem compare_any (x y : Int) (w : World) :
    Calls Try.prog 64 #[.int .i64 x, .int .i64 y] w fun e w' => e = .returned (.int .i64 (cmpC x y)) ∧ w = w' := by
  have hn := fun z W => isNan_any z W
  rcases Int.lt_trichotomy x y with h | h | h
  · have HE : Hid (-1 = cmpC x y) := Lib.hid (by unfold cmpC; rw [if_pos h])
    go_enter Try.func64, Try.ntmps64
    go_wp2_with fail
    refine (hn _ _).mono ?_
    rintro e _ ⟨rfl, rfl⟩
    go_wp2_with fail
    refine (hn _ _).mono ?_
    rintro e _ ⟨rfl, rfl⟩
    go_wp2_with fail
    go_ret
    exact ⟨ret_i HE.out, rfl⟩
  · subst h
    have HE : Hid (0 = cmpC x x) := Lib.hid (by unfold cmpC; rw [if_neg (by omega), if_neg (by omega)])
    have h1 : ¬ x < x := by omega
    go_enter Try.func64, Try.ntmps64
    go_wp2_with fail
    refine (hn _ _).mono ?_
    rintro e _ ⟨rfl, rfl⟩
    go_wp2_with fail
    refine (hn _ _).mono ?_
    rintro e _ ⟨rfl, rfl⟩
    go_wp2_with fail
    go_ret
    exact ⟨ret_i HE.out, rfl⟩
  · have HE : Hid (1 = cmpC x y) := Lib.hid (by unfold cmpC; rw [if_neg (by omega), if_pos h])
    have h1 : ¬ x < y := by omega
    go_enter Try.func64, Try.ntmps64
    go_wp2_with fail
    refine (hn _ _).mono ?_
    rintro e _ ⟨rfl, rfl⟩
    go_wp2_with fail
    refine (hn _ _).mono ?_
    rintro e _ ⟨rfl, rfl⟩
    go_wp2_with fail
    go_ret
    exact ⟨ret_i HE.out, rfl⟩
set_option maxRecDepth 100000 in
set_option maxHeartbeats 2000000 in
theorem byLen_any (i j g : Nat) (r : Int) (A : Option Addr) (n c B : Nat) (s : List Int) (C : Int) (w : World) (hb : TBx w g r A n c) (h : Rd I w B A n s) (hn : n ≤ 12) (hi : i < n) (hj : j < n) (hC : cmpC (s.getD j 0) (s.getD i 0) = C) :
    Calls Try.prog 63 #[.int .i64 (i : Int), .int .i64 (j : Int), .pointer (some ⟨g, 0, none⟩)] w fun e w' => e = .returned (.int .i64 C) ∧ Q w w' := by
  obtain ⟨b1, o1, x, rfl, hbl, hx, cx⟩ := h.at_ hi
  obtain ⟨b2, o2, y, e2, hbl2, hy, cy⟩ := h.at_ hj
  injection e2 with e2
  injection e2 with e2a e2b _
  subst e2a e2b
  have ex : s.getD i 0 = x := by rw [List.getD_eq_getElem?_getD, hx]; rfl
  have ey : s.getD j 0 = y := by rw [List.getD_eq_getElem?_getD, hy]; rfl
  rw [ex, ey] at hC
  have hcm : ∀ W, Calls Try.prog 64 #[.int .i64 y, .int .i64 x] W fun e w' => e = .returned (.int .i64 C) ∧ W = w' := fun W => by rw [← hC]; exact compare_any y x W
  have e1 := hb.cell 1 (v := .slice (some ⟨b1, o1, none⟩) n c) rfl
  have hiI : (i : Int) < (n : Int) := by omega
  have hjI : (j : Int) < (n : Int) := by omega
  clear hx hy ex ey hC
  go_enter Try.func63, Try.ntmps63
  go_wp2_with fail
  go_quiet (first | (go_at_call 64; with_reducible exact quiet_same (hcm _)))
  go_wp2_with fail
  go_ret
  exact ⟨rfl, Q.drewN _ _⟩
set_option maxRecDepth 100000 in
set_option maxHeartbeats 8000000 in
theorem insCmp_any (gt g lo hi : Nat) (r : Int) (A : Option Addr) (n c B : Nat) (s : List Int) (w : World) (hb : TBx w gt r A n c) (h : Rd I w B A n s) (ho : Own I w lo hi 2 (.slice (some ⟨g, 0, none⟩) n n) (Rl.idx n)) (hn : n ≤ 12) (hn1 : 1 ≤ n) (hgt : gt < lo) (hBl : B ≤ lo) (hBw : B ≤ w.heap.size) :
    Calls Try.prog 75 #[.slice (some ⟨g, 0, none⟩) n n, .int .i64 0, .int .i64 (n : Int), .func (.func 63) #[] #[.pointer (some ⟨gt, 0, none⟩)]] w fun e w' => e = .returned (.tuple #[]) ∧ Own I w' lo hi 2 (.slice (some ⟨g, 0, none⟩) n n) (Rl.ord s n) ∧ Only lo hi w w' := by
  have hcf : ∀ args W, (callFunc 63 args).run Try.prog W = .ok (.enter 63 args) W := enters_of Try.func63 (by kernel_rfl) rfl
  have H1 : Hid (Rl.idx n = Rl.ord s 1 ++ (Rl.idx n).drop 1) := Lib.hid (by
    have e : Rl.ord s 1 = [(0 : Int)] := by simp [Rl.ord, Rl.insA]
    rw [e]
    unfold Rl.idx
    obtain ⟨k, rfl⟩ : ∃ k, n = k + 1 := ⟨n - 1, by omega⟩
    rw [List.range_succ_eq_map]
    rfl)
  rw [H1.out] at ho
  go_enter Try.func75, Try.ntmps75
  go_wp2_with fail
  go_loopw [8, 9] (fun v _ wr => ∃ k : Nat, 1 ≤ k ∧ k ≤ n ∧ v = .int .i64 (k : Int) ∧ Own I wr lo hi 2 (.slice (some ⟨g, 0, none⟩) n n) (Rl.ord s k ++ (Rl.idx n).drop k) ∧ Only lo hi w wr) (fun v _ _ => n - (intOf v).toNat)
  case atStart => exact ⟨1, Nat.le_refl _, hn1, rfl, ho, Only.refl _ _ _⟩
  case round =>
    clear ho
    obtain ⟨k, hk1, hk, rfl, ho, hm⟩ := hrel
    by_cases hlt : k < n
    · have hltI : (k : Int) < (n : Int) := by omega
      rw [Rl.low_start s hlt] at ho
      have HOL := Lib.hid (Rl.ord_len s k)
      obtain ⟨T, hT⟩ : ∃ T, (Rl.idx n).drop (k + 1) = T := ⟨_, rfl⟩
      have HTT := Lib.hid hT
      rw [hT] at ho
      have HTL : Hid (T.length + (k + 1) = n) := Lib.hid (by rw [← hT, List.length_drop, Rl.idx_len]; omega)
      clear hT
      go_wp2_with fail
      obtain ⟨w1, hw1⟩ : ∃ w1, w1 = wr := ⟨_, rfl⟩
      have HW1 := Lib.hid hw1
      clear hw1
      go_loopw [9] (fun v wr => ∃ m : Nat, m ≤ k ∧ v = .int .i64 (m : Int) ∧ Own I wr lo hi 2 (.slice (some ⟨g, 0, none⟩) n n) (Rl.low (Rl.ord s k) T (k : Int) m) ∧ Hid (∀ y ∈ (Rl.ord s k).drop m, s.getD y.toNat 0 < s.getD k 0) ∧ Only lo hi w wr) (fun v _ => (intOf v).toNat)
      case atStart => exact ⟨k, Nat.le_refl _, rfl, ho, Lib.hid (by rw [List.drop_of_length_le (by rw [HOL.out]; exact Nat.le_refl _)]; simp), hm⟩
      case round =>
        clear ho hm
        obtain ⟨m, hmk, rfl, ho, HD, hm⟩ := hrel
        rcases m with _ | q
        · have hd0 : decide ((0 : Int) > 0) = false := by decide
          have HE : Hid (Rl.low (Rl.ord s k) T (k : Int) 0 = Rl.ord s (k + 1) ++ (Rl.idx n).drop (k + 1)) := Lib.hid (by rw [HTT.out]; exact Rl.low_end (Nat.zero_le _) HD.out (fun h => absurd h (by omega)))
          rw [HE.out] at ho
          go_wp2_with fail
          go_quiet (fail)
          go_wp2_with fail
          go_roundw
          case rel => exact ⟨k + 1, by omega, by omega, by go_num, ho.q (Q.drewN _ _), hm.drewN _⟩
          case measure => simp [intOf]; omega
        · have hqO : q < (Rl.ord s k).length := by rw [HOL.out]; omega
          obtain ⟨z, hz⟩ : ∃ z, (Rl.ord s k)[q] = z := ⟨_, rfl⟩
          have hzm : z ∈ Rl.ord s k := by rw [← hz]; exact List.getElem_mem _
          have hzb := Rl.ord_mem hzm
          obtain ⟨u, rfl⟩ := Int.eq_ofNat_of_zero_le hzb.1
          have HZ := Lib.hid hz
          have hun : u < n := by have := hzb.2; omega
          obtain ⟨g1, x1, hg1, _, _, _, hx1, cx1, fx1⟩ := ho.at_ (k := q + 1) (by omega)
          obtain ⟨g2, x2, hg2, _, _, _, hx2, cx2, fx2⟩ := ho.at_ (k := q) (by omega)
          injection hg1 with hg1
          injection hg1 with hg1 _ _
          injection hg2 with hg2
          injection hg2 with hg2 _ _
          subst hg1
          subst hg2
          rw [Rl.low_at (by omega)] at hx1
          rw [Rl.low_left (by omega), hz] at hx2
          injection hx1 with hx1
          injection hx2 with hx2
          subst hx1 hx2
          obtain ⟨C, hC⟩ : ∃ C, cmpC (s.getD u 0) (s.getD k 0) = C := ⟨_, rfl⟩
          have HC := Lib.hid hC
          have hcl := fun W (hq : Q wr W) => byLen_any k u gt r A n c B s C W ((hb.only hm (.inl hgt)).q hq) ((h.only hm hBl hBw).q hq) hn hlt hun HC.out
          have i1 : (q : Int) + 1 < (n : Int) := by omega
          have i2 : (q : Int) < (n : Int) := by omega
          have i3 : 0 < (q : Int) + 1 := by omega
          have ew : IntKind.i64.wrap ((q : Int) + 1 - 1) = (q : Int) := by rw [show (q : Int) + 1 - 1 = q from by omega]; exact IntWalk.i64_in _ (by omega)
          clear hC hz hzm hzb
          by_cases hlz : s.getD u 0 < s.getD k 0
          · have hCn : C = -1 := by rw [← HC.out]; unfold cmpC; rw [if_pos hlz]
            subst hCn
            have hs1 := ho.set_ (k := q + 1) (u : Int)
            have hs2 := hs1.1.set_ (k := q) (k : Int)
            have hsw : ((Rl.low (Rl.ord s k) T (k : Int) (q + 1)).set (q + 1) (u : Int)).set q (k : Int) = Rl.low (Rl.ord s k) T (k : Int) q := by
              have h5 := Rl.low_swap (O := Rl.ord s k) (R := T) (i := (k : Int)) (j := q) (by omega)
              rw [HZ.out] at h5
              exact h5
            have HO2 := hs2.1
            rw [hsw] at HO2
            have HS := Lib.hid HO2
            have HM2 := Lib.hid ((hm.trans hs1.2).trans hs2.2)
            have HD2 : Hid (∀ y ∈ (Rl.ord s k).drop q, s.getD y.toNat 0 < s.getD k 0) := Lib.hid (by
              intro y hy
              rw [List.drop_eq_getElem_cons hqO, HZ.out] at hy
              rcases List.mem_cons.1 hy with rfl | hy
              · exact hlz
              · exact HD.out y hy)
            clear hs1 hs2 hsw HO2 hlz ho hm
            go_wp2_with fail
            go_quiet (first | (go_at_call 63; with_reducible exact quiet_q (hcl _ (Q.drewN _ _))))
            go_wp2_with fail
            go_region
            go_wp2_with fail
            go_roundw
            case rel => exact ⟨q, by omega, by go_num, HS.out.q (Q.drewN _ _), HD2, HM2.out.drewN _⟩
            case measure => simp [intOf]
          · have hC0 : ¬ C < 0 := by rw [← HC.out]; unfold cmpC; rw [if_neg hlz]; split <;> omega
            have HE : Hid (Rl.low (Rl.ord s k) T (k : Int) (q + 1) = Rl.ord s (k + 1) ++ (Rl.idx n).drop (k + 1)) := Lib.hid (by
              rw [HTT.out]
              refine Rl.low_end hmk HD.out fun _ => ?_
              have h5 : (Rl.ord s k)[q + 1 - 1]'(by simpa using hqO) = (u : Int) := HZ.out
              rw [h5, Int.toNat_natCast]
              omega)
            rw [HE.out] at ho
            clear hlz
            go_wp2_with fail
            go_quiet (first | (go_at_call 63; with_reducible exact quiet_q (hcl _ (Q.drewN _ _))))
            go_wp2_with fail
            go_roundw
            case rel => exact ⟨k + 1, by omega, by omega, by go_num, ho.q (Q.drewN _ _), hm.drewN _⟩
            case measure => simp [intOf]; omega
    · obtain rfl : k = n := by omega
      have e : Rl.ord s k ++ (Rl.idx k).drop k = Rl.ord s k := by rw [List.drop_of_length_le (by rw [Rl.idx_len]; exact Nat.le_refl _), List.append_nil]
      rw [e] at ho
      go_wp2_with fail
      go_end0
      exact ⟨rfl, ho, hm⟩
set_option maxRecDepth 100000 in
set_option maxHeartbeats 2000000 in
theorem stab_any (gt g lo hi : Nat) (r : Int) (A : Option Addr) (n c B : Nat) (s : List Int) (w : World) (hb : TBx w gt r A n c) (h : Rd I w B A n s) (ho : Own I w lo hi 2 (.slice (some ⟨g, 0, none⟩) n n) (Rl.idx n)) (hn : n ≤ 12) (hgt : gt < lo) (hBl : B ≤ lo) (hBw : B ≤ w.heap.size) :
    Calls Try.prog 69 #[.slice (some ⟨g, 0, none⟩) n n, .int .i64 (n : Int), .func (.func 63) #[] #[.pointer (some ⟨gt, 0, none⟩)]] w fun e w' => e = .returned (.tuple #[]) ∧ Own I w' lo hi 2 (.slice (some ⟨g, 0, none⟩) n n) (Rl.ord s n) ∧ Only lo hi w w' := by
  have hi0 : Calls Try.prog 75 #[.slice (some ⟨g, 0, none⟩) n n, .int .i64 0, .int .i64 (n : Int), .func (.func 63) #[] #[.pointer (some ⟨gt, 0, none⟩)]] w fun e w' => e = .returned (.tuple #[]) ∧ Own I w' lo hi 2 (.slice (some ⟨g, 0, none⟩) n n) (Rl.ord s n) ∧ Only lo hi w w' := by
    rcases Nat.eq_zero_or_pos n with h0 | h0
    · subst h0
      have ho2 : Own I w lo hi 2 (.slice (some ⟨g, 0, none⟩) 0 0) (Rl.ord s 0) := ho
      go_enter Try.func75, Try.ntmps75
      go_wp2_with fail
      refine wp_loop_rounds 1 ?_
      rw [rounds_succ]
      go_wp2_with fail
      go_end0
      exact ⟨rfl, ho2, Only.refl _ _ _⟩
    · exact insCmp_any gt g lo hi r A n c B s w hb h ho hn h0 hgt hBl hBw
  have n20 : ¬ (20 : Int) ≤ (n : Int) := by omega
  have n20' : ¬ (20 : Int) < (n : Int) := by omega
  clear ho hb h
  go_enter Try.func69, Try.ntmps69
  go_wp2_with fail
  refine wp_loop_rounds 1 ?_
  rw [rounds_succ]
  go_wp2_with fail
  refine hi0.mono ?_
  rintro e w1 ⟨rfl, h1⟩
  have H1 := Lib.hid h1
  clear h1
  go_wp2_with fail
  refine wp_loop_rounds 1 ?_
  rw [rounds_succ]
  go_wp2_with fail
  go_end0
  exact ⟨rfl, H1.out⟩
set_option maxRecDepth 100000 in
theorem sortSt_any (gt g lo hi : Nat) (r : Int) (A : Option Addr) (n c B : Nat) (s : List Int) (w : World) (hb : TBx w gt r A n c) (h : Rd I w B A n s) (ho : Own I w lo hi 2 (.slice (some ⟨g, 0, none⟩) n n) (Rl.idx n)) (hn : n ≤ 12) (hgt : gt < lo) (hBl : B ≤ lo) (hBw : B ≤ w.heap.size) :
    Calls Try.prog 62 #[.slice (some ⟨g, 0, none⟩) n n, .func (.func 63) #[] #[.pointer (some ⟨gt, 0, none⟩)]] w fun e w' => e = .returned (.tuple #[]) ∧ Own I w' lo hi 2 (.slice (some ⟨g, 0, none⟩) n n) (Rl.ord s n) ∧ Only lo hi w w' := by
  have hs := stab_any gt g lo hi r A n c B s w hb h ho hn hgt hBl hBw
  clear ho hb h
  go_enter Try.func62, Try.ntmps62
  go_wp2_with fail
  refine hs.mono ?_
  rintro e w1 ⟨rfl, h1⟩
  have H1 := Lib.hid h1
  clear h1
  go_wp2_with fail
  go_end0
  exact ⟨rfl, H1.out⟩
set_option maxRecDepth 100000 in
set_option maxHeartbeats 2000000 in
theorem firstNum_any (n : Nat) (w : World) (hn : n ≤ 12) :
    Calls Try.prog 61 #[.int .i64 (n : Int)] w fun e w' => e = .returned (.slice (some ⟨w.heap.size, 0, none⟩) n n) ∧ Own I w' w.heap.size (w.heap.size + 1) 2 (.slice (some ⟨w.heap.size, 0, none⟩) n n) (Rl.idx n) ∧ Below w.heap.size w w' := by
  obtain ⟨i0, hi0, hz0, hz1, hz2⟩ := info_parts infoI
  have hml : n ≤ maxLen := by unfold maxLen; omega
  go_enter Try.func61, Try.ntmps61
  go_wp2_with (at_make; refine wpList_make_full _ rfl _ _ 24 rfl w.heap.size 2 i0 (.int .i64 0) 1 Try.underlying24 hi0 hz0 hz1 .i64 .i64 _ _ n rfl rfl rfl rfl (by rw [hz2]; omega) hml (Nat.le_refl _) ?_; intro w1 hown1 hg1)
  have hown : Own I w1 w.heap.size (w.heap.size + 1) 2 (.slice (some ⟨w.heap.size, 0, none⟩) n n) (List.replicate n 0) := by
    refine ⟨?_, fun k hk => by simp [Value.ownBlock] at hk; omega⟩
    have hz : (Value.int IntKind.i64 0).cells = #[.int .i64 0] := rfl
    rw [hz, toList_madeCells_one] at hown1
    simpa using hown1
  have hb1 : Below w.heap.size w w1 := (Below.refl _ _).grown hg1 (Nat.le_refl _) (by simp)
  clear hown1 hg1
  go_loopw [4, 9] (fun _ i wr => ∃ k : Nat, k ≤ n ∧ i = .int .i64 (k : Int) ∧ Own I wr w.heap.size (w.heap.size + 1) 2 (.slice (some ⟨w.heap.size, 0, none⟩) n n) (Rl.idx k ++ List.replicate (n - k) 0) ∧ Below w.heap.size w wr) (fun _ i _ => n - (intOf i).toNat)
  case atStart => exact ⟨0, Nat.zero_le _, rfl, by simpa [Rl.idx] using hown, hb1⟩
  case round =>
    clear hown hb1
    obtain ⟨k, hk, rfl, ho, hb⟩ := hrel
    have hz := hb.size
    by_cases hlt : k < n
    · obtain ⟨gp, u, hgp, hgp1, hgp2, hgp3, _, cp, fp⟩ := ho.at_ hlt
      injection hgp with hgp
      injection hgp with hgp _ _
      subst hgp
      have hset := ho.set_ (k := k) (k : Int)
      have e : (Rl.idx k ++ List.replicate (n - k) 0).set k (k : Int) = Rl.idx (k + 1) ++ List.replicate (n - (k + 1)) 0 := by
        rw [List.set_append_right _ _ (by rw [Rl.idx_len]; exact Nat.le_refl _), Rl.idx_len, Nat.sub_self, show n - k = (n - (k + 1)) + 1 from by omega, List.replicate_succ, Rl.idx_next]
        simp
      have HO := hset.1
      rw [e] at HO
      have HO1 := Lib.hid HO
      have HB1 := Lib.hid (hb.trans (hset.2.below (Nat.le_refl _) hz))
      clear hset HO ho hb e
      go_wp2_with fail
      go_roundw
      case rel => exact ⟨k + 1, by omega, by go_num, HO1.out, HB1.out⟩
      case measure => simp [intOf]; omega
    · obtain rfl : k = n := by omega
      rw [Nat.sub_self, List.replicate_zero, List.append_nil] at ho
      go_wp2_with fail
      go_ret
      exact ⟨rfl, ho, hb⟩
end Go.Proofs.Ytbhkpjjedeinpaa
