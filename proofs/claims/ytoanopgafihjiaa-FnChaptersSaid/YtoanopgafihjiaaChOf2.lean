/- Contracts of ChapterOf, the model's and the program's: the functions themselves. -/
import Derived.Test.YtoanopgafihjiaaChOf
namespace Go.Proofs.Ytoanopgafihjiaa
open Go.RowKit Pg

theorem co_none {r : Bool} {f : Int} {l : List Int} {p q : Int} (h : cpC r f l p = q) (hq : q ≠ 0) : coR r f l p = 0 ∧ coC r f l p = q := by
  unfold coR coC
  rw [h, if_neg hq, if_neg hq]
  exact ⟨rfl, rfl⟩
theorem co_at {r : Bool} {f : Int} {l : List Int} {p k : Int} (h : cpC r f l p = 0) (hk : chap r (f + 1) l p 0 = k) (h0 : 0 ≤ k) : coR r f l p = k ∧ coC r f l p = 0 := by
  unfold coR coC
  rw [if_pos h, if_pos h, hk, if_neg (by omega), if_neg (by omega)]
  exact ⟨rfl, rfl⟩
theorem co_not {r : Bool} {f : Int} {l : List Int} {p : Int} (h : cpC r f l p = 0) (hk : chap r (f + 1) l p 0 = -1) : coR r f l p = 0 ∧ coC r f l p = 4 := by
  unfold coR coC
  rw [if_pos h, if_pos h, hk]
  exact ⟨rfl, rfl⟩

theorem l02Chapter_is (f : Int) (A : Option Addr) (n c B : Nat) (r : Bool) (l : List Int) (p k : Int) (w : World) (h : Rd I w B A n l) (hB : B ≤ w.heap.size) (hmi : mild f l) (hk : chap r (f + 1) l p 0 = k) :
    Calls Try.prog 38 #[BK f A n c r, .int .i64 p] w fun e w' => e = .returned (.int .i64 k) ∧ Below w.heap.size w w' := by
  subst hk
  exact l02Chapter_any f A n c B r l p w h hB hmi

set_option maxRecDepth 100000 in
set_option maxHeartbeats 2000000 in
theorem specChOf_any (f : Int) (A : Option Addr) (n c B : Nat) (r : Bool) (l : List Int) (p : Int) (w : World) (h : Rd I w B A n l) (hB : B ≤ w.heap.size) (hn : n ≤ 1048576) :
    Calls Try.prog 20 #[BK f A n c r, .int .i64 p] w fun e w' => e = .returned (.tuple #[.int .i64 (coR r f l p), .int .i64 (coC r f l p)]) ∧ Below w.heap.size w w' := by
  have hR0 := h.alloc hB (.cells (BC f A n c r) 26)
  rcases cp_cases r f l p with ⟨hq, ho, _, _⟩ | ⟨hq, _⟩ | ⟨hq, _⟩
  · have HQ := Lib.hid hq
    have HM : Hid (mild f l) := mild_ok ho
    obtain ⟨k, hk⟩ : ∃ k, chap r (f + 1) l p 0 = k := ⟨_, rfl⟩
    have HK := Lib.hid hk
    have hkb : k = -1 ∨ 0 ≤ k := by have := chap_ge r (f + 1) l p 0; omega
    clear hq ho hk
    rcases hkb with rfl | hk0
    · obtain ⟨s1, s2⟩ := co_not HQ.out HK.out
      have S1 := Lib.hid s1
      have S2 := Lib.hid s2
      clear s1 s2
      go_enter Try.func20, Try.ntmps20
      go_wp2_with fail
      refine (l02Code_is _ _ _ _ _ _ _ _ _ _ hR0 (by simp; omega) hn HQ.out).mono ?_
      rintro e w1 ⟨rfl, hb1⟩
      have a1 := (Blk.new (w := w) (g := w.heap.size) (BC f A n c r) 26 rfl).below hb1 (by simp)
      have a10 := a1.cell 0 (v := .int .i64 f) rfl
      have a11 := a1.cell 1 (v := .slice A n c) rfl
      have a12 := a1.cell 2 (v := .bool r) rfl
      have hB1 : Below w.heap.size w w1 := ((Below.refl w.heap.size w).alloc (Nat.le_refl _) _).trans (hb1.mono (by simp))
      have hz1 := hB1.size
      go_wp2_with fail
      refine (l02Chapter_is _ _ _ _ _ _ _ _ _ _ (h.below hB1 hB) (by omega) HM.out HK.out).mono ?_
      rintro e w2 ⟨rfl, hb2⟩
      go_wp2_with fail
      go_ret2
      exact ⟨tup_ii S1.out.symm S2.out.symm, hB1.trans (hb2.mono hz1)⟩
    · obtain ⟨s1, s2⟩ := co_at HQ.out HK.out hk0
      have S1 := Lib.hid s1
      have S2 := Lib.hid s2
      clear s1 s2
      go_enter Try.func20, Try.ntmps20
      go_wp2_with fail
      refine (l02Code_is _ _ _ _ _ _ _ _ _ _ hR0 (by simp; omega) hn HQ.out).mono ?_
      rintro e w1 ⟨rfl, hb1⟩
      have a1 := (Blk.new (w := w) (g := w.heap.size) (BC f A n c r) 26 rfl).below hb1 (by simp)
      have a10 := a1.cell 0 (v := .int .i64 f) rfl
      have a11 := a1.cell 1 (v := .slice A n c) rfl
      have a12 := a1.cell 2 (v := .bool r) rfl
      have hB1 : Below w.heap.size w w1 := ((Below.refl w.heap.size w).alloc (Nat.le_refl _) _).trans (hb1.mono (by simp))
      have hz1 := hB1.size
      go_wp2_with fail
      refine (l02Chapter_is _ _ _ _ _ _ _ _ _ _ (h.below hB1 hB) (by omega) HM.out HK.out).mono ?_
      rintro e w2 ⟨rfl, hb2⟩
      go_wp2_with fail
      go_ret2
      exact ⟨tup_ii S1.out.symm S2.out.symm, hB1.trans (hb2.mono hz1)⟩
  all_goals
    have HQ := Lib.hid hq
    obtain ⟨s1, s2⟩ := co_none hq (by decide)
    have S1 := Lib.hid s1
    have S2 := Lib.hid s2
    clear s1 s2 hq
    go_enter Try.func20, Try.ntmps20
    go_wp2_with fail
    refine (l02Code_is _ _ _ _ _ _ _ _ _ _ hR0 (by simp; omega) hn HQ.out).mono ?_
    rintro e w1 ⟨rfl, hb1⟩
    go_wp2_with fail
    go_ret2
    exact ⟨tup_ii S1.out.symm S2.out.symm, ((Below.refl w.heap.size w).alloc (Nat.le_refl _) _).trans (hb1.mono (by simp))⟩

set_option maxRecDepth 100000 in
set_option maxHeartbeats 2000000 in
theorem implChOf_any (f : Int) (A : Option Addr) (n c B : Nat) (r : Bool) (l : List Int) (p : Int) (w : World) (h : Rd I w B A n l) (hB : B ≤ w.heap.size) (hn : n ≤ 1048576) (hf : -9223372036854775808 ≤ f ∧ f ≤ 9223372036854775807) :
    Calls Try.prog 19 #[BK f A n c r, .int .i64 p] w fun e w' => e = .returned (.tuple #[.int .i64 (coR r f l p), .int .i64 (coC r f l p)]) ∧ Below w.heap.size w w' := by
  have hR0 := h.alloc hB (.cells (BC f A n c r) 26)
  have HL : Hid (l.length = n) := h.1
  rcases cp_cases r f l p with ⟨hq, ho, _, _⟩ | ⟨hq, _⟩ | ⟨hq, _⟩
  · have HQ := Lib.hid hq
    have HM : Hid (mild f l) := mild_ok ho
    have hn2 : n ≤ 20 := by have := ho.2.1.2; have := HL.out; omega
    clear hq ho
    go_enter Try.func19, Try.ntmps19
    go_wp2_with fail
    refine (checkPage_is _ _ _ _ _ _ _ _ _ _ hR0 (by simp; omega) hn hf HQ.out).mono ?_
    rintro e w1 ⟨rfl, hb1⟩
    have a1 := (Blk.new (w := w) (g := w.heap.size) (BC f A n c r) 26 rfl).below hb1 (by simp)
    have a10 := a1.cell 0 (v := .int .i64 f) rfl
    have a11 := a1.cell 1 (v := .slice A n c) rfl
    have a12 := a1.cell 2 (v := .bool r) rfl
    have hB1 : Below w.heap.size w w1 := ((Below.refl w.heap.size w).alloc (Nat.le_refl _) _).trans (hb1.mono (by simp))
    have hz1 := hB1.size
    go_wp2_with fail
    refine (chapterRuns_any _ _ _ _ _ _ _ _ (h.below hB1 hB) (by omega) HM.out).mono ?_
    rintro e w3 ⟨g, rfl, hg, hr3, hb3⟩
    have hB3 := hB1.trans (hb3.mono hz1)
    clear a10 a11 a12
    go_wp2_with fail
    go_loopw [18] (fun i wr => ∃ k : Nat, k ≤ n ∧ i = .int .i64 k ∧ Row2 wr g (runs r (f + 1) l) ∧ Below w.heap.size w wr ∧ Hid (chap r (f + 1) l p 0 = chap r (stop r (f + 1) (l.take k)) (l.drop k) p (0 + k))) (fun i _ => n - (intOf i).toNat)
    case atStart => exact ⟨0, Nat.zero_le _, rfl, hr3, hB3, show _ = _ by simp [stop]⟩
    case round =>
      clear hr3 hB3
      obtain ⟨k, hk, rfl, hrow, hb, hch⟩ := hrel
      have hzr := hb.size
      have hlr := hrow.lt
      by_cases hlt : k < n
      · obtain ⟨x, hx⟩ : ∃ x, l[k]? = some x := ⟨_, List.getElem?_eq_getElem (by rw [HL.out]; exact hlt)⟩
        obtain ⟨hc0, hc1⟩ := runs_at r (f + 1) l k x hx
        rw [Nat.mul_comm 2 k] at hc0 hc1
        have q0 := hrow.cell hc0
        have q1 := hrow.cell hc1
        have HCH := Lib.hid (chap_at r (f + 1) l p 0 k x hx hch.out)
        obtain ⟨y, hy⟩ : ∃ y, up r (stop r (f + 1) (l.take k)) = y := ⟨_, rfl⟩
        rw [hy] at q0 q1 HCH
        clear hc0 hc1 hx hy
        by_cases hin : y ≤ p ∧ p ≤ y + x - 1
        · have HV : Hid (chap r (f + 1) l p 0 = 0 + (k : Int)) := HCH.out.trans (if_pos hin)
          have HI := Lib.hid hin
          clear hin
          obtain ⟨s1, s2⟩ := co_at HQ.out HV.out (by omega)
          have S1 := Lib.hid s1
          have S2 := Lib.hid s2
          clear s1 s2
          go_wp2_with fail
          refine (has_yes _ _ _ _ HI.out).mono ?_
          rintro e w4 ⟨rfl, hb4⟩
          go_wp2_with fail
          go_ret2
          exact ⟨tup_ii (by rw [S1.out]; omega) S2.out.symm, (hb.alloc (by omega) _).trans (hb4.mono (by simp; omega))⟩
        · have HV : Hid (chap r (f + 1) l p 0 = chap r (stop r (f + 1) (l.take (k + 1))) (l.drop (k + 1)) p (0 + (k + 1 : Nat))) := HCH.out.trans (if_neg hin)
          have HI := Lib.hid hin
          clear hin
          go_wp2_with fail
          refine (has_no _ _ _ _ HI.out).mono ?_
          rintro e w4 ⟨rfl, hb4⟩
          go_wp2_with fail
          go_roundw
          case rel => exact ⟨k + 1, by omega, by go_num, (hrow.alloc _).below hb4 (by simp; omega), (hb.alloc (by omega) _).trans (hb4.mono (by simp; omega)), HV⟩
          case measure => simp [intOf]; omega
      · obtain rfl : k = n := by omega
        have HV : Hid (chap r (f + 1) l p 0 = -1) := by
          show _ = _
          rw [hch.out, List.drop_of_length_le (Nat.le_of_eq HL.out)]
          rfl
        obtain ⟨s1, s2⟩ := co_not HQ.out HV.out
        have S1 := Lib.hid s1
        have S2 := Lib.hid s2
        clear s1 s2
        go_wp2_with fail
        go_ret2
        exact ⟨tup_ii S1.out.symm S2.out.symm, hb⟩
  all_goals
    have HQ := Lib.hid hq
    obtain ⟨s1, s2⟩ := co_none hq (by decide)
    have S1 := Lib.hid s1
    have S2 := Lib.hid s2
    clear s1 s2 hq
    go_enter Try.func19, Try.ntmps19
    go_wp2_with fail
    refine (checkPage_is _ _ _ _ _ _ _ _ _ _ hR0 (by simp; omega) hn hf HQ.out).mono ?_
    rintro e w1 ⟨rfl, hb1⟩
    go_wp2_with fail
    go_ret2
    exact ⟨tup_ii S1.out.symm S2.out.symm, ((Below.refl w.heap.size w).alloc (Nat.le_refl _) _).trans (hb1.mono (by simp))⟩
end Go.Proofs.Ytoanopgafihjiaa
