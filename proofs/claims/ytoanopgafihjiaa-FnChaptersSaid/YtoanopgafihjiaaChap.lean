/- Contracts of ChapterStarts and of the model's PageCount. -/
import Derived.Test.YtoanopgafihjiaaCount
import Derived.Test.YtoanopgafihjiaaPush
namespace Go.Proofs.Ytoanopgafihjiaa
open Go.RowKit Pg

set_option maxRecDepth 100000 in
set_option maxHeartbeats 2000000 in
theorem specStarts_any (f : Int) (A : Option Addr) (n c B : Nat) (r : Bool) (l : List Int) (w : World) (h : Rd I w B A n l) (hB : B ≤ w.heap.size) (hn : n ≤ 1048576) :
    Calls Try.prog 13 #[BK f A n c r] w fun e w' => LC w (csR r f l) (bkC f l) e w' := by
  have hR0 := h.alloc hB (.cells (BC f A n c r) 26)
  by_cases ho : okP f l
  · have HO := Lib.hid (okB_yes ho)
    have HR : Hid (csR r f l = starts r (f + 1) l) := if_pos HO.out
    have HC : Hid (bkC f l = 0) := if_pos HO.out
    have HM : Hid (mild f l) := mild_ok ho
    have hn2 : l.length ≤ 20 := ho.2.1.2
    clear ho
    go_enter Try.func13, Try.ntmps13
    go_wp2_with fail
    refine (specIsBook_is _ _ _ _ _ _ _ _ _ hR0 (by simp; omega) hn HO.out).mono ?_
    rintro e w1 ⟨rfl, hb1⟩
    have a1 := (Blk.new (w := w) (g := w.heap.size) (BC f A n c r) 26 rfl).below hb1 (by simp)
    have a10 := a1.cell 0 (v := .int .i64 f) rfl
    have a11 := a1.cell 1 (v := .slice A n c) rfl
    have a12 := a1.cell 2 (v := .bool r) rfl
    have hB1 : Below w.heap.size w w1 := ((Below.refl w.heap.size w).alloc (Nat.le_refl _) _).trans (hb1.mono (by simp))
    have hz1 := hB1.size
    go_wp2_with fail
    refine (l02Starts_any _ _ _ _ _ _ _ _ (h.below hB1 hB) (by omega) HM.out).mono ?_
    rintro e w2 ⟨A2, n2, c2, rfl, rfl, ho2, hb2⟩
    go_wp2_with fail
    go_ret2
    exact LC.mk_ HR.out HC.out ho2 hz1 (Nat.le_refl _) (by omega) (hB1.trans (hb2.mono hz1))
  · have HO := Lib.hid (okB_no ho)
    have HR : Hid (csR r f l = []) := if_neg (by rw [HO.out]; simp)
    have HC : Hid (bkC f l = 1) := if_neg (by rw [HO.out]; simp)
    clear ho
    go_enter Try.func13, Try.ntmps13
    go_wp2_with fail
    refine (specIsBook_is _ _ _ _ _ _ _ _ _ hR0 (by simp; omega) hn HO.out).mono ?_
    rintro e w1 ⟨rfl, hb1⟩
    have hB1 : Below w.heap.size w w1 := ((Below.refl w.heap.size w).alloc (Nat.le_refl _) _).trans (hb1.mono (by simp))
    go_wp2_with fail
    go_ret2
    exact LC.nil_ HR.out HC.out hB1

set_option maxRecDepth 100000 in
set_option maxHeartbeats 2000000 in
theorem implStarts_any (f : Int) (A : Option Addr) (n c B : Nat) (r : Bool) (l : List Int) (w : World) (h : Rd I w B A n l) (hB : B ≤ w.heap.size) (hn : n ≤ 1048576) (hf : -9223372036854775808 ≤ f ∧ f ≤ 9223372036854775807) :
    Calls Try.prog 12 #[BK f A n c r] w fun e w' => LC w (csR r f l) (bkC f l) e w' := by
  have hR0 := h.alloc hB (.cells (BC f A n c r) 26)
  have HL : Hid (l.length = n) := h.1
  by_cases ho : okP f l
  · have HO := Lib.hid (okB_yes ho)
    have HR : Hid (csR r f l = starts r (f + 1) l) := if_pos HO.out
    have HC : Hid (bkC f l = 0) := if_pos HO.out
    have HM : Hid (mild f l) := mild_ok ho
    have hn2 : n ≤ 20 := by have := ho.2.1.2; have := HL.out; omega
    obtain ⟨i0, hi0, hz0, hz1, hz2⟩ := info_parts infoI
    have HB2 : i0.bytes * n ≤ 281474976710656 := by rw [hz2]; omega
    have HN2 : n ≤ maxLen := by unfold maxLen; omega
    clear ho
    go_enter Try.func12, Try.ntmps12
    go_wp2_with fail
    refine (implIsBook_is _ _ _ _ _ _ _ _ _ hR0 (by simp; omega) hn hf HO.out).mono ?_
    rintro e w1 ⟨rfl, hb1⟩
    have a1 := (Blk.new (w := w) (g := w.heap.size) (BC f A n c r) 26 rfl).below hb1 (by simp)
    have a10 := a1.cell 0 (v := .int .i64 f) rfl
    have a11 := a1.cell 1 (v := .slice A n c) rfl
    have a12 := a1.cell 2 (v := .bool r) rfl
    have hB1 : Below w.heap.size w w1 := ((Below.refl w.heap.size w).alloc (Nat.le_refl _) _).trans (hb1.mono (by simp))
    have hz1' := hB1.size
    have hlt1 := a1.lt
    go_wp2_with (at_make; refine wpList_make_own _ rfl _ _ 24 rfl w1.heap.size 2 i0 _ 1 Try.underlying24 hi0 hz0 hz1 .i64 .i64 _ n rfl rfl rfl HB2 HN2 (Nat.le_refl _) ?_; intro w2 hown2 hg2; have a2 := a1.below ((Below.refl w1.heap.size w1).grown hg2 (Nat.le_refl _) (by simp)) hlt1; have a20 := a2.cell 0 (v := .int .i64 f) rfl; have a21 := a2.cell 1 (v := .slice A n c) rfl; have a22 := a2.cell 2 (v := .bool r) rfl)
    have hb2 : Below w1.heap.size w1 w2 := (Below.refl _ _).grown hg2 (Nat.le_refl _) (by simp)
    have hB2 := hB1.trans (hb2.mono hz1')
    have hz2' := hb2.size
    have ho2 : Own I w2 w1.heap.size w2.heap.size 2 (.slice (some ⟨w1.heap.size, 0, none⟩) 0 n) ([] : List Int) := Own.here hown2 rfl
    clear hown2 hg2
    refine (chapterRuns_any _ _ _ _ _ _ _ _ (h.below hB2 hB) (by omega) HM.out).mono ?_
    rintro e w3 ⟨g, rfl, hg, hr3, hb3⟩
    have hz3 := hb3.size
    have hB3 := hB2.trans (hb3.mono (by omega))
    have hlt2 := (ho2.lt w1.heap.size rfl).2.2
    have ho3 := (ho2.below hb3 (Nat.le_refl _)).mono (Nat.le_refl _) hz3
    have hfar : Far (.slice (some ⟨w1.heap.size, 0, none⟩) 0 n) g := Far.of_lt (by omega)
    clear ho2
    go_wp2_with fail
    go_loopw [4, 17] (fun v i wr => ∃ k : Nat, k ≤ n ∧ i = .int .i64 k ∧ (∃ A3 c3, v = .slice A3 k c3 ∧ Own I wr w1.heap.size wr.heap.size 2 (.slice A3 k c3) (starts r (f + 1) (l.take k)) ∧ Far (.slice A3 k c3) g) ∧ Row2 wr g (runs r (f + 1) l) ∧ Below w.heap.size w wr ∧ w1.heap.size ≤ wr.heap.size) (fun _ i _ => n - (intOf i).toNat)
    case atStart => exact ⟨0, Nat.zero_le _, rfl, ⟨_, _, rfl, by simpa [starts] using ho3, hfar⟩, hr3, hB3, by omega⟩
    case round =>
      clear ho3 hr3 hfar hB3
      obtain ⟨k, hk, rfl, ⟨A3, c3, rfl, ho, hfar⟩, hrow, hb, hsz⟩ := hrel
      by_cases hlt : k < n
      · obtain ⟨x, hx⟩ : ∃ x, l[k]? = some x := ⟨_, List.getElem?_eq_getElem (by rw [HL.out]; exact hlt)⟩
        obtain ⟨hc0, hc1⟩ := runs_at r (f + 1) l k x hx
        rw [Nat.mul_comm 2 k] at hc0 hc1
        have q0 := hrow.cell hc0
        have q1 := hrow.cell hc1
        obtain ⟨m, hm⟩ : ∃ m, up r (stop r (f + 1) (l.take k)) = m := ⟨_, rfl⟩
        have HX : Hid (starts r (f + 1) (l.take (k + 1)) = starts r (f + 1) (l.take k) ++ [m]) := by
          rw [Pg.take_snoc l k x hx, starts_snoc, hm]
          exact rfl
        rw [hm] at q0 q1
        clear hc0 hc1 hm hx
        go_wp2_with (at_builtin; refine wp_push3 _ rfl _ _ 24 rfl 2 i0 _ 8 Try.underlying24 hi0 hz0 hz1 hz2 rfl A3 k c3 _ _ _ rfl (ho.alloc _) _ (by simp only [World.size_alloc]; rfl) rfl (by omega) (by omega) (by simp only [World.size_alloc]; omega) ?_; intro A4 c4 w4 ho4 hm4 hk4)
        go_roundw
        case rel =>
          obtain ⟨t1, t2⟩ := hk4 g (by have := hrow.lt; simp; omega) hfar
          refine ⟨k + 1, by omega, by go_num, ⟨_, _, rfl, ?_, t2⟩, (hrow.alloc _).kept t1, (hb.alloc (by omega) _).trans (hm4.below (by omega) (by simp; omega)), by have := hm4.size; simp at this; omega⟩
          rw [HX.out]
          exact ho4
        case measure => simp [intOf]; omega
      · obtain rfl : k = n := by omega
        have HT : Hid (l.take k = l) := List.take_of_length_le (Nat.le_of_eq HL.out)
        rw [HT.out] at ho
        go_wp2
        go_ret2
        exact LC.mk_ HR.out HC.out ho hz1' (Nat.le_refl _) (by omega) hb
  · have HO := Lib.hid (okB_no ho)
    have HR : Hid (csR r f l = []) := if_neg (by rw [HO.out]; simp)
    have HC : Hid (bkC f l = 1) := if_neg (by rw [HO.out]; simp)
    clear ho
    go_enter Try.func12, Try.ntmps12
    go_wp2_with fail
    refine (implIsBook_is _ _ _ _ _ _ _ _ _ hR0 (by simp; omega) hn hf HO.out).mono ?_
    rintro e w1 ⟨rfl, hb1⟩
    have hB1 : Below w.heap.size w w1 := ((Below.refl w.heap.size w).alloc (Nat.le_refl _) _).trans (hb1.mono (by simp))
    go_wp2_with fail
    go_ret2
    exact LC.nil_ HR.out HC.out hB1

set_option maxRecDepth 100000 in
set_option maxHeartbeats 2000000 in
theorem specCount_any (f : Int) (A : Option Addr) (n c B : Nat) (r : Bool) (l : List Int) (w : World) (h : Rd I w B A n l) (hB : B ≤ w.heap.size) (hn : n ≤ 1048576) :
    Calls Try.prog 17 #[BK f A n c r] w fun e w' => e = .returned (.tuple #[.int .i64 (pcR r f l), .int .i64 (bkC f l)]) ∧ Below w.heap.size w w' := by
  have hR0 := h.alloc hB (.cells (BC f A n c r) 26)
  by_cases ho : okP f l
  · have HO := Lib.hid (okB_yes ho)
    have HR : Hid (pcR r f l = stop r (f + 1) l - 1) := if_pos HO.out
    have HC : Hid (bkC f l = 0) := if_pos HO.out
    have HM : Hid (mild f l) := mild_ok ho
    have hbd := mild_take HM.out r l.length
    rw [List.take_length] at hbd
    obtain ⟨m0, m1⟩ := hbd
    clear ho
    go_enter Try.func17, Try.ntmps17
    go_wp2_with fail
    refine (specIsBook_is _ _ _ _ _ _ _ _ _ hR0 (by simp; omega) hn HO.out).mono ?_
    rintro e w1 ⟨rfl, hb1⟩
    have a1 := (Blk.new (w := w) (g := w.heap.size) (BC f A n c r) 26 rfl).below hb1 (by simp)
    have a10 := a1.cell 0 (v := .int .i64 f) rfl
    have a11 := a1.cell 1 (v := .slice A n c) rfl
    have a12 := a1.cell 2 (v := .bool r) rfl
    have hB1 : Below w.heap.size w w1 := ((Below.refl w.heap.size w).alloc (Nat.le_refl _) _).trans (hb1.mono (by simp))
    have hz1 := hB1.size
    go_wp2_with fail
    refine (l02Starts_any _ _ _ _ _ _ _ _ (h.below hB1 hB) (by omega) HM.out).mono ?_
    rintro e w2 ⟨A2, n2, c2, rfl, rfl, ho2, hb2⟩
    go_wp2_with fail
    go_ret2
    exact ⟨tup_ii HR.out.symm HC.out.symm, hB1.trans (hb2.mono hz1)⟩
  · have HO := Lib.hid (okB_no ho)
    have HR : Hid (pcR r f l = 0) := if_neg (by rw [HO.out]; simp)
    have HC : Hid (bkC f l = 1) := if_neg (by rw [HO.out]; simp)
    clear ho
    go_enter Try.func17, Try.ntmps17
    go_wp2_with fail
    refine (specIsBook_is _ _ _ _ _ _ _ _ _ hR0 (by simp; omega) hn HO.out).mono ?_
    rintro e w1 ⟨rfl, hb1⟩
    have hB1 : Below w.heap.size w w1 := ((Below.refl w.heap.size w).alloc (Nat.le_refl _) _).trans (hb1.mono (by simp))
    go_wp2_with fail
    go_ret2
    exact ⟨tup_ii HR.out.symm HC.out.symm, hB1⟩

end Go.Proofs.Ytoanopgafihjiaa
