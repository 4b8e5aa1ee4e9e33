/- The walk of the exact law of FindScheme, out of the contracts; and the contracts of the helpers that copy the list of leaves. -/
import Derived.Test.YtcagljdebplmcaaFoFn
import Derived.Test.YtcagljdebplmcaaFoMk
namespace Go.Proofs.Ytcagljdebplmcaa
open Go.RowKit

set_option maxRecDepth 100000 in
theorem toLeaf_any (l : Lv) (w : World) :
    Calls Try.prog 71 #[l.agg] w fun e w' => e = .returned l.agg ∧ Below w.heap.size w w' := by
  go_enter Try.func71, Try.ntmps71
  go_wp2
  exact bodyPost_ret (v := l.agg) (by simp [results, Try.results71, go_sem]) rfl ⟨rfl, (((Below.refl _ w).alloc (Nat.le_refl _) _).alloc (by simp) _).alloc (by simp; omega) _⟩

set_option maxRecDepth 100000 in
set_option maxHeartbeats 2000000 in
theorem toLeafS_any (A : Option Addr) (n c B : Nat) (l : List Lv) (w : World) (h : RdV w B A n l) (hB : B ≤ w.heap.size) (hn : n ≤ 1048576) :
    Calls Try.prog 46 #[.slice A n c] w fun e w' => ∃ g, e = .returned (.slice (some ⟨g, 0, none⟩) n n) ∧ OwnV w' w.heap.size w'.heap.size (.slice (some ⟨g, 0, none⟩) n n) l ∧ Below w.heap.size w w' := by
  obtain ⟨i0, hi0, hz0, hz1, hz2⟩ := info_parts infoLf
  have hml : n ≤ maxLen := by unfold maxLen; omega
  have HL : Hid (l.length = n) := h.1
  go_enter Try.func46, Try.ntmps46
  go_wp2_with (at_make; refine wpList_make_full _ rfl _ _ 26 rfl w.heap.size 37 i0 _ 4 Try.underlying26 hi0 hz0 hz1 .i64 .i64 _ _ n rfl rfl rfl rfl (by rw [hz2]; omega) hml (Nat.le_refl _) ?_; intro w1 hown1 hg1)
  have hown : OwnV w1 w.heap.size (w.heap.size + 1) (.slice (some ⟨w.heap.size, 0, none⟩) n n) (List.replicate n zLv) := by
    refine ⟨?_, fun k hk => by simp [Value.ownBlock] at hk; omega⟩
    rw [List.length_replicate, ← made_four]
    exact hown1
  have hb1 : Below w.heap.size w w1 := (Below.refl _ _).grown hg1 (Nat.le_refl _) (by simp)
  clear hown1 hg1
  go_loopw [4] (fun i wr => ∃ k : Nat, k ≤ n ∧ i = .int .i64 k ∧ OwnV wr w.heap.size (w.heap.size + 1) (.slice (some ⟨w.heap.size, 0, none⟩) n n) (l.take k ++ List.replicate (n - k) zLv) ∧ Below w.heap.size w wr) (fun i _ => n - (intOf i).toNat)
  case atStart => exact ⟨0, Nat.zero_le _, rfl, by simpa using hown, hb1⟩
  case round =>
    clear hown hb1
    obtain ⟨k, hk, rfl, ho, hb⟩ := hrel
    by_cases hlt : k < n
    · obtain ⟨b, o, x, rfl, hbB, hx, d0, d1, d2, d3⟩ := (h.below hb hB).at_ hlt
      have HX := Lib.hid hx
      have HB := Lib.hid hb
      have htl := toLeaf_any x
      have hsz : w.heap.size + 1 ≤ wr.heap.size := by have := ho.lt w.heap.size rfl; omega
      clear hx hb
      go_wp2_with fail
      refine (htl _).mono ?_
      rintro e w5 ⟨rfl, hb5⟩
      have ho5 := ho.below hb5 hsz
      obtain ⟨g, y, hg, hg1, hg2, hg3, hy, ⟨c0, c1, c2, c3⟩, hf⟩ := ho5.at_ hlt
      injection hg with hg
      injection hg with hg _ _
      subst hg
      have f0 := hf (k * 4)
      have f1 := hf (k * 4 + 1)
      have f2 := hf (k * 4 + 2)
      have f3 := hf (k * 4 + 3)
      have HP := Lib.hid (ho5.put x hy)
      have HB5 := Lib.hid hb5
      clear hy hf hg1 hg2 hg3 hb5 htl
      go_wp2_with fail
      go_roundw
      case rel =>
        refine ⟨k + 1, by omega, by go_num, ?_, HB.out.trans ((HB5.out.mono (by omega)).trans (HP.out.2.below (Nat.le_refl _) (by have := HB5.out.size; omega)))⟩
        have := HP.out.1
        rwa [fill_step _ _ _ _ _ HL.out HX.out hlt] at this
      case measure => simp [intOf]; omega
    · obtain rfl : k = n := by omega
      go_wp2
      go_ret
      have hle := HL.out
      refine ⟨_, rfl, ?_, hb⟩
      have h2 : OwnV wr w.heap.size (w.heap.size + 1) (.slice (some ⟨w.heap.size, 0, none⟩) k k) l := by simpa [List.take_of_length_le (Nat.le_of_eq hle)] using ho
      exact h2.mono (Nat.le_refl _) (by have := ho.lt w.heap.size rfl; omega)

theorem szLeafS_no (A : Option Addr) (n c : Nat) (w : World) (hn : 1048576 < n) (hm : n ≤ 9223372036854775807) :
    Calls Try.prog 45 #[.slice A n c, .int .i64 1048576] w fun e w' => e = .returned (.int .i64 (-1)) ∧ w = w' := by
  have e1 : IntKind.i64.wrap (1048576 - (n : Int)) = 1048576 - (n : Int) := IntWalk.i64_in _ (by omega)
  go_enter Try.func45, Try.ntmps45
  go_wp2
  go_ret
  exact ⟨rfl, rfl⟩
theorem szLeafS_yes (A : Option Addr) (n c : Nat) (w : World) (hn : n ≤ 1048576) :
    Calls Try.prog 45 #[.slice A n c, .int .i64 1048576] w fun e w' => e = .returned (.int .i64 (1048576 - (n : Int))) ∧ w = w' := by
  have e1 : IntKind.i64.wrap (1048576 - (n : Int)) = 1048576 - (n : Int) := IntWalk.i64_in _ (by omega)
  go_enter Try.func45, Try.ntmps45
  go_wp2
  go_ret
  exact ⟨rfl, rfl⟩

set_option maxRecDepth 100000 in
set_option maxHeartbeats 2000000 in
theorem w_FnExactFindScheme (a0 a1 : Int) (A : Option Addr) (n c : Nat) (l : List Lv) (w : World) (_w0 : -9223372036854775808 ≤ a0 ∧ a0 ≤ 9223372036854775807) (_w1 : -9223372036854775808 ≤ a1 ∧ a1 ≤ 9223372036854775807) (h : RdV w w.heap.size A n l) (hm : n ≤ 9223372036854775807) :
    Calls Try.prog 12 #[.int .i64 a0, .int .i64 a1, .slice A n c] w fun e w' => e = .returned (.bool true) ∧ Below w.heap.size w w' := by
  by_cases hs : 1048576 < n
  · go_enter Try.func12, Try.ntmps12
    go_wp2_with fail
    refine (szLeafS_no A n c _ hs hm).mono ?_
    rintro e _ ⟨rfl, rfl⟩
    go_wp2_with fail
    go_ret
    exact ⟨rfl, Below.refl _ _⟩
  · have hn : n ≤ 1048576 := by omega
    have hq0 : ¬ (1048576 - (n : Int) < 0) := by omega
    obtain ⟨v0, hv0⟩ : ∃ v, fnR a0 a1 l = v := ⟨_, rfl⟩
    have HV0 := Lib.hid hv0
    obtain ⟨v1, hv1⟩ : ∃ v, fnC a0 a1 l = v := ⟨_, rfl⟩
    have HV1 := Lib.hid hv1
    clear hs hv0 hv1
    go_enter Try.func12, Try.ntmps12
    go_wp2_with fail
    refine (szLeafS_yes A n c _ hn).mono ?_
    rintro e _ ⟨rfl, rfl⟩
    go_wp2_with fail
    refine (toLeafS_any A n c w.heap.size l _ h (Nat.le_refl _) hn).mono ?_
    rintro e w1 ⟨g1, rfl, o1, b1⟩
    have z1 := b1.size
    go_wp2_with fail
    refine (specFn_any a0 a1 _ _ _ _ l _ o1.rd (Nat.le_refl _)).mono ?_
    rintro e w2 ⟨rfl, b2⟩
    rw [HV0.out, HV1.out]
    have z2 := b2.size
    have B2 := b1.trans (b2.mono z1)
    have h2 := h.below B2 (Nat.le_refl _)
    go_wp2_with fail
    refine (toLeafS_any A n c w.heap.size l _ h2 (by omega) hn).mono ?_
    rintro e w3 ⟨g3, rfl, o3, b3⟩
    have z3 := b3.size
    have B3 := B2.trans (b3.mono (by omega))
    go_wp2_with fail
    refine (implFn_any a0 a1 _ _ _ _ l _ o3.rd (Nat.le_refl _) hn).mono ?_
    rintro e w4 ⟨rfl, b4⟩
    rw [HV0.out, HV1.out]
    have z4 := b4.size
    have B4 := B3.trans (b4.mono (by omega))
    have h4 := h.below B4 (Nat.le_refl _)
    have o4 := o3.below b4 (Nat.le_refl _)
    go_wp2_with fail
    refine (toLeafS_any A n c w.heap.size l _ h4 (by omega) hn).mono ?_
    rintro e w5 ⟨g5, rfl, o5, b5⟩
    have z5 := b5.size
    have B5 := B4.trans (b5.mono (by omega))
    have o45 := o4.below b5 (by omega)
    go_wp2_with fail
    refine (eqLeafS_true _ _ _ _ _ _ _ l _ o45.rd o5.rd (by omega) (Nat.le_refl _) hn).mono ?_
    rintro e w6 ⟨rfl, b6⟩
    have HB := Lib.hid (B5.trans (b6.mono (by omega)))
    go_wp2_with fail
    go_ret
    exact ⟨rfl, HB.out⟩
end Go.Proofs.Ytcagljdebplmcaa
