/- Contracts of the model's strips: the flat strip, one fold, and the stack of folds. -/
import Derived.Test.YtjpfbonnohodhaaDoorStRows
import Derived.Test.YtjpfbonnohodhaaDoorStr
import Derived.BigRegion
namespace Go.Proofs.YtjpfbonnohodhaaDoor
open Go.RowKit

/-- The stacks lie as rows of the call's own, in blocks below B. -/
def Stk (w : World) (lo : Nat) (A : Option Addr) (n c : Nat) (ls : List (List Int)) : Prop :=
  ∃ hs, Own H3.v w lo w.heap.size 25 (.slice A n c) hs ∧ Rows w lo w.heap.size hs ls ∧ n ≤ c
theorem Stk.len {w : World} {lo n c : Nat} {A : Option Addr} {ls : List (List Int)} (h : Stk w lo A n c ls) : ls.length = n := by
  obtain ⟨hs, ho, hr, _⟩ := h
  rw [← hr.1]
  exact ho.rd.1
theorem Stk.below {w w' : World} {lo n c : Nat} {A : Option Addr} {ls : List (List Int)} (h : Stk w lo A n c ls) (hb : Below w.heap.size w w') : Stk w' lo A n c ls := by
  obtain ⟨hs, ho, hr, hc⟩ := h
  exact ⟨hs, (ho.below hb (Nat.le_refl _)).mono (Nat.le_refl _) hb.size, (hr.below hb (Nat.le_refl _)).more (Nat.le_refl _) hb.size, hc⟩

theorem start_next (k : Nat) : St.start (k + 1) = St.start k ++ [[(k : Int) + 1]] := by
  simp [St.start, List.range_succ]

set_option maxRecDepth 100000 in
set_option maxHeartbeats 2000000 in
theorem start_any (n : Nat) (w : World) (hn : n ≤ 64) :
    Calls Tryd.prog 51 #[.int .i64 (n : Int)] w fun e w' => ∃ A c, e = .returned (.slice A n c) ∧ Stk w' w.heap.size A n c (St.start n) ∧ Below w.heap.size w w' := by
  obtain ⟨i0, hi0, hz0, hz1, hz2⟩ := info_parts infoL
  have hl0 := Own.lit0 H3.v w 25
  have hb3 : Below w.heap.size w (w.alloc (.cells #[] 25)) := (Below.refl _ _).alloc (Nat.le_refl _) _
  go_enter Tryd.func51, Tryd.ntmps51
  go_wp2_with fail
  go_loopw [3, 4] (fun v i wr => ∃ k : Nat, k ≤ n ∧ i = .int .i64 (k : Int) ∧ (∃ A3 c3, v = .slice A3 k c3 ∧ Stk wr w.heap.size A3 k c3 (St.start k)) ∧ Below w.heap.size w wr) (fun _ i _ => n - (intOf i).toNat)
  case atStart => exact ⟨0, Nat.zero_le _, rfl, ⟨_, _, rfl, [], hl0.mono (Nat.le_refl _) (by simp), Rows.nil_ _ _ _, Nat.le_refl _⟩, hb3⟩
  case round =>
    clear hl0 hb3
    obtain ⟨k, hk, rfl, ⟨A3, c3, rfl, hs, ho, hr, hkc⟩, hb⟩ := hrel
    have hsz := hb.size
    by_cases hlt : k < n
    · have hb1 : Below wr.heap.size wr (wr.alloc (.cells #[.int .i64 ((k : Int) + 1)] 2)) := (Below.refl _ _).alloc (Nat.le_refl _) _
      have hd := Own.lit1 wr ((k : Int) + 1)
      have ho1 := (ho.below hb1 (Nat.le_refl _)).mono (Nat.le_refl _) hb1.size
      have hr1 := (hr.below hb1 (Nat.le_refl _)).more (Nat.le_refl _) hb1.size
      have HD := Lib.hid hd
      have HR := Lib.hid hr1
      have e1 : IntKind.i64.wrap ((k : Int) + 1) = (k : Int) + 1 := IntWalk.i64_in _ (by omega)
      have HN := Lib.hid (start_next k)
      clear hd hr1 hr ho
      go_wp2_with (at_builtin; go_loud (refine wp_push3 (wr.alloc (.cells #[.int .i64 ((k : Int) + 1)] 2)) rfl _ _ 69 rfl 25 i0 _ 24 Tryd.underlying69 hi0 hz0 hz1 hz2 rfl A3 k c3 _ _ _ rfl ho1 (⟨some ⟨wr.heap.size, 0, none⟩, 1, 1⟩ : H3) (by rw [World.size_alloc]; rfl) rfl (by omega) (by omega) (by simp; omega) ?_; intro A4 c4 w4 ho4 hm4 hk4))
      have hsz4 := hm4.size
      simp only [World.size_alloc] at hsz4
      go_roundw
      case rel =>
        refine ⟨k + 1, by omega, by go_num, ⟨_, _, rfl, _, ho4, ?_, ?_⟩, (hb.trans (hb1.mono hsz)).trans (hm4.below (by omega) (by simp; omega))⟩
        · rw [HN.out]
          refine Rows.push ((HR.out.kept (by simp) ho1 hk4).more (Nat.le_refl _) (by simp; omega)) ?_
          exact (RdT.kept HD.out (by simp) ho1 hk4).more hsz (by omega)
        · obtain ⟨_, c', hv, hc'⟩ := ho4.form
          injection hv with _ _ hv
          have := ho4.rd.1
          omega
      case measure => simp [intOf]; omega
    · obtain rfl : k = n := by omega
      go_wp2_with fail
      go_ret
      exact ⟨_, _, rfl, ⟨hs, ho, hr, hkc⟩, hb⟩
end Go.Proofs.YtjpfbonnohodhaaDoor
