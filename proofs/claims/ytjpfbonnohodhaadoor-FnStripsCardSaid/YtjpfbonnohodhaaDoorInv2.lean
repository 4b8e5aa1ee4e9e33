/- The contract of the program's inverse of an order. -/
import Derived.Test.YtjpfbonnohodhaaDoorOrd2
import Derived.Test.YtjpfbonnohodhaaDoorStCrMath
namespace Go.Proofs.YtjpfbonnohodhaaDoor
open Go.RowKit

theorem ord_at (l : List Int) (h : isOrd l) (k : Nat) (x : Int) (hx : l[k]? = some x) : 0 ≤ x ∧ x < l.length := h.2.1 x (List.mem_of_getElem? hx)
set_option maxHeartbeats 400000 in
theorem implInverse_any (A : Option Addr) (n c B : Nat) (l : List Int) (w : World) (h : Rd I w B A n l) (hB : B ≤ w.heap.size) (hn : n ≤ 1048576) (ho : isOrd l) :
    Calls Tryd.prog 48 #[.slice A n c] w fun e w' => ∃ g, e = .returned (.slice (some ⟨g, 0, none⟩) n n) ∧ Own I w' w.heap.size w'.heap.size 2 (.slice (some ⟨g, 0, none⟩) n n) (St.invTo l n) ∧ Below w.heap.size w w' := by
  obtain ⟨i0, hi0, hz0, hz1, hz2⟩ := info_parts infoI
  have HL : Hid (l.length = n) := h.1
  have HO := Lib.hid ho
  clear ho
  go_enter Tryd.func48, Tryd.ntmps48
  go_wp2_with (at_make; refine wp_fresh _ rfl _ _ 60 rfl 2 i0 (0 : Int) 8 Tryd.underlying60 hi0 hz0 hz1 hz2 rfl .i64 .i64 _ _ n rfl rfl rfl rfl (by omega) (by omega) ?_; intro g w1 ho1 hb1)
  have hs1 := hb1.size
  go_loopw [4, 5, 11] (fun _ _ i wr => ∃ k : Nat, k ≤ n ∧ i = .int .i64 k ∧ Own I wr w.heap.size w1.heap.size 2 (.slice (some ⟨g, 0, none⟩) n n) (St.invTo l k) ∧ Below w.heap.size w wr ∧ w1.heap.size ≤ wr.heap.size) (fun _ _ i _ => n - (intOf i).toNat)
  case atStart => exact ⟨0, Nat.zero_le _, rfl, (by rw [show St.invTo l 0 = List.replicate n 0 from by have := HL.out; simp [St.invTo, this]]; exact ho1), hb1, Nat.le_refl _⟩
  case round =>
    clear ho1
    obtain ⟨k, hk, rfl, ho, hb, hsz⟩ := hrel
    by_cases hlt : k < n
    · obtain ⟨b, o, x, rfl, hbB, hx, hc⟩ := (h.below hb hB).at_ hlt
      have hr := ord_at l HO.out k x hx
      have hx0 := hr.1
      have hx1 : x < (n : Int) := by have := HL.out; omega
      clear hr
      obtain ⟨j, rfl⟩ := Int.eq_ofNat_of_zero_le hx0
      have hj : j < n := by omega
      obtain ⟨g', y, hg, hg1, hg2, hg3, hy, hc2, hf2⟩ := ho.at_ hj
      injection hg with hg
      injection hg with hg _ _
      subst hg
      have hset := ho.set_ (k := j) (k : Int)
      have HX : Hid (l[k]? = some (j : Int)) := hx
      clear hx hy
      go_wp2
      go_roundw
      case rel =>
        refine ⟨k + 1, by omega, by go_num, ?_, hb.trans (hset.2.below (Nat.le_refl _) hb.size), Nat.le_trans hsz hset.2.size⟩
        rw [St.invTo_next l k j HX.out]
        exact hset.1
      case measure => simp [intOf]; omega
    · obtain rfl : k = n := by omega
      go_wp2
      go_ret
      exact ⟨g, rfl, ho.mono (Nat.le_refl _) hsz, hb⟩
end Go.Proofs.YtjpfbonnohodhaaDoor
