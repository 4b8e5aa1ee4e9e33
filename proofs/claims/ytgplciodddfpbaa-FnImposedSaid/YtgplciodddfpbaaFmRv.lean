/- A part of a row turned round: the mathematics and the contract of slices.Reverse there. -/
import Derived.Test.YtgplciodddfpbaaFmTn
import Derived.BigRegion
namespace Go.Proofs.Ytgplciodddfpbaa
open Go.RowKit

namespace Fm
/-- The list with the first k and the last k places of its part [o, o + n) exchanged. -/
def rvAt (l : List Int) (o n k : Nat) : List Int := (List.range l.length).map fun j => if o ≤ j ∧ j < o + n ∧ (j < o + k ∨ o + n ≤ j + k) then l.getD (2 * o + n - 1 - j) 0 else l.getD j 0
theorem rvAt_len (l : List Int) (o n k : Nat) : (rvAt l o n k).length = l.length := by simp [rvAt]
theorem rvAt_get (l : List Int) (o n k j : Nat) (hj : j < l.length) : (rvAt l o n k)[j]? = some (if o ≤ j ∧ j < o + n ∧ (j < o + k ∨ o + n ≤ j + k) then l.getD (2 * o + n - 1 - j) 0 else l.getD j 0) := by
  simp [rvAt, hj]
theorem get_getD {l : List Int} {j : Nat} (hj : j < l.length) : l[j]? = some (l.getD j 0) := by
  rw [List.getElem?_eq_getElem hj, List.getD_eq_getElem?_getD, List.getElem?_eq_getElem hj]
  rfl
theorem ext_lt {l m : List Int} (h : l.length = m.length) (hj : ∀ j, j < l.length → l[j]? = m[j]?) : l = m := by
  apply List.ext_getElem?
  intro j
  by_cases h1 : j < l.length
  · exact hj j h1
  · rw [List.getElem?_eq_none (by omega), List.getElem?_eq_none (by omega)]
theorem rvAt_zero (l : List Int) (o n : Nat) : rvAt l o n 0 = l := by
  refine ext_lt (rvAt_len _ _ _ _) fun j hj => ?_
  rw [rvAt_len] at hj
  rw [rvAt_get _ _ _ _ _ hj, if_neg (by omega), get_getD hj]
theorem rvAt_end (l : List Int) (o n k : Nat) (h : n ≤ 2 * k + 1) : rvAt l o n k = rvAt l o n n := by
  refine ext_lt (by simp [rvAt_len]) fun j hj => ?_
  rw [rvAt_len] at hj
  rw [rvAt_get _ _ _ _ _ hj, rvAt_get _ _ _ _ _ hj]
  by_cases h1 : o ≤ j ∧ j < o + n
  · rw [if_pos (⟨h1.1, h1.2, .inl h1.2⟩ : o ≤ j ∧ j < o + n ∧ (j < o + n ∨ o + n ≤ j + n))]
    by_cases h2 : j < o + k ∨ o + n ≤ j + k
    · rw [if_pos ⟨h1.1, h1.2, h2⟩]
    · rw [if_neg (by omega), show 2 * o + n - 1 - j = j by omega]
  · rw [if_neg (by omega), if_neg (by omega)]
theorem rvAt_step (l : List Int) (o n k i : Nat) (h : k < i) (hi : i + k + 1 = n) (hl : o + n ≤ l.length) (x y : Int) (hx : (rvAt l o n k)[o + k]? = some x) (hy : (rvAt l o n k)[o + i]? = some y) :
    ((rvAt l o n k).set (o + k) y).set (o + i) x = rvAt l o n (k + 1) := by
  rw [rvAt_get _ _ _ _ _ (by omega), if_neg (by omega)] at hx
  rw [rvAt_get _ _ _ _ _ (by omega), if_neg (by omega)] at hy
  injection hx with hx
  injection hy with hy
  refine ext_lt (by simp [rvAt_len]) fun j hj => ?_
  simp only [List.length_set, rvAt_len] at hj
  rw [rvAt_get l o n (k + 1) j hj, List.getElem?_set, List.getElem?_set, List.length_set, rvAt_len]
  by_cases h1 : o + i = j
  · subst h1
    rw [if_pos rfl, if_pos hj, if_pos (by omega), ← hx, show 2 * o + n - 1 - (o + i) = o + k by omega]
  · rw [if_neg h1]
    by_cases h2 : o + k = j
    · subst h2
      rw [if_pos rfl, if_pos hj, if_pos (by omega), ← hy, show 2 * o + n - 1 - (o + k) = o + i by omega]
    · rw [if_neg h2, rvAt_get l o n k j hj]
      by_cases h3 : o ≤ j ∧ j < o + n ∧ (j < o + k ∨ o + n ≤ j + k)
      · rw [if_pos h3, if_pos (by omega)]
      · rw [if_neg h3, if_neg (by omega)]
/-- The first r rows, each of W places, turned round. -/
def tnTo (W : Nat) (l : List Int) (r : Nat) : List Int := (List.range l.length).map fun j => if j < r * W then l.getD (j / W * W + W - 1 - j % W) 0 else l.getD j 0
theorem tnTo_len (W : Nat) (l : List Int) (r : Nat) : (tnTo W l r).length = l.length := by simp [tnTo]
theorem tnTo_get (W : Nat) (l : List Int) (r j : Nat) (hj : j < l.length) : (tnTo W l r)[j]? = some (if j < r * W then l.getD (j / W * W + W - 1 - j % W) 0 else l.getD j 0) := by
  simp [tnTo, hj]
theorem tnTo_zero (W : Nat) (l : List Int) : tnTo W l 0 = l := by
  refine ext_lt (tnTo_len _ _ _) fun j hj => ?_
  rw [tnTo_len] at hj
  rw [tnTo_get _ _ _ _ hj, if_neg (by omega), get_getD hj]
theorem tnTo_step (W : Nat) (l : List Int) (r : Nat) (hW : 1 ≤ W) (hl : (r + 1) * W ≤ l.length) : rvAt (tnTo W l r) (r * W) W W = tnTo W l (r + 1) := by
  have e : (r + 1) * W = r * W + W := by rw [Nat.add_mul, Nat.one_mul]
  refine ext_lt (by simp [rvAt_len, tnTo_len]) fun j hj => ?_
  rw [rvAt_len, tnTo_len] at hj
  rw [rvAt_get _ _ _ _ _ (by rw [tnTo_len]; exact hj), tnTo_get _ _ _ _ hj]
  have gd : ∀ i, i < l.length → (tnTo W l r).getD i 0 = if i < r * W then l.getD (i / W * W + W - 1 - i % W) 0 else l.getD i 0 := fun i hi => by
    rw [List.getD_eq_getElem?_getD, tnTo_get _ _ _ _ hi]
    rfl
  rw [e] at hl ⊢
  by_cases h1 : r * W ≤ j ∧ j < r * W + W
  · rw [if_pos ⟨h1.1, h1.2, .inl h1.2⟩, if_pos h1.2, gd _ (by omega), if_neg (by omega)]
    have hd : j / W = r := Nat.div_eq_of_lt_le h1.1 (by rw [e]; exact h1.2)
    have hm := Nat.div_add_mod j W
    rw [hd, Nat.mul_comm] at hm
    rw [hd, show 2 * (r * W) + W - 1 - j = r * W + W - 1 - j % W by omega]
  · rw [if_neg (by omega), gd _ hj]
    by_cases h2 : j < r * W
    · rw [if_pos h2, if_pos (by omega)]
    · rw [if_neg h2, if_neg (by omega)]
theorem tnTo_all (W : Nat) (l : List Int) (H : Nat) (hW : 1 ≤ W) (hl : l.length = W * H) : tnTo W l H = tnH (W : Int) l := by
  refine ext_lt (by rw [tnTo_len, tnH_len]) fun j hj => ?_
  rw [tnTo_len] at hj
  rw [tnTo_get _ _ _ _ hj, if_pos (by rw [Nat.mul_comm, ← hl]; exact hj)]
  unfold tnH
  rw [List.getElem?_map, List.getElem?_range hj]
  simp only [Option.map_some]
  congr 2
  have h1 := Nat.mod_lt j hW
  have h2 : ((j / W * W : Nat) : Int) = (j : Int) / (W : Int) * (W : Int) := by push_cast; rfl
  have h3 : ((j % W : Nat) : Int) = (j : Int) % (W : Int) := by push_cast; rfl
  rw [← h2, ← h3]
  omega
end Fm
set_option maxRecDepth 100000 in
set_option maxHeartbeats 4000000 in
theorem reverseAt_any (g o n c N lo hi : Nat) (l : List Int) (w : World) (h : Own I w lo hi 2 (slN g N) l) (hon : o + n ≤ N) (hN : N ≤ 64) :
    Calls Try.prog 79 #[.slice (some ⟨g, o, none⟩) n c] w fun e w' => e = .returned (.tuple #[]) ∧ Own I w' lo hi 2 (slN g N) (Fm.rvAt l o n n) ∧ Only lo hi w w' := by
  have HL : Hid (l.length = N) := h.rd.1
  have e0 : IntKind.i64.wrap ((n : Int) - 1) = (n : Int) - 1 := IntWalk.i64_in _ (by omega)
  go_enter Try.func79, Try.ntmps79
  go_wp2_with fail
  go_loopw [2, 3] (fun i j wr => ∃ k : Nat, k ≤ n ∧ i = .int .i64 (k : Int) ∧ j = .int .i64 ((n : Int) - 1 - (k : Int)) ∧ Own I wr lo hi 2 (slN g N) (Fm.rvAt l o n k) ∧ Only lo hi w wr) (fun i _ _ => n - (intOf i).toNat)
  case atStart => exact ⟨0, Nat.zero_le _, rfl, by simp, by rw [Fm.rvAt_zero]; exact h, Only.refl _ _ _⟩
  case round =>
    obtain ⟨k, hk, rfl, rfl, ho, hO⟩ := hrel
    by_cases hlt : 2 * k + 1 < n
    · obtain ⟨i, hi'⟩ : ∃ i : Nat, i + k + 1 = n := ⟨n - 1 - k, by omega⟩
      have hj : (n : Int) - 1 - (k : Int) = (i : Int) := by omega
      have hki : k < i := by omega
      have hin : i < n := by omega
      have hkn : k < n := by omega
      have e1 : IntKind.i64.wrap ((k : Int) + 1) = (k : Int) + 1 := IntWalk.i64_in _ (by omega)
      have e2 : IntKind.i64.wrap ((i : Int) - 1) = (i : Int) - 1 := IntWalk.i64_in _ (by omega)
      obtain ⟨g1, x, hg1, _, _, _, hx, cx, fx⟩ := ho.at_ (k := o + k) (by omega)
      obtain ⟨g2, y, hg2, _, _, _, hy, cy, fy⟩ := ho.at_ (k := o + i) (by omega)
      injection hg1 with hg1
      injection hg1 with hg1 _ _
      subst hg1
      injection hg2 with hg2
      injection hg2 with hg2 _ _
      subst hg2
      have HST := Lib.hid (Fm.rvAt_step l o n k i hki (by omega) (by have := HL.out; omega) x y hx hy)
      have hs1 := ho.set_ (k := o + k) y
      have hs2 := hs1.1.set_ (k := o + i) x
      have HO2 := Lib.hid hs2.1
      have HOO := Lib.hid ((hO.trans hs1.2).trans hs2.2)
      have HI := Lib.hid hi'
      rw [hj]
      clear hx hy hs1 hs2 hj hi' ho
      go_wp2_with fail
      go_region
      all_goals
        go_wp2_with fail
        go_roundw
        case rel =>
          refine ⟨k + 1, by omega, by go_num, ?_, ?_, ?_⟩
          · have := HI.out
            congr 1
            omega
          · rw [← HST.out]
            exact HO2.out
          · exact HOO.out.drew
        case measure => simp [intOf]; omega
    · have hge : ¬ (k : Int) < (n : Int) - 1 - (k : Int) := by omega
      have hge' : (n : Int) - 1 - (k : Int) ≤ (k : Int) := by omega
      have HE := Lib.hid (Fm.rvAt_end l o n k (by omega))
      rw [HE.out] at ho
      go_wp2_with fail
      go_end0
      exact ⟨rfl, ho, hO⟩
end Go.Proofs.Ytgplciodddfpbaa
