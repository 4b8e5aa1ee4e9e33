/- The mathematics of forms that are turned over, and of the place of a page. No program is called here. -/
import Derived.Test.YtgplciodddfpbaaFmRv
import Derived.Test.YtgplciodddfpbaaFmPl
namespace Go.Proofs.Ytgplciodddfpbaa
namespace Fm

theorem tnTo_full (W : Nat) (l : List Int) (H j : Nat) (hl : l.length = W * H) (hj : j < l.length) : (tnTo W l H)[j]? = some (l.getD (j / W * W + W - 1 - j % W) 0) := by
  rw [tnTo_get _ _ _ _ hj, if_pos (by rw [Nat.mul_comm, ← hl]; exact hj)]
/-- The place of a cell in its row, seen from the other side. -/
theorem row_facts (W H j : Nat) (hW : 1 ≤ W) (hj : j < W * H) : j / W * W + W - 1 - j % W < W * H ∧ (j / W * W + W - 1 - j % W) / W = j / W ∧ (j / W * W + W - 1 - j % W) % W = W - 1 - j % W := by
  have hm := Nat.mod_lt j hW
  have hd := Nat.div_add_mod j W
  have hq : j / W < H := Nat.div_lt_of_lt_mul hj
  obtain ⟨q, hq'⟩ : ∃ q, j / W = q := ⟨_, rfl⟩
  obtain ⟨r, hr'⟩ : ∃ r, j % W = r := ⟨_, rfl⟩
  rw [hq'] at hd hq ⊢
  rw [hr'] at hd hm ⊢
  have e : q * W + W - 1 - r = W * q + (W - 1 - r) := by rw [Nat.mul_comm]; omega
  have h1 := Nat.mul_le_mul_left W (show q + 1 ≤ H from hq)
  rw [Nat.mul_add, Nat.mul_one] at h1
  rw [e]
  refine ⟨by omega, ?_, ?_⟩
  · rw [Nat.mul_add_div (by omega), Nat.div_eq_of_lt (by omega)]; rfl
  · rw [Nat.mul_add_mod, Nat.mod_eq_of_lt (by omega)]
theorem tnH_tnH (W H : Nat) (l : List Int) (hW : 1 ≤ W) (hl : l.length = W * H) : tnH (W : Int) (tnH (W : Int) l) = l := by
  have h1 : (tnTo W l H).length = W * H := by rw [tnTo_len, hl]
  rw [← tnTo_all W l H hW hl, ← tnTo_all W _ H hW h1]
  refine ext_lt (by simp [tnTo_len]) fun j hj => ?_
  rw [tnTo_len, tnTo_len] at hj
  rw [tnTo_full W _ H j h1 (by rw [tnTo_len]; exact hj)]
  obtain ⟨f1, f2, f3⟩ := row_facts W H j hW (by rw [← hl]; exact hj)
  have hm := Nat.mod_lt j hW
  have hd := Nat.div_add_mod j W
  rw [List.getD_eq_getElem?_getD, tnTo_full W l H _ hl (by rw [hl]; exact f1), f2, f3, get_getD hj]
  simp only [Option.getD_some]
  have e : j / W * W + W - 1 - (W - 1 - j % W) = j := by rw [Nat.mul_comm] at hd; omega
  rw [e]
theorem tnH_mem (w : Int) (l : List Int) (hb : bits l) : bits (tnH w l) := by
  intro x hx
  unfold tnH at hx
  obtain ⟨i, _, rfl⟩ := List.mem_map.1 hx
  rw [List.getD_eq_getElem?_getD]
  rcases ho : l[((i : Int) / w * w + w - 1 - (i : Int) % w).toNat]? with _ | y
  · simp
  · simp only [Option.getD_some]
    exact hb y (List.mem_of_getElem? ho)
theorem ok_turn {w h : Int} {F G H : List Int} (hk : ok w h F G H) : ok w h G F (tnH w H) := by
  obtain ⟨h1, ⟨h2, h3, h4⟩, h5, h6, h7, h8, h9⟩ := hk
  have hm : ∀ x, x ∈ G ++ F ↔ x ∈ F ++ G := fun x => by simp only [List.mem_append]; exact Or.comm
  obtain ⟨N, hN, N1, _⟩ := cells_pos h1
  have hne : G ++ F ≠ [] := by
    intro e
    have hG : G = [] := (List.append_eq_nil_iff.1 e).1
    rw [hG] at h3
    simp only [List.length_nil] at h3
    omega
  have hlst : lst (G ++ F) = lst (F ++ G) := lst_mem hne hm
  refine ⟨h1, ⟨h3, h2, by rw [tnH_len]; exact h4⟩, tnH_mem w H h5, by rw [hlst]; exact h6, by rw [hlst]; exact h7, fun x hx => ?_, ?_⟩
  · rw [hlst, List.length_append, Nat.add_comm, ← List.length_append]
    exact h8 x ((hm x).1 hx)
  · exact (List.perm_append_comm.nodup_iff).1 h9
theorem tn_twice {a b C : Int} {F G H : List Int} {u0 u1 : Int} {L1 L2 L3 : List Int} (hR : tnR a b F G H = (u0, u1, L1, L2, L3, C)) (hC : C = 0) : u0 = a ∧ u1 = b ∧ okB u0 u1 L1 L2 L3 = true ∧ tnR u0 u1 L1 L2 L3 = (a, b, F, G, H, 0) := by
  subst hC
  cases hv : okB a b F G H
  · have := (tn_bad hR hv).2.2.2.2.2
    omega
  · obtain ⟨rfl, rfl, rfl, rfl, rfl, _⟩ := tn_good hR hv
    have hk := okB_ok hv
    have hk2 := okB_yes (ok_turn hk)
    obtain ⟨W, H', eW, _, W1, _, _, _, eWH, _, _⟩ := cells_of hk.1
    refine ⟨rfl, rfl, hk2, ?_⟩
    unfold tnR
    rw [if_pos hk2]
    have hl : H.length = W * H' := by have := hk.2.1.2.2; rw [eWH] at this; omega
    rw [eW, tnH_tnH W H' H W1 hl]
/-- A page that is found is printed at its place. -/
theorem place_at {w h : Int} {F G H : List Int} {p v0 v1 v2 : Int} (hR : plR w h F G H p = (v0, v1, v2, 0)) : ∃ W N k : Nat, w = (W : Int) ∧ 1 ≤ W ∧ W ≤ 8 ∧ N ≤ 64 ∧ F.length = N ∧ G.length = N ∧ k < N ∧ 0 ≤ v1 ∧ v1 < w ∧ 0 ≤ v2 ∧ v2 ≤ 64 ∧ 0 ≤ v2 * w ∧ v2 * w ≤ 64 ∧
    ((v0 = 0 ∧ v2 * w + v1 = (k : Int) ∧ F[k]? = some p) ∨ (v0 = 1 ∧ v2 * w + w - 1 - v1 = (k : Int) ∧ G[k]? = some p)) := by
  unfold plR at hR
  cases hv : okB w h F G H
  · rw [hv, if_neg (by simp)] at hR
    injection hR with _ hR; injection hR with _ hR; injection hR with _ hR
    omega
  · rw [hv, if_pos rfl] at hR
    have hk := okB_ok hv
    obtain ⟨W, H', eW, _, W1, W8, _, _, eWH, N1, N64⟩ := cells_of hk.1
    obtain ⟨l1, l2, _⟩ := hk.2.1
    rw [eWH] at l1 l2
    unfold place at hR
    have gi : ∀ L : List Int, p ∈ L → L[L.idxOf p]? = some p := fun L hL => by
      have := List.idxOf_lt_length_iff.2 hL
      rw [List.getElem?_eq_getElem this, List.getElem_idxOf]
    by_cases hF : p ∈ F
    · rw [if_pos hF] at hR
      have hlt := List.idxOf_lt_length_iff.2 hF
      obtain ⟨X, Y, e1, e2, _, _, x1, x2, y1, y2, _, y4⟩ := div_facts (F.idxOf p) W (W * H') H' W1 (by omega) N64 rfl
      rw [eW, e1, e2] at hR
      injection hR with hR0 hR; injection hR with hR1 hR; injection hR with hR2 _
      subst hR0 hR1 hR2
      rw [eW]
      exact ⟨W, W * H', F.idxOf p, rfl, W1, W8, N64, by omega, by omega, by omega, x1, x2, y1, y2, Int.mul_nonneg y1 (by omega), by omega, .inl ⟨rfl, y4, gi F hF⟩⟩
    · rw [if_neg hF] at hR
      by_cases hG : p ∈ G
      · rw [if_pos hG] at hR
        have hlt := List.idxOf_lt_length_iff.2 hG
        obtain ⟨X, Y, e1, e2, _, _, x1, x2, y1, y2, _, y4⟩ := div_facts (G.idxOf p) W (W * H') H' W1 (by omega) N64 rfl
        rw [eW, e1, e2] at hR
        injection hR with hR0 hR; injection hR with hR1 hR; injection hR with hR2 _
        subst hR0 hR1 hR2
        rw [eW]
        exact ⟨W, W * H', G.idxOf p, rfl, W1, W8, N64, by omega, by omega, by omega, by omega, by omega, y1, y2, Int.mul_nonneg y1 (by omega), by omega, .inr ⟨rfl, by omega, gi G hG⟩⟩
      · rw [if_neg hG] at hR
        injection hR with _ hR; injection hR with _ hR; injection hR with _ hR
        omega
end Fm
end Go.Proofs.Ytgplciodddfpbaa
