/- The mathematics of the form of a scheme: it is valid, its least page is the first, and folding it gives all pages in order and upright, also when they are shifted. No program is called here. -/
import Derived.Test.YtgplciodddfpbaaFmRv
import Derived.Test.YtgplciodddfpbaaFmIp
namespace Go.Proofs.Ytgplciodddfpbaa
namespace Fm

theorem mod_of {w x y : Int} (h0 : 0 ≤ x) (h1 : x < w) : (y * w + x) % w = x := by
  rw [Int.add_comm, Int.add_mul_emod_self_right, Int.emod_eq_of_lt h0 h1]
theorem div_of {w x y : Int} (h0 : 0 ≤ x) (h1 : x < w) : (y * w + x) / w = y := by
  rw [Int.add_comm, Int.add_mul_ediv_right _ _ (by omega), Int.ediv_eq_zero_of_lt h0 h1, Int.zero_add]
/-- The leaves of a scheme stand on the cells of its sheet, one on each. -/
structure Tab (w : Int) (n : Nat) (lv : List Lv) : Prop where
  len : lv.length = n
  fl : ∀ (k : Nat) (v : Lv), lv[k]? = some v → fc w v < n ∧ bc w v < n
  fi : ∀ (i j : Nat) (u v : Lv), lv[i]? = some u → lv[j]? = some v → fc w u = fc w v → i = j
  bi : ∀ (i j : Nat) (u v : Lv), lv[i]? = some u → lv[j]? = some v → bc w u = bc w v → i = j
  fs : ∀ i, i < n → ∃ (k : Nat) (v : Lv), lv[k]? = some v ∧ fc w v = i
  bs : ∀ i, i < n → ∃ (k : Nat) (v : Lv), lv[k]? = some v ∧ bc w v = i
theorem tab_of {w h : Int} {s : List UInt8} (hs : Fo.scheme w h s = true) : Tab w (2 ^ s.length) (LVs s) := by
  have hsh := scheme_sheet hs
  have hc := scheme_cells hs
  obtain ⟨W, H', eW, eH, W1, _, H1, _, _, _, _⟩ := cells_of hsh
  have hlen := LVs_len s
  have fa : ∀ {k : Nat} {v : Lv}, (LVs s)[k]? = some v → v.y * w + v.x = (fc w v : Int) ∧ (fc w v : Int) < w * h := fun hv => by
    have := fc_at hsh (LVs_on hs hv)
    exact ⟨this.1, this.2.1⟩
  have ba : ∀ {k : Nat} {v : Lv}, (LVs s)[k]? = some v → v.y * w + (w - 1 - v.x) = (bc w v : Int) ∧ (bc w v : Int) < w * h := fun hv => bc_at hsh (LVs_on hs hv)
  have on : ∀ {k : Nat} {v : Lv}, (LVs s)[k]? = some v → On w h v := fun hv => LVs_on hs hv
  have inj : ∀ (i j : Nat) (u v : Lv), (LVs s)[i]? = some u → (LVs s)[j]? = some v → u.x = v.x → u.y = v.y → i = j := fun i j u v hu hv e1 e2 => by
    obtain ⟨hi, x1, y1⟩ := LVs_cell hu
    obtain ⟨hj, x2, y2⟩ := LVs_cell hv
    exact cell_inj s hi hj (by rw [← x1, ← x2, e1]) (by rw [← y1, ← y2, e2])
  have at_ : ∀ x y : Int, 0 ≤ x → x < w → 0 ≤ y → y < h → ∃ (k : Nat) (v : Lv), (LVs s)[k]? = some v ∧ v.x = x ∧ v.y = y := fun x y x0 x1 y0 y1 => by
    obtain ⟨j, hj, e1, e2⟩ := cell_on hs x0 x1 y0 y1
    have hv := LVs_get s j hj
    obtain ⟨_, h1, h2⟩ := LVs_cell hv
    exact ⟨j, _, hv, by rw [h1, e1], by rw [h2, e2]⟩
  have idx : ∀ i : Nat, i < 2 ^ s.length → ∃ X Y : Int, 0 ≤ X ∧ X < w ∧ 0 ≤ Y ∧ Y < h ∧ Y * w + X = (i : Int) := fun i hi => by
    have hW : 1 ≤ W := W1
    have hWH : 2 ^ s.length = W * H' := by
      rw [eW, eH] at hc
      have : ((W * H' : Nat) : Int) = ((2 ^ s.length : Nat) : Int) := by rw [← hc]; push_cast; rfl
      exact (Int.ofNat_inj.1 this).symm
    refine ⟨(i : Int) % w, (i : Int) / w, Int.emod_nonneg _ (by omega), Int.emod_lt_of_pos _ (by omega), Int.ediv_nonneg (by omega) (by omega), ?_, by have := Int.emod_add_mul_ediv (i : Int) w; rw [Int.mul_comm] at this; omega⟩
    refine Int.ediv_lt_of_lt_mul (by omega) ?_
    rw [eW, eH]
    have : ((H' * W : Nat) : Int) = (H' : Int) * (W : Int) := by push_cast; rfl
    rw [← this, Nat.mul_comm, ← hWH]
    omega
  refine ⟨hlen, fun k v hv => ?_, fun i j u v hu hv e => ?_, fun i j u v hu hv e => ?_, fun i hi => ?_, fun i hi => ?_⟩
  · have h1 := (fa hv).2
    have h2 := (ba hv).2
    rw [hc] at h1 h2
    exact ⟨by omega, by omega⟩
  · have h1 := (fa hu).1
    have h2 := (fa hv).1
    rw [← e, ← h1] at h2
    obtain ⟨u0, u1, _, _⟩ := on hu
    obtain ⟨v0, v1, _, _⟩ := on hv
    have e1 := mod_of (y := u.y) u0 u1
    have e2 := mod_of (y := v.y) v0 v1
    have e3 := div_of (y := u.y) u0 u1
    have e4 := div_of (y := v.y) v0 v1
    rw [h2] at e2 e4
    exact inj i j u v hu hv (by rw [← e1, e2]) (by rw [← e3, e4])
  · have h1 := (ba hu).1
    have h2 := (ba hv).1
    rw [← e, ← h1] at h2
    obtain ⟨u0, u1, _, _⟩ := on hu
    obtain ⟨v0, v1, _, _⟩ := on hv
    have e1 := mod_of (y := u.y) (show 0 ≤ w - 1 - u.x by omega) (show w - 1 - u.x < w by omega)
    have e2 := mod_of (y := v.y) (show 0 ≤ w - 1 - v.x by omega) (show w - 1 - v.x < w by omega)
    have e3 := div_of (y := u.y) (show 0 ≤ w - 1 - u.x by omega) (show w - 1 - u.x < w by omega)
    have e4 := div_of (y := v.y) (show 0 ≤ w - 1 - v.x by omega) (show w - 1 - v.x < w by omega)
    rw [h2] at e2 e4
    exact inj i j u v hu hv (by omega) (by rw [← e3, e4])
  · obtain ⟨X, Y, a0, a1, a2, a3, a4⟩ := idx i hi
    obtain ⟨k, v, hv, e1, e2⟩ := at_ X Y a0 a1 a2 a3
    refine ⟨k, v, hv, ?_⟩
    have := (fa hv).1
    rw [e1, e2, a4] at this
    omega
  · obtain ⟨X, Y, a0, a1, a2, a3, a4⟩ := idx i hi
    obtain ⟨k, v, hv, e1, e2⟩ := at_ (w - 1 - X) Y (by omega) (by omega) a2 a3
    refine ⟨k, v, hv, ?_⟩
    have := (ba hv).1
    rw [e1, e2] at this
    omega
section
variable {w : Int} {n : Nat} {lv : List Lv}
theorem imF_get (T : Tab w n lv) : ∀ K, K ≤ n → ∀ (k : Nat) (v : Lv), k < K → lv[k]? = some v → (imF w n lv K)[fc w v]? = some (up k v) := by
  intro K
  induction K with
  | zero => intro _ k v hk; omega
  | succ K ih =>
    intro hK k v hk hv
    obtain ⟨u, hu⟩ : ∃ u, lv[K]? = some u := ⟨_, List.getElem?_eq_getElem (by rw [T.len]; omega)⟩
    rw [imF_next hu]
    by_cases e : k = K
    · subst e
      rw [hv] at hu
      injection hu with hu
      subst hu
      rw [List.getElem?_set_self (by rw [imF_len]; exact (T.fl _ _ hv).1)]
    · rw [List.getElem?_set_ne (fun h => e (T.fi _ _ _ _ hu hv h).symm)]
      exact ih (by omega) k v (by omega) hv
theorem imB_get (T : Tab w n lv) : ∀ K, K ≤ n → ∀ (k : Nat) (v : Lv), k < K → lv[k]? = some v → (imB w n lv K)[bc w v]? = some (dn k v) := by
  intro K
  induction K with
  | zero => intro _ k v hk; omega
  | succ K ih =>
    intro hK k v hk hv
    obtain ⟨u, hu⟩ : ∃ u, lv[K]? = some u := ⟨_, List.getElem?_eq_getElem (by rw [T.len]; omega)⟩
    rw [imB_next hu]
    by_cases e : k = K
    · subst e
      rw [hv] at hu
      injection hu with hu
      subst hu
      rw [List.getElem?_set_self (by rw [imB_len]; exact (T.fl _ _ hv).2)]
    · rw [List.getElem?_set_ne (fun h => e (T.bi _ _ _ _ hu hv h).symm)]
      exact ih (by omega) k v (by omega) hv
theorem imH_get (T : Tab w n lv) : ∀ K, K ≤ n → ∀ (k : Nat) (v : Lv), lv[k]? = some v → (imH w n lv K)[fc w v]? = some (if k < K ∧ v.fy = true then 1 else 0) := by
  intro K
  induction K with
  | zero =>
    intro _ k v hv
    rw [if_neg (by omega)]
    unfold imH
    rw [List.getElem?_replicate, if_pos (T.fl _ _ hv).1]
  | succ K ih =>
    intro hK k v hv
    obtain ⟨u, hu⟩ : ∃ u, lv[K]? = some u := ⟨_, List.getElem?_eq_getElem (by rw [T.len]; omega)⟩
    rw [imH_next hu]
    have h0 := ih (by omega) k v hv
    by_cases e : k = K
    · subst e
      rw [hv] at hu
      injection hu with hu
      subst hu
      by_cases hf : v.fy = true
      · rw [if_pos hf, if_pos ⟨by omega, hf⟩, List.getElem?_set_self (by rw [imH_len]; exact (T.fl _ _ hv).1)]
      · rw [if_neg hf, if_neg (by rintro ⟨_, h⟩; exact hf h), h0, if_neg (by rintro ⟨_, h⟩; exact hf h)]
    · have hK' : (k < K + 1 ∧ v.fy = true) ↔ (k < K ∧ v.fy = true) := ⟨fun h => ⟨by omega, h.2⟩, fun h => ⟨by omega, h.2⟩⟩
      by_cases hf : u.fy = true
      · rw [if_pos hf, List.getElem?_set_ne (fun h => e (T.fi _ _ _ _ hu hv h).symm), h0]
        simp only [hK']
      · rw [if_neg hf, h0]
        simp only [hK']
theorem imH_small' {K : Nat} : ∀ x ∈ imH w n lv K, 0 ≤ x ∧ x ≤ 1 := by
  induction K with
  | zero => intro x hx; simp [imH] at hx; omega
  | succ k ih =>
    intro x hx
    rw [imH] at hx
    split at hx
    · split at hx
      · rcases List.mem_or_eq_of_mem_set hx with hx | rfl
        · exact ih x hx
        · omega
      · exact ih x hx
    · exact ih x hx
theorem up_dn (k : Nat) (v : Lv) : (up k v = 2 * (k : Int) + 1 ∧ dn k v = 2 * (k : Int) + 2) ∨ (up k v = 2 * (k : Int) + 2 ∧ dn k v = 2 * (k : Int) + 1) := by
  unfold up dn
  cases v.down <;> simp
/-- The form of a scheme with all pages greater by y. -/
def shF (w : Int) (n : Nat) (lv : List Lv) (y : Int) : List Int := (imF w n lv n).map (· + y)
def shB (w : Int) (n : Nat) (lv : List Lv) (y : Int) : List Int := (imB w n lv n).map (· + y)
theorem shF_at (T : Tab w n lv) (y : Int) (k : Nat) (v : Lv) (hv : lv[k]? = some v) : (shF w n lv y)[fc w v]? = some (up k v + y) := by
  have hk : k < n := by have := (List.getElem?_eq_some_iff.1 hv).1; rwa [T.len] at this
  unfold shF
  rw [List.getElem?_map, imF_get T n (Nat.le_refl _) k v hk hv]
  rfl
theorem shB_at (T : Tab w n lv) (y : Int) (k : Nat) (v : Lv) (hv : lv[k]? = some v) : (shB w n lv y)[bc w v]? = some (dn k v + y) := by
  have hk : k < n := by have := (List.getElem?_eq_some_iff.1 hv).1; rwa [T.len] at this
  unfold shB
  rw [List.getElem?_map, imB_get T n (Nat.le_refl _) k v hk hv]
  rfl
theorem shF_len (y : Int) : (shF w n lv y).length = n := by unfold shF; rw [List.length_map, imF_len]
theorem shB_len (y : Int) : (shB w n lv y).length = n := by unfold shB; rw [List.length_map, imB_len]
theorem shF_of (T : Tab w n lv) (y : Int) (i : Nat) (hi : i < n) : ∃ (k : Nat) (v : Lv), lv[k]? = some v ∧ fc w v = i ∧ k < n ∧ (shF w n lv y)[i]? = some (up k v + y) := by
  obtain ⟨k, v, hv, e⟩ := T.fs i hi
  have hk : k < n := by have := (List.getElem?_eq_some_iff.1 hv).1; rwa [T.len] at this
  exact ⟨k, v, hv, e, hk, by rw [← e]; exact shF_at T y k v hv⟩
theorem shB_of (T : Tab w n lv) (y : Int) (i : Nat) (hi : i < n) : ∃ (k : Nat) (v : Lv), lv[k]? = some v ∧ bc w v = i ∧ k < n ∧ (shB w n lv y)[i]? = some (dn k v + y) := by
  obtain ⟨k, v, hv, e⟩ := T.bs i hi
  have hk : k < n := by have := (List.getElem?_eq_some_iff.1 hv).1; rwa [T.len] at this
  exact ⟨k, v, hv, e, hk, by rw [← e]; exact shB_at T y k v hv⟩
theorem shF_mem (T : Tab w n lv) {y x : Int} (hx : x ∈ shF w n lv y) : ∃ (k : Nat) (v : Lv), lv[k]? = some v ∧ k < n ∧ x = up k v + y := by
  obtain ⟨i, hi⟩ := List.mem_iff_getElem?.1 hx
  have hl := (List.getElem?_eq_some_iff.1 hi).1
  rw [shF_len] at hl
  obtain ⟨k, v, hv, _, hk, h⟩ := shF_of T y i hl
  rw [hi] at h
  injection h with h
  exact ⟨k, v, hv, hk, h⟩
theorem shB_mem (T : Tab w n lv) {y x : Int} (hx : x ∈ shB w n lv y) : ∃ (k : Nat) (v : Lv), lv[k]? = some v ∧ k < n ∧ x = dn k v + y := by
  obtain ⟨i, hi⟩ := List.mem_iff_getElem?.1 hx
  have hl := (List.getElem?_eq_some_iff.1 hi).1
  rw [shB_len] at hl
  obtain ⟨k, v, hv, _, hk, h⟩ := shB_of T y i hl
  rw [hi] at h
  injection h with h
  exact ⟨k, v, hv, hk, h⟩
theorem nodup_of {L : List Int} (h : ∀ (i j : Nat) (x : Int), L[i]? = some x → L[j]? = some x → i = j) : L.Nodup := by
  unfold List.Nodup
  rw [List.pairwise_iff_getElem]
  intro i j hi hj hij e
  have := h i j L[j] (by rw [List.getElem?_eq_getElem hi, e]) (List.getElem?_eq_getElem hj)
  omega
theorem sh_nodup (T : Tab w n lv) (y : Int) : (shF w n lv y ++ shB w n lv y).Nodup := by
  rw [List.nodup_append]
  refine ⟨nodup_of fun i j x hi hj => ?_, nodup_of fun i j x hi hj => ?_, fun a ha b hb e => ?_⟩
  · have l1 := (List.getElem?_eq_some_iff.1 hi).1
    have l2 := (List.getElem?_eq_some_iff.1 hj).1
    rw [shF_len] at l1 l2
    obtain ⟨k, v, hv, e1, _, h1⟩ := shF_of T y i l1
    obtain ⟨k', v', hv', e2, _, h2⟩ := shF_of T y j l2
    rw [hi] at h1
    rw [hj] at h2
    injection h1 with h1
    injection h2 with h2
    have hkk : k = k' := by rcases up_dn k v with h | h <;> rcases up_dn k' v' with h' | h' <;> omega
    subst hkk
    rw [hv] at hv'
    injection hv' with hv'
    subst hv'
    omega
  · have l1 := (List.getElem?_eq_some_iff.1 hi).1
    have l2 := (List.getElem?_eq_some_iff.1 hj).1
    rw [shB_len] at l1 l2
    obtain ⟨k, v, hv, e1, _, h1⟩ := shB_of T y i l1
    obtain ⟨k', v', hv', e2, _, h2⟩ := shB_of T y j l2
    rw [hi] at h1
    rw [hj] at h2
    injection h1 with h1
    injection h2 with h2
    have hkk : k = k' := by rcases up_dn k v with h | h <;> rcases up_dn k' v' with h' | h' <;> omega
    subst hkk
    rw [hv] at hv'
    injection hv' with hv'
    subst hv'
    omega
  · obtain ⟨k, v, hv, _, h1⟩ := shF_mem T ha
    obtain ⟨k', v', hv', _, h2⟩ := shB_mem T hb
    have hkk : k = k' := by rcases up_dn k v with h | h <;> rcases up_dn k' v' with h' | h' <;> omega
    subst hkk
    rw [hv] at hv'
    injection hv' with hv'
    subst hv'
    rcases up_dn k v with h | h <;> omega
theorem sh_rd (T : Tab w n lv) {y : Int} (k : Nat) (v : Lv) (hv : lv[k]? = some v) (lo : Bool) : rd w (shF w n lv y) (shB w n lv y) (imH w n lv n) v lo = 2 * (k : Int) + (if lo then 2 else 1) + y := by
  have hk : k < n := by have := (List.getElem?_eq_some_iff.1 hv).1; rwa [T.len] at this
  have h1 := shF_at T y k v hv
  have h2 := shB_at T y k v hv
  have h3 := imH_get T n (Nat.le_refl _) k v hv
  have hp : pg w (shF w n lv y) (shB w n lv y) v lo = 2 * (k : Int) + (if lo then 2 else 1) + y := by
    unfold pg
    rw [getD_at h1, getD_at h2]
    unfold up dn
    cases v.down <;> cases lo <;> simp
  unfold rd
  rw [hp, getD_at h3, if_neg]
  cases hf : v.fy
  · simp
  · simp [hk]
theorem sh_lst (T : Tab w n lv) (hn : 1 ≤ n) (y : Int) : lst (shF w n lv y ++ shB w n lv y) = 1 + y := by
  refine lst_of ⟨?_, fun x hx => ?_⟩
  · obtain ⟨v, hv⟩ : ∃ v, lv[0]? = some v := ⟨_, List.getElem?_eq_getElem (by rw [T.len]; omega)⟩
    have h1 := List.mem_of_getElem? (shF_at T y 0 v hv)
    have h2 := List.mem_of_getElem? (shB_at T y 0 v hv)
    rcases up_dn 0 v with h | h
    · rw [h.1] at h1
      exact List.mem_append_left _ (by simpa using h1)
    · rw [h.2] at h2
      exact List.mem_append_right _ (by simpa using h2)
  · rcases List.mem_append.1 hx with hx | hx
    · obtain ⟨k, v, _, _, rfl⟩ := shF_mem T hx
      rcases up_dn k v with h | h <;> omega
    · obtain ⟨k, v, _, _, rfl⟩ := shB_mem T hx
      rcases up_dn k v with h | h <;> omega
theorem sh_ok {h : Int} (T : Tab w n lv) (hs : Fo.sheet w h = true) (hn : w * h = (n : Int)) (h1 : 1 ≤ n) {y : Int} (hy : 0 ≤ y ∧ y ≤ 1000) : ok w h (shF w n lv y) (shB w n lv y) (imH w n lv n) := by
  refine ⟨hs, ⟨by rw [shF_len, hn], by rw [shB_len, hn], by rw [imH_len, hn]⟩, fun x hx => imH_small' x hx, by rw [sh_lst T h1]; omega, by rw [sh_lst T h1]; omega, fun x hx => ?_, sh_nodup T y⟩
  rw [sh_lst T h1, List.length_append, shF_len, shB_len]
  push_cast
  rcases List.mem_append.1 hx with hx | hx
  · obtain ⟨k, v, _, hk, rfl⟩ := shF_mem T hx
    rcases up_dn k v with h | h <;> omega
  · obtain ⟨k, v, _, hk, rfl⟩ := shB_mem T hx
    rcases up_dn k v with h | h <;> omega
theorem sh_read (T : Tab w n lv) {y : Int} (i : Nat) (hi : i < 2 * n) : (readL w (shF w n lv y) (shB w n lv y) (imH w n lv n) lv)[i]? = some ((i : Int) + 1 + y) := by
  obtain ⟨v, hv⟩ : ∃ v, lv[i / 2]? = some v := ⟨_, List.getElem?_eq_getElem (by rw [T.len]; omega)⟩
  rw [readL_at _ _ _ _ _ i v hv, sh_rd T (i / 2) v hv]
  congr 1
  have h2 : ((i / 2 : Nat) : Int) = (i : Int) / 2 := by push_cast; rfl
  rcases Nat.mod_two_eq_zero_or_one i with e | e
  · rw [e]
    simp
    omega
  · rw [e]
    simp
    omega
end
end Fm
end Go.Proofs.Ytgplciodddfpbaa
