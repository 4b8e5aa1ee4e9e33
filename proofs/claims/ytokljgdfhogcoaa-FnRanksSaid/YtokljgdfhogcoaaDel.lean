/- Contract of slices.Delete of one place of a slice of the call's own. -/
import Derived.Test.YtokljgdfhogcoaaBase
import Derived.Deep.RegionLaw
import Derived.Lib.SliceRun
import Derived.WalkSpells
namespace Go.Proofs.Ytokljgdfhogcoaa
open Go.RowKit

section
variable {α : Type} {enc : α → Value} {w : World} {lo hi n c g : Nat} {e : TypeId} {l : List α}
theorem Own.opened (h : Own enc w lo hi e (.slice (some ⟨g, 0, none⟩) n c) l) : ∃ cur, w.heap[g]? = some (.cells cur e (0, 0)) ∧ n ≤ c ∧ c ≤ maxLen ∧ cur.size = c ∧ l.length = n ∧ (∀ (j : Nat) (x : α), l[j]? = some x → cur[j]? = some (enc x)) ∧ lo ≤ g ∧ g < hi := by
  have hn : l.length = n := h.rd.1
  have hlt := h.lt g rfl
  rcases h.1.2 with ⟨hv, _⟩ | ⟨g', cap, cur, hv, _, hg, h1, h2, h3, h4⟩
  · simp at hv
  · simp only [Value.slice.injEq, Option.some.injEq, Addr.mk.injEq, and_true] at hv
    obtain ⟨rfl, rfl, rfl⟩ := hv
    refine ⟨cur, hg, h1, h2, by simpa using h3, hn, fun j x hx => ?_, hlt.1, hlt.2.1⟩
    have hj : j < l.length := (List.getElem?_eq_some_iff.1 hx).1
    have e1 : (cur.toList.take (l.length * 1))[j]? = some (enc x) := by rw [h4, List.getElem?_map, hx]; rfl
    rw [List.getElem?_take, if_pos (by omega)] at e1
    simpa using e1
theorem Own.shut {cur : Array Value} (hg : w.heap[g]? = some (.cells cur e (0, 0))) (h1 : n ≤ c) (h2 : c ≤ maxLen) (h3 : cur.size = c) (hn : l.length = n) (hc : ∀ (j : Nat) (x : α), l[j]? = some x → cur[j]? = some (enc x)) (h4 : lo ≤ g) (h5 : g < hi) :
    Own enc w lo hi e (.slice (some ⟨g, 0, none⟩) n c) l := by
  refine ⟨⟨by simp, .inr ⟨g, c, cur, by rw [hn], h4, hg, by omega, h2, by omega, ?_⟩⟩, fun k hk => by simp [Value.ownBlock] at hk; omega⟩
  apply List.ext_getElem?
  intro j
  rw [List.getElem?_take, List.getElem?_map]
  by_cases hj : j < l.length * 1
  · rw [if_pos hj]
    have hj' : j < l.length := by omega
    have := hc j l[j] (List.getElem?_eq_getElem hj')
    rw [List.getElem?_eq_getElem hj']
    simpa using this
  · rw [if_neg hj, List.getElem?_eq_none (by omega)]
    rfl
end

theorem heap_setCells (g : Nat) (e : TypeId) : ∀ (vs : List Value) (o : Nat) (w : World) (cur : Array Value), w.heap[g]? = some (.cells cur e (0, 0)) →
    ∃ cur', (w.setCells g o vs).heap[g]? = some (.cells cur' e (0, 0)) ∧ cur'.size = cur.size ∧ (∀ j, (j < o ∨ o + vs.length ≤ j) → cur'[j]? = cur[j]?) ∧ ∀ j, j < vs.length → o + j < cur.size → cur'[o + j]? = vs[j]?
  | [], o, w, cur, h => ⟨cur, h, rfl, fun _ _ => rfl, fun j hj => by simp at hj⟩
  | v :: r, o, w, cur, h => by
    obtain ⟨cur', h1, h2, h3, h4⟩ := heap_setCells g e r (o + 1) (w.setCell ⟨g, o, none⟩ v) (cur.setIfInBounds o v) (heap_setCell_same w g o cur e v h)
    refine ⟨cur', h1, by simpa using h2, fun j hj => ?_, fun j hj hb => ?_⟩
    · simp only [List.length_cons] at hj
      rw [h3 j (by omega), Array.getElem?_setIfInBounds, if_neg (by omega)]
    · cases j with
      | zero =>
        rw [Nat.add_zero, h3 o (by omega), Array.getElem?_setIfInBounds, if_pos rfl]
        rw [Nat.add_zero] at hb
        simp [hb]
      | succ j =>
        simp only [List.length_cons] at hj
        have := h4 j (by omega) (by simp; omega)
        rw [show o + (j + 1) = o + 1 + j from by omega, this]
        simp
theorem only_setCells (lo hi g : Nat) (hlo : lo ≤ g) (hhi : g < hi) : ∀ (vs : List Value) (o : Nat) (w : World), Only lo hi w (w.setCells g o vs)
  | [], _, w => Only.refl _ _ _
  | v :: r, o, w => by
    have h1 : Only lo hi w (w.setCell ⟨g, o, none⟩ v) := ⟨rfl, rfl, rfl, by simp, fun k _ hne => heap_setCell_other w ⟨g, o, none⟩ k v (fun e => by have e' : k = g := e; omega)⟩
    exact h1.trans (only_setCells lo hi g hlo hhi r (o + 1) _)

theorem zeroI (w : World) : (zeroValue 2).run Try.prog w = .ok (.int .i64 0) w := by kernel_rfl

set_option maxHeartbeats 2000000 in
theorem delete_any (g n c lo hi i : Nat) (l : List Int) (w : World) (h : Own I w lo hi 2 (.slice (some ⟨g, 0, none⟩) n c) l) (hin : i < n) (_hn : n ≤ 1048576) :
    Calls Try.prog 50 #[.slice (some ⟨g, 0, none⟩) n c, .int .i64 i, .int .i64 ((i : Int) + 1)] w fun e w' => e = .returned (.slice (some ⟨g, 0, none⟩) (n - 1) c) ∧
      Own I w' lo hi 2 (.slice (some ⟨g, 0, none⟩) (n - 1) c) (l.eraseIdx i) ∧ Only lo hi w w' := by
  obtain ⟨i0, hi0, hz0, hz1, hz2⟩ := info_parts infoI
  obtain ⟨cur, hg, hnc, hcm, hcs, hl, hcell, hlo, hhi⟩ := h.opened
  obtain ⟨news, hnews⟩ : ∃ news, news = (l.drop (i + 1)).map I := ⟨_, rfl⟩
  have hlen : news.length = n - (i + 1) := by rw [hnews]; simp [hl]
  have hread : ∀ k, k < c → (w.drew.cell? ⟨g, k, none⟩).isSome = true ∧ w.drew.frozen? ⟨g, k, none⟩ = false := fun k hk =>
    ⟨by show (w.cell? _).isSome = true; rw [cell_of_row w g k cur _ (0, 0) hg]; simp [hcs, hk], frozen_of_row w g k cur _ hg⟩
  have s1 : Hid (news.length = (n - (i + 1)) * 1) := by rw [Nat.mul_one]; exact hlen
  have s2 : Hid (∀ u ∈ news, u.oneCell' = true) := by
    intro u hu
    rw [hnews] at hu
    obtain ⟨x, _, rfl⟩ := List.mem_map.1 hu
    rfl
  have s3 : Hid (∀ t, t < news.length → (w.drew.cell? ⟨g, 0 + i * 1 + t, none⟩).isSome = true ∧ w.drew.frozen? ⟨g, 0 + i * 1 + t, none⟩ = false) := by
    intro t ht
    exact hread _ (by omega)
  obtain ⟨A, hA, hsrc⟩ : ∃ A : Addr, (if c = i + 1 then (some ⟨g, 0, none⟩ : Option Addr) else some ⟨g, i + 1, none⟩) = some A ∧ Hid (∀ t u, news[t]? = some u → w.drew.cell? (A.add t) = some u) := by
    by_cases hc : c = i + 1
    · refine ⟨⟨g, 0, none⟩, by simp [hc], fun t u hu => ?_⟩
      have := (List.getElem?_eq_some_iff.1 hu).1
      omega
    · refine ⟨⟨g, i + 1, none⟩, by simp [hc], fun t u hu => ?_⟩
      rw [hnews, List.getElem?_map, List.getElem?_drop] at hu
      obtain ⟨x, hx, rfl⟩ := Option.map_eq_some_iff.1 hu
      rw [addr_plain]
      show w.cell? _ = _
      rw [cell_of_row w g _ cur _ (0, 0) hg]
      exact hcell _ _ hx
  obtain ⟨W1, hW1⟩ : ∃ W1, W1 = w.drew.setCells g (0 + i * 1) news := ⟨_, rfl⟩
  obtain ⟨cur1, hg1, hcs1, hout1, hin1⟩ := heap_setCells g 2 news (0 + i * 1) w.drew cur hg
  rw [← hW1] at hg1
  have hO1 : Only lo hi W1 W1 := Only.refl _ _ _
  have hOw : Only lo hi w W1 := by rw [hW1]; exact (Only.refl _ _ _).drew.trans (only_setCells lo hi g hlo hhi _ _ _)
  have hcl : ∀ ty, (Builtin.clear_ #[24] ty #[.slice (some ⟨g, i + (n - (i + 1)), none⟩) (n - (i + (n - (i + 1)))) (c - (i + (n - (i + 1))))]).run Try.prog W1 = .ok (.tuple #[]) (W1.setCells g (i + (n - (i + 1))) (List.replicate (n - (i + (n - (i + 1)))) (.int .i64 0))) :=
    fun ty => Lib.run_clear_slice W1 _ _ ty _ Try.underlying24 zeroI rfl rfl g (i + (n - (i + 1))) _ _ (by omega)
      (fun t ht => by rw [cell_of_row W1 g _ cur1 _ (0, 0) hg1]; simp [hcs1, hcs]; omega) (fun t ht => frozen_of_row W1 g _ cur1 _ hg1)
  have HW := Lib.hid hW1
  have HCell := Lib.hid hcell
  have hic : i ≤ c := by omega
  have hjc : i + 1 ≤ c := by omega
  have hi1 : (0 : Int) ≤ (i : Int) + 1 := by omega
  have hi2 : (i : Int) + 1 ≤ (n : Int) := by omega
  clear hW1 hread hcell hO1
  go_enter Try.func50, Try.ntmps50
  go_wp2_with fail
  go_region_law (refine step_append_room rfl (.tmp 22) (.tmp 25) 24 rfl 2 i0 1 Try.underlying24 hi0 hz1 g 0 i c (by simp [Act.eval, Act.put]) A (n - (i + 1)) (c - (i + 1)) news (by simp [Act.eval, Act.put]) s1.out hsrc.out s2.out (by omega) s3.out ?_; rw [← HW.out])
  go_wp2
  go_ret
  obtain ⟨cur2, hg2, hcs2, hout2, hin2⟩ := heap_setCells g 2 (List.replicate (n - (i + (n - (i + 1)))) (.int .i64 0)) (i + (n - (i + 1))) W1 cur1 hg1
  refine ⟨by rw [show n - 1 = i + (n - (i + 1)) from by omega]; rfl, ?_, hOw.trans (only_setCells lo hi g hlo hhi _ _ _)⟩
  refine Own.shut hg2 (by omega) hcm (by rw [hcs2, hcs1, hcs]) (by rw [List.length_eraseIdx, hl, if_pos hin]) (fun j x hx => ?_) hlo hhi
  have hj : j < n - 1 := by
    have := (List.getElem?_eq_some_iff.1 hx).1
    rw [List.length_eraseIdx, hl, if_pos hin] at this
    exact this
  rw [hout2 j (.inl (by omega))]
  rw [List.getElem?_eraseIdx] at hx
  by_cases hji : j < i
  · rw [if_pos hji] at hx
    rw [hout1 j (.inl (by omega))]
    exact HCell.out j x hx
  · rw [if_neg hji] at hx
    have := hin1 (j - i) (by omega) (by omega)
    rw [show 0 + i * 1 + (j - i) = j from by omega] at this
    rw [this, hnews, List.getElem?_map, List.getElem?_drop, show i + 1 + (j - i) = j + 1 from by omega, hx]
    rfl
end Go.Proofs.Ytokljgdfhogcoaa
