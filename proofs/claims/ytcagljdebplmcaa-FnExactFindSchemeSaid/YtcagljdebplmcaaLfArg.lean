/- A list of leaves among a law's arguments, opened to its cells. -/
import Derived.Test.YtcagljdebplmcaaLf
import Derived.Deep.Slices
import Derived.Deep.Fields
namespace Go.Proofs.Ytcagljdebplmcaa
open Go.RowKit Go.Deep Go.ChangeShapes Go.WideShapes

theorem list_of {α : Type} (Q : Nat → α → Prop) : ∀ n, (∀ i, i < n → ∃ v, Q i v) → ∃ l : List α, l.length = n ∧ ∀ j x, l[j]? = some x → Q j x := by
  intro n
  induction n with
  | zero => intro _; exact ⟨[], rfl, fun j x h => by simp at h⟩
  | succ n ih =>
    intro h
    obtain ⟨l, hl, hq⟩ := ih fun i hi => h i (by omega)
    obtain ⟨v, hv⟩ := h n (by omega)
    refine ⟨l ++ [v], by simp [hl], fun j x hj => ?_⟩
    rcases Nat.lt_or_ge j l.length with hlt | hge
    · rw [List.getElem?_append_left hlt] at hj
      exact hq j x hj
    · rw [List.getElem?_append_right hge] at hj
      have h0 : j - l.length = 0 := by
        have := (List.getElem?_eq_some_iff.1 hj).1
        simp at this
        omega
      rw [h0] at hj
      injection hj with hj
      subst hj
      obtain rfl : j = n := by omega
      exact hv
theorem cellsLL : Try.prog.cellsOf 82 = 4 := by kernel_rfl
theorem cellsLI : Try.prog.cellsOf 2 = 1 := by kernel_rfl
theorem cellsLB : Try.prog.cellsOf 4 = 1 := by kernel_rfl
set_option maxRecDepth 100000 in
theorem RdV.of_arg {H : Type} {enc : TypeId × Value → H} {W : World} {A : Option Addr} {len cap : Nat} {d : DataW H} {p : List MemPlace}
    (h : DataW.Trod enc Try.prog W 0 (fun _ => true) true 53 (.slice A len cap) d p) : ∃ l : List Lv, RdV W W.heap.size A len l ∧ len ≤ 9223372036854775807 := by
  obtain ⟨fuel, hf⟩ := h
  rcases open_slice Try.underlying53 hf with ⟨hcs, _⟩ | ⟨a, l, c, m, n, D, Pl, hcs, _, hl, hm, hmm, _, hi⟩
  · simp [Value.cells] at hcs
    obtain ⟨rfl, rfl, rfl⟩ := hcs
    exact ⟨[], RdV.none_, by omega⟩
  · simp [Value.cells] at hcs
    obtain ⟨rfl, rfl, rfl⟩ := hcs
    simp only [if_true] at hmm
    subst hmm
    have hml : len ≤ 9223372036854775807 := by unfold maxLen at hm; omega
    have key : ∀ i, i < len → ∃ v : Lv, ∀ j u, v.enc[j]? = some u → W.cell? (a.add (i * 4 + j)) = some u := by
      intro i hlt
      obtain ⟨cs', hc, ht⟩ := hi i (by omega)
      rw [cellsLL] at hc
      obtain ⟨_, hlen, hcell⟩ := World.cells?_some hc
      obtain ⟨xs, n', _, _, _, hxl, hg⟩ := DataW.trod_struct Try.underlying82 ht
      match cs', hlen, xs, hxl with
      | [c0, c1, c2, c3], _, [x0, x1, x2, x3], _ =>
        have g0 := hg 0 _ rfl
        have g1 := hg 1 _ rfl
        have g2 := hg 2 _ rfl
        have g3 := hg 3 _ rfl
        rw [show Try.prog.cellsOf (Field.type _) = 1 from cellsLI] at g0 g1
        rw [show Try.prog.cellsOf (Field.type _) = 1 from cellsLB] at g2 g3
        obtain ⟨z0, e0, _, _⟩ := DataW.trod_int Try.underlying2 (show DataW.trod enc Try.prog W 0 (fun _ => true) true n' 2 [c0] = some x0 from g0)
        obtain ⟨z1, e1, _, _⟩ := DataW.trod_int Try.underlying2 (show DataW.trod enc Try.prog W 0 (fun _ => true) true n' 2 [c1] = some x1 from g1)
        obtain ⟨z2, e2, _⟩ := DataW.trod_bool Try.underlying4 (show DataW.trod enc Try.prog W 0 (fun _ => true) true n' 4 [c2] = some x2 from g2)
        obtain ⟨z3, e3, _⟩ := DataW.trod_bool Try.underlying4 (show DataW.trod enc Try.prog W 0 (fun _ => true) true n' 4 [c3] = some x3 from g3)
        injection e0 with e0
        injection e1 with e1
        injection e2 with e2
        injection e3 with e3
        subst e0 e1 e2 e3
        refine ⟨⟨z0, z1, z2, z3⟩, fun j u hu => ?_⟩
        have hj : j < 4 := by
          have := (List.getElem?_eq_some_iff.1 hu).1
          simpa [Lv.enc] using this
        have := hcell j hj
        rw [← Go.Deep.add_add, this]
        exact hu
    obtain ⟨l, hll, hq⟩ := list_of _ len key
    refine ⟨l, ⟨hll, fun hp => ?_⟩, hml⟩
    obtain ⟨b, o, s⟩ := a
    have hx0 : l[0]? = some l[0] := List.getElem?_eq_getElem (by omega)
    have h1 := hq 0 _ hx0 1 _ rfl
    have h0 := hq 0 _ hx0 0 _ rfl
    have hs : s = none := by simpa [Addr.add] using World.cell?_spot h0
    subst hs
    refine ⟨b, o, rfl, by simpa [addr_block] using World.block_lt_of_cell? W _ h0, fun j x hx i u hu => ?_⟩
    have := hq j x hx i u hu
    rwa [addr_plain] at this
end Go.Proofs.Ytcagljdebplmcaa
