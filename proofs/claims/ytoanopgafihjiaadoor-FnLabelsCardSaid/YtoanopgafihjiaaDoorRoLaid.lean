/- What the table of the roman signs reads as fixes its cells. -/
import Derived.Test.YtoanopgafihjiaaDoorRoTab
import Derived.OpenShut
import Derived.ChangeSame
namespace Go.Proofs.YtoanopgafihjiaaDoor
open Go.RowKit Go.ChangeShapes Go.WideShapes Ro

theorem gSigns : Tryd.prog.globalNamed "loop.example/g00944/impl.romanSigns" = some 0 := by kernel_rfl
theorem gSignsType : (Tryd.prog.globals[0]?).map (·.type) = some 72 := by kernel_rfl
theorem cellsTab : Tryd.prog.cellsOf 72 = 26 := by kernel_rfl
theorem cellsSign : Tryd.prog.cellsOf 71 = 2 := by kernel_rfl
theorem cellsStr : Tryd.prog.cellsOf 9 = 1 := by kernel_rfl
theorem cellsInt : Tryd.prog.cellsOf 2 = 1 := by kernel_rfl

theorem signs_len : signs.length = 13 := rfl
theorem signCells_at (i : Nat) (h : i < 13) : signCells.toList[2 * i]? = some (.string (St (sgS i))) ∧ signCells.toList[2 * i + 1]? = some (.int .i64 (sgV i)) := by
  have hc : i = 0 ∨ i = 1 ∨ i = 2 ∨ i = 3 ∨ i = 4 ∨ i = 5 ∨ i = 6 ∨ i = 7 ∨ i = 8 ∨ i = 9 ∨ i = 10 ∨ i = 11 ∨ i = 12 := by omega
  rcases hc with rfl | rfl | rfl | rfl | rfl | rfl | rfl | rfl | rfl | rfl | rfl | rfl | rfl <;> exact ⟨rfl, rfl⟩
theorem sign_get (i : Nat) (h : i < 13) : signs[i]? = some (sgS i, sgV i) := by
  have h1 := (sign_at i h).1
  have h2 : (signs.drop i)[0]? = some (sgS i, sgV i) := by rw [h1]; rfl
  simpa using h2

theorem signs_read {H : Type} {enc : TypeId × Value → H} {w : World} {base : Nat} {spare : Nat → Bool} {held : Bool} {fuel : Nat} {cs : Array Value} {p : List MemPlace}
    (h : DataW.trod enc Tryd.prog w base spare held fuel 72 cs.toList = some (.agg (signs.map fun q => .agg [.lit (.string q.1), .lit (.int .i64 q.2)]), p)) : cs = signCells := by
  obtain ⟨xs, m, _, hx, hlen, hxl, hat⟩ := DataW.trod_array Tryd.underlying72 h
  rw [cellsTab] at hlen
  rw [cellsSign] at hat
  simp only [Prod.mk.injEq, DataW.agg.injEq] at hx
  obtain ⟨hx1, _⟩ := hx
  have key : ∀ i, i < 13 → cs.toList[2 * i]? = some (.string (St (sgS i))) ∧ cs.toList[2 * i + 1]? = some (.int .i64 (sgV i)) := by
    intro i hi
    have h1 := hat i hi
    obtain ⟨y, hy⟩ : ∃ y, xs[i]? = some y := ⟨_, List.getElem?_eq_getElem (by omega)⟩
    rw [hy] at h1
    have hy1 : y.1 = .agg [.lit (.string (sgS i)), .lit (.int .i64 (sgV i))] := by
      have h2 : (xs.map (·.1))[i]? = some y.1 := by rw [List.getElem?_map, hy]; rfl
      rw [← hx1, List.getElem?_map, sign_get i hi] at h2
      injection h2 with h2
      exact h2.symm
    obtain ⟨y0, y1, n, hyy, _, ht0, ht1⟩ := trod_struct2 Tryd.underlying71 h1
    subst hyy
    simp only [DataW.agg.injEq, List.cons.injEq, and_true] at hy1
    obtain ⟨q0, q1⟩ := hy1
    simp only [cellsStr, cellsInt] at ht0 ht1
    obtain ⟨s, es, hs, _⟩ := DataW.trod_string Tryd.underlying9 ht0
    obtain ⟨v, ev, hv, _⟩ := DataW.trod_int Tryd.underlying2 ht1
    rw [hs] at q0
    rw [hv] at q1
    simp only [DataW.lit.injEq, Lit.string.injEq] at q0
    simp only [DataW.lit.injEq, Lit.int.injEq, true_and] at q1
    have e0 := congrArg (·[0]?) es
    have e1 := congrArg (·[0]?) ev
    simp [List.getElem?_drop] at e0 e1
    rw [Nat.mul_comm 2 i]
    subst q1
    rw [← q0, St_of]
    exact ⟨by simpa using e0, by simpa using e1⟩
  apply Array.toList_inj.1
  apply List.ext_getElem?
  intro j
  by_cases hj : j < 26
  · have h2 : j = 2 * (j / 2) ∨ j = 2 * (j / 2) + 1 := by omega
    have k1 := key (j / 2) (by omega)
    have k2 := signCells_at (j / 2) (by omega)
    rcases h2 with h2 | h2
    · rw [h2, k1.1, k2.1]
    · rw [h2, k1.2, k2.2]
  · rw [List.getElem?_eq_none (by omega), List.getElem?_eq_none (by show signCells.toList.length ≤ j; have : signCells.toList.length = 26 := rfl; omega)]

theorem Sg.of_var {H : Type} {enc : TypeId × Value → H} {w W : World} {base : Nat} {spare : Nat → Bool} {held : Bool} {fuel : Nat} {cs : Array Value} {p : List MemPlace}
    (hv : w.var? Tryd.prog "loop.example/g00944/impl.romanSigns" = some cs) (h : DataW.trod enc Tryd.prog W base spare held fuel 72 cs.toList = some (.agg (signs.map fun q => .agg [.lit (.string q.1), .lit (.int .i64 q.2)]), p)) : Sg w := by
  have := signs_read h
  subst this
  unfold World.var? at hv
  rw [gSigns] at hv
  simp only [Option.bind_some] at hv
  unfold Sg
  split at hv
  · rename_i cs t fr hg
    injection hv with hv
    subst hv
    exact ⟨t, fr, hg⟩
  · cases hv
end Go.Proofs.YtoanopgafihjiaaDoor
