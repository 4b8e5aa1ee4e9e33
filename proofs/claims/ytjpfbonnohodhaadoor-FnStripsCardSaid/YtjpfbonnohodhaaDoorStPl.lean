/- Contracts of PlaceOf, the model's and the program's: both answer plR and plC. -/
import Derived.Test.YtjpfbonnohodhaaDoorStFs
import Derived.Test.YtjpfbonnohodhaaDoorStCell
namespace Go.Proofs.YtjpfbonnohodhaaDoor
open Go.RowKit Go.Shelf
attribute [local go_sem] Oper.semAt_some

def plI (l : List UInt8) (cell : Int) : Option Nat := (St.stack l).findIdx? fun x => St.cellOf x == cell
def plR (l : List UInt8) (cell : Int) : Int := if St.foldsB l = true then (match plI l cell with | some i => (i : Int) | none => 0) else 0
def plC (l : List UInt8) (cell : Int) : Int := if St.foldsB l = true then (match plI l cell with | some _ => 0 | none => 2) else 1
theorem plI_some {l : List UInt8} {cell : Int} {k : Nat} {x : Int} (hx : (St.stack l)[k]? = some x) (hc : St.cellOf x = cell) (hno : ∀ y ∈ (St.stack l).take k, St.cellOf y ≠ cell) : plI l cell = some k := by
  unfold plI
  rw [List.findIdx?_eq_some_iff_getElem]
  obtain ⟨h, hg⟩ := List.getElem?_eq_some_iff.1 hx
  refine ⟨h, by rw [hg]; simpa using hc, fun j hj => ?_⟩
  have := hno ((St.stack l)[j]'(by omega)) (List.mem_of_getElem? (i := j) (by rw [List.getElem?_take, if_pos hj, List.getElem?_eq_getElem]))
  simpa using this
theorem plI_none {l : List UInt8} {cell : Int} (hno : ∀ y ∈ St.stack l, St.cellOf y ≠ cell) : plI l cell = none := by
  unfold plI
  rw [List.findIdx?_eq_none_iff]
  intro x hx
  simpa using hno x hx
theorem none_next {st : List Int} {cell : Int} {k : Nat} {x : Int} (hx : st[k]? = some x) (h : ∀ y ∈ st.take k, St.cellOf y ≠ cell) (hne : St.cellOf x ≠ cell) : ∀ y ∈ st.take (k + 1), St.cellOf y ≠ cell := by
  intro y hy
  rw [take_next st k x hx, List.mem_append, List.mem_singleton] at hy
  rcases hy with hy | rfl
  · exact h y hy
  · exact hne
theorem stack_sm {l : List UInt8} (hf : St.foldsB l = true) : inSm (St.stack l) := by
  intro x hx
  rw [← marks_map l hf, List.mem_map] at hx
  obtain ⟨p, _, rfl⟩ := hx
  have := mkB_small l p (St.folds_len hf)
  omega

set_option maxRecDepth 100000 in
set_option maxHeartbeats 4000000 in
theorem specPl_any (s : ByteArray) (cell : Int) (w : World) (hs : s.size ≤ 1048576) :
    Calls Tryd.prog 19 #[.string s, .int .i64 cell] w fun e w' => e = .returned (.tuple #[.int .i64 (plR s.data.toList cell), .int .i64 (plC s.data.toList cell)]) ∧ Below w.heap.size w w' := by
  by_cases hf : St.foldsB s.data.toList = true
  · have HF := Lib.hid hf
    have HSM := Lib.hid (stack_sm hf)
    have HS64 : Hid ((St.stack s.data.toList).length ≤ 64) := by
      have h1 := stack_len _ hf
      have h3 := pow_le6 (St.folds_len hf)
      exact Lib.hid (by omega)
    have HFOUND : Hid (∀ k x, (St.stack s.data.toList)[k]? = some x → St.cellOf x = cell → (∀ y ∈ (St.stack s.data.toList).take k, St.cellOf y ≠ cell) → plR s.data.toList cell = (k : Int) ∧ plC s.data.toList cell = 0) := by
      refine Lib.hid fun k x h1 h2 h3 => ?_
      unfold plR plC
      rw [if_pos hf, if_pos hf, plI_some h1 h2 h3]
      exact ⟨rfl, rfl⟩
    have HNONE : Hid ((∀ y ∈ St.stack s.data.toList, St.cellOf y ≠ cell) → plR s.data.toList cell = 0 ∧ plC s.data.toList cell = 2) := by
      refine Lib.hid fun h3 => ?_
      unfold plR plC
      rw [if_pos hf, if_pos hf, plI_none h3]
      exact ⟨rfl, rfl⟩
    generalize plR s.data.toList cell = R at HFOUND HNONE ⊢
    generalize plC s.data.toList cell = C at HFOUND HNONE ⊢
    generalize hst : St.stack s.data.toList = st at HS64 HFOUND HNONE HSM
    have HST := Lib.hid hst
    clear hst hf
    go_enter Tryd.func19, Tryd.ntmps19
    go_wp2_with fail
    refine (specIsFolds_any s _ hs).mono ?_
    rintro e _ ⟨rfl, rfl⟩
    rw [HF.out]
    go_wp2_with fail
    refine (stack_any s _ HF.out).mono ?_
    rintro e w1 ⟨A, n, c, rfl, ho, hb⟩
    rw [HST.out] at ho
    have HL : Hid (st.length = n) := ho.rd.1
    have hn : n ≤ 64 := by have := HL.out; have := HS64.out; omega
    go_wp2_with fail
    go_loopw [7] (fun i wr => ∃ k : Nat, k ≤ n ∧ i = .int .i64 (k : Int) ∧ Hid (∀ y ∈ st.take k, St.cellOf y ≠ cell) ∧ Q w1 wr) (fun i _ => n - (intOf i).toNat)
    case atStart => exact ⟨0, Nat.zero_le _, rfl, Lib.hid (by simp), Q.refl _⟩
    case round =>
      obtain ⟨k, hk, rfl, HNO, hq⟩ := hrel
      have hr := ho.rd.q hq
      have HBB := Lib.hid (hb.trans (hq.below _))
      by_cases hlt : k < n
      · obtain ⟨b, o, x, rfl, hbB, hx, hcx⟩ := hr.at_ hlt
        have hsm := HSM.out x (List.mem_of_getElem? hx)
        have HX := Lib.hid hx
        clear hx hr
        have u1 : IntKind.i64.wrap (-x) = -x := IntWalk.i64_in _ (by omega)
        have u2 : IntKind.i64.wrap (-x - 1) = -x - 1 := IntWalk.i64_in _ (by omega)
        have u3 : IntKind.i64.wrap (x - 1) = x - 1 := IntWalk.i64_in _ (by omega)
        by_cases hneg : x < 0
        · have hm : x < -x := by omega
          have HCE := Lib.hid (cell_neg hneg)
          clear hneg
          by_cases heq : -x - 1 = cell
          · subst heq
            go_wp2_with fail
            go_quiet (fail)
            go_wp2_with fail
            go_ret2
            have h := HFOUND.out k x HX.out HCE.out HNO.out
            exact ⟨by rw [h.1, h.2]; rfl, below_drewN' HBB.out _⟩
          · have n1 : ((-x - 1) == cell) = false := by simpa using heq
            go_wp2_with fail
            go_quiet (fail)
            go_wp2_with fail
            go_roundw
            case rel => exact ⟨k + 1, by omega, by go_num, Lib.hid (none_next HX.out HNO.out (by rw [HCE.out]; exact heq)), hq.more _⟩
            case measure => simp [intOf]; omega
        · have hm : ¬ x < -x := by omega
          have HCE := Lib.hid (cell_pos hneg)
          clear hneg
          by_cases heq : x - 1 = cell
          · subst heq
            go_wp2_with fail
            go_quiet (fail)
            go_wp2_with fail
            go_ret2
            have h := HFOUND.out k x HX.out HCE.out HNO.out
            exact ⟨by rw [h.1, h.2]; rfl, below_drewN' HBB.out _⟩
          · have n1 : ((x - 1) == cell) = false := by simpa using heq
            go_wp2_with fail
            go_quiet (fail)
            go_wp2_with fail
            go_roundw
            case rel => exact ⟨k + 1, by omega, by go_num, Lib.hid (none_next HX.out HNO.out (by rw [HCE.out]; exact heq)), hq.more _⟩
            case measure => simp [intOf]; omega
      · obtain rfl : k = n := by omega
        have HE : Hid (∀ y ∈ st, St.cellOf y ≠ cell) := by
          have := HNO.out
          rw [List.take_of_length_le (Nat.le_of_eq HL.out)] at this
          exact Lib.hid this
        go_wp2_with fail
        go_ret2
        exact ⟨by rw [(HNONE.out HE.out).1, (HNONE.out HE.out).2]; rfl, HBB.out⟩
  · have HR : Hid (plR s.data.toList cell = 0) := by unfold plR; rw [if_neg hf]; exact Lib.hid rfl
    have HC : Hid (plC s.data.toList cell = 1) := by unfold plC; rw [if_neg hf]; exact Lib.hid rfl
    rw [HR.out, HC.out]
    have HF : Hid (St.foldsB s.data.toList = false) := Lib.hid (by simpa using hf)
    clear hf
    go_enter Tryd.func19, Tryd.ntmps19
    go_wp2_with fail
    refine (specIsFolds_any s _ hs).mono ?_
    rintro e _ ⟨rfl, rfl⟩
    rw [HF.out]
    go_wp2_with fail
    go_ret2
    exact ⟨rfl, Below.refl _ _⟩
end Go.Proofs.YtjpfbonnohodhaaDoor
