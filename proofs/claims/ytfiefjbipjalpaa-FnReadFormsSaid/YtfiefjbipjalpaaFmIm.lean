/- The program's answer whether a form is valid. -/
import Derived.Test.YtfiefjbipjalpaaFmIs
import Derived.Test.YtfiefjbipjalpaaFoIm
namespace Go.Proofs.Ytfiefjbipjalpaa
open Go.RowKit

/-- The array of what has been seen: the numbers of s. -/
def SeenM (w : World) (g : Nat) (s : List Int) : Prop :=
  ∃ cs, w.heap[g]? = some (.cells cs 134 (0, 0)) ∧ cs.size = 128 ∧ ∀ j, j < 128 → cs[j]? = some (.bool (decide ((j : Int) ∈ s)))
theorem SeenM.at_ {w : World} {g : Nat} {s : List Int} (h : SeenM w g s) (j : Nat) (hj : j < 128) (b : Bool) (hb : decide ((j : Int) ∈ s) = b) : w.cell? ⟨g, j, none⟩ = some (.bool b) ∧ w.frozen? ⟨g, j, none⟩ = false := by
  obtain ⟨cs, hg, hs, hc⟩ := h
  subst hb
  exact ⟨by rw [cell_of_row w g j cs _ (0, 0) hg]; exact hc j hj, frozen_of_row w g j cs _ hg⟩
theorem SeenM.new_ (w : World) : SeenM (w.alloc (.cells Try.zeroCells134 134)) w.heap.size [] := by
  have hz : Try.zeroCells134 = Array.replicate 128 (.bool false) := by kernel_rfl
  rw [hz]
  exact ⟨_, heap_alloc_new w _, by simp, fun j hj => by simp [hj]⟩
theorem SeenM.drewN {w : World} {g : Nat} {s : List Int} (h : SeenM w g s) (k : Nat) : SeenM (w.drewN k) g s := h
theorem SeenM.set_ {w : World} {g : Nat} {s : List Int} (h : SeenM w g s) (i : Nat) : SeenM (w.setCell ⟨g, i, none⟩ (.bool true)) g (s ++ [(i : Int)]) := by
  obtain ⟨cs, hg, hs, hc⟩ := h
  refine ⟨cs.setIfInBounds i (.bool true), heap_setCell_same w g i cs _ _ hg, by simpa using hs, fun j hj => ?_⟩
  rw [Array.getElem?_setIfInBounds]
  by_cases e : i = j
  · subst e
    simp [hs, hj]
  · rw [if_neg e, hc j hj]
    have : ((j : Int) ∈ s ++ [(i : Int)]) ↔ ((j : Int) ∈ s) := by
      rw [List.mem_append, List.mem_singleton]
      constructor
      · rintro (h | h)
        · exact h
        · omega
      · exact .inl
    simp only [this]

set_option maxRecDepth 100000 in
set_option maxHeartbeats 4000000 in
theorem printsRun_any (a b : Int) (A1 A2 A3 : Option Addr) (n3 c1 c2 c3 g B : Nat) (F G H : List Int) (w : World) (hg : FBx w g ⟨a, b, A1, n3, c1, A2, n3, c2, A3, n3, c3⟩) (h : RF w B ⟨a, b, A1, n3, c1, A2, n3, c2, A3, n3, c3⟩ F G H) (hB : B ≤ w.heap.size)
    (N1 : 1 ≤ n3) (N64 : n3 ≤ 64) (hsh : Fo.sheet a b = true) (hN : a * b = (n3 : Int)) (hi64 : i64s F) (hi65 : i64s G) :
    Calls Try.prog 105 #[.pointer (some ⟨g, 0, none⟩)] w fun e w' => e = .returned (.bool (decide (Fm.run F G))) ∧ Below w.heap.size w w' := by
  obtain ⟨e1, e2, _⟩ := h.len
  simp only at e1 e2
  have HF := Lib.hid e1
  have HG := Lib.hid e2
  have HI : Hid (i64s (F ++ G)) := Lib.hid fun x hx => by
    rcases List.mem_append.1 hx with hx | hx
    · exact hi64 x hx
    · exact hi65 x hx
  obtain ⟨m, hm⟩ : ∃ m, Fm.lst (F ++ G) = m := ⟨_, rfl⟩
  have hne : F ++ G ≠ [] := by
    intro he
    have := congrArg List.length he
    rw [List.length_append, e1] at this
    simp at this
    omega
  have HLE : Hid (∀ x ∈ F ++ G, m ≤ x) := Lib.hid (by rw [← hm]; exact (Fm.lst_is hne).2)
  have HM := Lib.hid hm
  have hlp := leastPage_any ⟨a, b, A1, n3, c1, A2, n3, c2, A3, n3, c3⟩ g B F G H w hg h ⟨show n3 ≤ _ by omega, show n3 ≤ _ by omega, show n3 ≤ _ by omega⟩ N1 N1
  rw [hm] at hlp
  obtain ⟨W, W', ha, hb, w1, w2, w3, w4, w5, _⟩ := Fm.cells_of hsh
  have ea : IntKind.i64.wrap (2 * a) = 2 * a := IntWalk.i64_in _ (by omega)
  have eb : 2 * a * b = 2 * (n3 : Int) := by rw [Int.mul_assoc, hN]
  have ec : IntKind.i64.wrap (2 * (n3 : Int)) = 2 * (n3 : Int) := IntWalk.i64_in _ (by omega)
  have HEA := Lib.hid ea
  have HEB := Lib.hid eb
  have HEC := Lib.hid ec
  clear e1 e2 hi64 hi65 hm hne hN w5 ha hb w1 w2 w3 w4 hsh ea eb ec
  have i0 : ∀ w : World, (Instr.index 135 (.agg #[.slice A1 n3 c1, .slice A2 n3 c2]) (.int .i64 0)).run Try.prog w = .ok (.slice A1 n3 c1) w := fun _ => by kernel_rfl
  have i1 : ∀ w : World, (Instr.index 135 (.agg #[.slice A1 n3 c1, .slice A2 n3 c2]) (.int .i64 1)).run Try.prog w = .ok (.slice A2 n3 c2) w := fun _ => by kernel_rfl
  go_enter Try.func105, Try.ntmps105
  go_wp2_with fail
  refine hlp.mono ?_
  rintro e w1 ⟨rfl, hq⟩
  have hB1 := hq.below w.heap.size
  have hz1 := hq.size
  have hg1 := hg.q hq
  have hr1 := h.q hq
  have HB := Lib.hid hB1
  have HZ : Hid (w.heap.size ≤ w1.heap.size) := Lib.hid (by omega)
  clear hlp hB1 hq
  by_cases hm1 : m < 1
  · have HE : Hid (decide (Fm.run F G) = false) := Lib.hid (decide_eq_false fun hh => by have := hh.1; rw [HM.out] at this; omega)
    go_wp2_with fail
    go_ret
    exact ⟨ret_b HE.out.symm, HB.out⟩
  by_cases hm2 : 1000000000 < m
  · have HE : Hid (decide (Fm.run F G) = false) := Lib.hid (decide_eq_false fun hh => by have := hh.2.1; rw [HM.out] at this; omega)
    go_wp2_with fail
    go_ret
    exact ⟨ret_b HE.out.symm, HB.out⟩
  obtain ⟨v, hv⟩ : ∃ v, v = m + 2 * (n3 : Int) - 1 := ⟨_, rfl⟩
  have HV := Lib.hid hv
  have hBw1 : B ≤ w1.heap.size := by omega
  have RR := Lib.hid (hr1.more hBw1)
  have GLT := Lib.hid hg1.lt
  have BX := Lib.hid hg1
  have HRB := Lib.hid hr1
  have hseen0 := SeenM.new_ w1
  have HW0 : Hid (Below w1.heap.size w1 (w1.alloc (.cells Try.zeroCells134 134))) := Lib.hid (below_alloc _ _)
  obtain ⟨k0, k1, k2, k3, k4⟩ := (hg1.below HW0.out GLT.out).fcell
  simp only at k0 k1 k2 k3 k4
  clear hg h hg1 hr1 hv hz1
  go_wp2
  go_region
  go_wp2
  go_loopw [6, 8, 9, 27] (fun _ _ _ i wr => ∃ k : Nat, k ≤ 2 ∧ i = .int .i64 k ∧ Hid (runTo v ((F ++ G).take (k * n3))) ∧ Hid (Below w1.heap.size w1 wr) ∧ SeenM wr w1.heap.size (((F ++ G).take (k * n3)).map (· - m))) (fun _ _ _ i _ => 2 - (intOf i).toNat)
  case atStart => exact ⟨0, Nat.zero_le _, rfl, Lib.hid (by rw [Nat.zero_mul]; exact runTo.zero _ _), Lib.hid (HW0.out.drew), by rw [Nat.zero_mul]; exact hseen0.drewN 1⟩
  case round =>
    clear hseen0 k0 k1 k2 k3 k4
    obtain ⟨k, hk, rfl, hrun, HWb, hseen⟩ := hrel
    obtain rfl | rfl | rfl : k = 0 ∨ k = 1 ∨ k = 2 := by omega
    · -- the front
      have hRk : Rd I wr w1.heap.size A1 n3 F := (RR.out.below HWb.out (Nat.le_refl _)).r1
      skip
      obtain ⟨w5, rfl⟩ : ∃ w5, w5 = wr := ⟨_, rfl⟩
      go_wp2
      go_loopw [8, 9, 32] (fun _ _ i wr => ∃ j : Nat, j ≤ n3 ∧ i = .int .i64 j ∧ Hid (runTo v ((F ++ G).take (0 * n3 + j))) ∧ Hid (Below w1.heap.size w1 wr) ∧ SeenM wr w1.heap.size (((F ++ G).take (0 * n3 + j)).map (· - m))) (fun _ _ i _ => n3 - (intOf i).toNat)
      case atStart => exact ⟨0, Nat.zero_le _, rfl, hrun, HWb, hseen⟩
      case round =>
        clear hRk hseen HWb hrun
        obtain ⟨j, hj, rfl, hrun, HWb, hseen⟩ := hrel
        have hRk : Rd I wr w1.heap.size A1 n3 F := (RR.out.below HWb.out (Nat.le_refl _)).r1
        skip
        have hFB := (BX.out.below HWb.out (by have := GLT.out; omega)).fcell
        obtain ⟨k0, k1, k2, k3, k4⟩ := hFB
        simp only at k0 k1 k2 k3 k4
        by_cases hlt : j < n3
        · obtain ⟨bb, oo, x, hA, hbB, hx, hcx⟩ := hRk.at_ hlt
          try subst hA
          have hx' : (F ++ G)[0 * n3 + j]? = some x := by rw [List.getElem?_append_left (by rw [HF.out]; omega), Nat.zero_mul, Nat.zero_add]; exact hx
          have HX := Lib.hid hx'
          have hmx := HLE.out x (List.mem_of_getElem? hx')
          have hx64 := (HI.out x (List.mem_of_getElem? hx')).2
          have ea := HEA.out
          have eb := HEB.out
          have ec := HEC.out
          have hk128 : 0 * n3 + j < 128 := by omega
          clear hx hx' hRk
          obtain ⟨q, hq⟩ := Int.eq_ofNat_of_zero_le (show 0 ≤ x - m by omega)
          have ex : IntKind.i64.wrap (x - m) = (q : Int) := by rw [IntWalk.i64_in _ (by omega)]; exact hq
          by_cases hin : (q : Int) < 2 * (n3 : Int)
          · by_cases hmem : x ∈ (F ++ G).take (0 * n3 + j)
            · have HD := Lib.hid hmem
              obtain ⟨hc1, hf1⟩ := hseen.at_ q (by omega) true (decide_eq_true (List.mem_map.2 ⟨x, hmem, hq⟩))
              have n1 : decide (2 * (n3 : Int) ≤ (q : Int)) = false := by simp; omega
              clear hmem
              go_wp2
              go_region
              go_wp2
              go_ret
              exact ⟨ret_b (Fm.run_dup HX.out HD.out).symm, HB.out.trans ((below_drewN' HWb.out 1).mono HZ.out)⟩
            · have HD := Lib.hid hmem
              obtain ⟨hc1, hf1⟩ := hseen.at_ q (by omega) false (decide_eq_false (fun hh => hmem (by
                obtain ⟨y, hy, hyq⟩ := List.mem_map.1 hh
                obtain rfl : y = x := by omega
                exact hy)))
              have n1 : decide (2 * (n3 : Int) ≤ (q : Int)) = false := by simp; omega
              clear hmem
              go_wp2
              go_region
              go_wp2
              go_roundw
              case rel =>
                refine ⟨j + 1, by omega, by go_num, Lib.hid (hrun.out.next HX.out (by have := HV.out; omega) HD.out), Lib.hid ((below_drewN' HWb.out 1).setCell (Nat.le_refl _) _), ?_⟩
                have := (hseen.drewN 1).set_ q
                rw [← hq] at this
                rw [show 0 * n3 + (j + 1) = (0 * n3 + j) + 1 from by omega, take_next _ _ _ HX.out, List.map_append]
                exact this
              case measure => simp [intOf]; omega
          · have n1 : decide (2 * (n3 : Int) ≤ (q : Int)) = true := by simp; omega
            go_wp2
            go_region
            go_wp2
            go_ret
            exact ⟨ret_b (Fm.run_far HF.out HG.out (by rw [HM.out]; exact .inl HV.out) HX.out (by have := HV.out; omega)).symm, HB.out.trans ((below_drewN' HWb.out 1).mono HZ.out)⟩
        · obtain rfl : j = n3 := by omega
          go_wp2
          go_roundw
          case rel => exact ⟨0 + 1, by omega, by go_num, by rw [show (0 + 1) * j = 0 * j + j from by omega]; exact hrun, HWb, by rw [show (0 + 1) * j = 0 * j + j from by omega]; exact hseen⟩
          case measure => simp [intOf]
    · -- the back
      have hRk : Rd I wr w1.heap.size A2 n3 G := (RR.out.below HWb.out (Nat.le_refl _)).r2
      skip
      obtain ⟨w5, rfl⟩ : ∃ w5, w5 = wr := ⟨_, rfl⟩
      go_wp2
      go_loopw [8, 9, 32] (fun _ _ i wr => ∃ j : Nat, j ≤ n3 ∧ i = .int .i64 j ∧ Hid (runTo v ((F ++ G).take (1 * n3 + j))) ∧ Hid (Below w1.heap.size w1 wr) ∧ SeenM wr w1.heap.size (((F ++ G).take (1 * n3 + j)).map (· - m))) (fun _ _ i _ => n3 - (intOf i).toNat)
      case atStart => exact ⟨0, Nat.zero_le _, rfl, hrun, HWb, hseen⟩
      case round =>
        clear hRk hseen HWb hrun
        obtain ⟨j, hj, rfl, hrun, HWb, hseen⟩ := hrel
        have hRk : Rd I wr w1.heap.size A2 n3 G := (RR.out.below HWb.out (Nat.le_refl _)).r2
        skip
        have hFB := (BX.out.below HWb.out (by have := GLT.out; omega)).fcell
        obtain ⟨k0, k1, k2, k3, k4⟩ := hFB
        simp only at k0 k1 k2 k3 k4
        by_cases hlt : j < n3
        · obtain ⟨bb, oo, x, hA, hbB, hx, hcx⟩ := hRk.at_ hlt
          try subst hA
          have hx' : (F ++ G)[1 * n3 + j]? = some x := by rw [List.getElem?_append_right (by rw [HF.out]; omega), HF.out, show 1 * n3 + j - n3 = j from by omega]; exact hx
          have HX := Lib.hid hx'
          have hmx := HLE.out x (List.mem_of_getElem? hx')
          have hx64 := (HI.out x (List.mem_of_getElem? hx')).2
          have ea := HEA.out
          have eb := HEB.out
          have ec := HEC.out
          have hk128 : 1 * n3 + j < 128 := by omega
          clear hx hx' hRk
          obtain ⟨q, hq⟩ := Int.eq_ofNat_of_zero_le (show 0 ≤ x - m by omega)
          have ex : IntKind.i64.wrap (x - m) = (q : Int) := by rw [IntWalk.i64_in _ (by omega)]; exact hq
          by_cases hin : (q : Int) < 2 * (n3 : Int)
          · by_cases hmem : x ∈ (F ++ G).take (1 * n3 + j)
            · have HD := Lib.hid hmem
              obtain ⟨hc1, hf1⟩ := hseen.at_ q (by omega) true (decide_eq_true (List.mem_map.2 ⟨x, hmem, hq⟩))
              have n1 : decide (2 * (n3 : Int) ≤ (q : Int)) = false := by simp; omega
              clear hmem
              go_wp2
              go_region
              go_wp2
              go_ret
              exact ⟨ret_b (Fm.run_dup HX.out HD.out).symm, HB.out.trans ((below_drewN' HWb.out 1).mono HZ.out)⟩
            · have HD := Lib.hid hmem
              obtain ⟨hc1, hf1⟩ := hseen.at_ q (by omega) false (decide_eq_false (fun hh => hmem (by
                obtain ⟨y, hy, hyq⟩ := List.mem_map.1 hh
                obtain rfl : y = x := by omega
                exact hy)))
              have n1 : decide (2 * (n3 : Int) ≤ (q : Int)) = false := by simp; omega
              clear hmem
              go_wp2
              go_region
              go_wp2
              go_roundw
              case rel =>
                refine ⟨j + 1, by omega, by go_num, Lib.hid (hrun.out.next HX.out (by have := HV.out; omega) HD.out), Lib.hid ((below_drewN' HWb.out 1).setCell (Nat.le_refl _) _), ?_⟩
                have := (hseen.drewN 1).set_ q
                rw [← hq] at this
                rw [show 1 * n3 + (j + 1) = (1 * n3 + j) + 1 from by omega, take_next _ _ _ HX.out, List.map_append]
                exact this
              case measure => simp [intOf]; omega
          · have n1 : decide (2 * (n3 : Int) ≤ (q : Int)) = true := by simp; omega
            go_wp2
            go_region
            go_wp2
            go_ret
            exact ⟨ret_b (Fm.run_far HF.out HG.out (by rw [HM.out]; exact .inl HV.out) HX.out (by have := HV.out; omega)).symm, HB.out.trans ((below_drewN' HWb.out 1).mono HZ.out)⟩
        · obtain rfl : j = n3 := by omega
          go_wp2
          go_roundw
          case rel => exact ⟨1 + 1, by omega, by go_num, by rw [show (1 + 1) * j = 1 * j + j from by omega]; exact hrun, HWb, by rw [show (1 + 1) * j = 1 * j + j from by omega]; exact hseen⟩
          case measure => simp [intOf]
    · have HE : Hid (decide (Fm.run F G) = true) := Lib.hid (by
        have := Fm.run_all HF.out HG.out N1 (by rw [HM.out]; exact .inl HV.out) hrun.out
        rw [this, HM.out]
        simp
        omega)
      go_wp2
      go_ret
      exact ⟨ret_b HE.out.symm, HB.out.trans (HWb.out.mono HZ.out)⟩

set_option maxRecDepth 100000 in
set_option maxHeartbeats 4000000 in
theorem implIsForm_any (f : Fv) (B : Nat) (F G H : List Int) (w : World) (h : RF w B f F G H) (hB : B ≤ w.heap.size) (hn : f.le 1048576) (hi64 : i64s F) (hi65 : i64s G) :
    Calls Try.prog 65 #[f.v] w fun e w' => e = .returned (.bool (Fm.okB f.a f.b F G H)) ∧ Below w.heap.size w w' := by
  obtain ⟨a, b, A1, n1, c1, A2, n2, c2, A3, n3, c3⟩ := f
  obtain ⟨l1, l2, l3⟩ := hn
  simp only at l1 l2 l3 ⊢
  have hbx := FBx.new w ⟨a, b, A1, n1, c1, A2, n2, c2, A3, n3, c3⟩
  have hB0 := below_alloc w (.cells (Fv.cs ⟨a, b, A1, n1, c1, A2, n2, c2, A3, n3, c3⟩) 26)
  have hr := h.alloc hB (.cells (Fv.cs ⟨a, b, A1, n1, c1, A2, n2, c2, A3, n3, c3⟩) 26)
  obtain ⟨e1, e2, e3⟩ := h.len
  simp only at e1 e2 e3
  have HF := Lib.hid e1
  have HG := Lib.hid e2
  have HH := Lib.hid e3
  obtain ⟨k0, k1, k2, k3, k4⟩ := hbx.fcell
  simp only at k0 k1 k2 k3 k4
  have hsp : ∀ W, Calls Try.prog 104 #[.int .i64 a, .int .i64 b] W fun e w' => e = .returned (.bool (Fo.sheet a b)) ∧ W = w' := fun W => isSheet_any a b W
  have i0 : ∀ w : World, (Instr.index 112 (.agg #[.slice A1 n1 c1, .slice A2 n2 c2, .slice A3 n3 c3]) (.int .i64 0)).run Try.prog w = .ok (.slice A1 n1 c1) w := fun _ => by kernel_rfl
  have i1 : ∀ w : World, (Instr.index 112 (.agg #[.slice A1 n1 c1, .slice A2 n2 c2, .slice A3 n3 c3]) (.int .i64 1)).run Try.prog w = .ok (.slice A2 n2 c2) w := fun _ => by kernel_rfl
  have i2 : ∀ w : World, (Instr.index 112 (.agg #[.slice A1 n1 c1, .slice A2 n2 c2, .slice A3 n3 c3]) (.int .i64 2)).run Try.prog w = .ok (.slice A3 n3 c3) w := fun _ => by kernel_rfl
  clear h e1 e2 e3
  cases hsh : Fo.sheet a b
  · rw [hsh] at hsp
    have HN : Hid (Fm.okB a b F G H = false) := Lib.hid (Fm.okB_no (fun hh => by have := hh.1; rw [hsh] at this; cases this))
    clear hsh hi64 hi65
    go_enter Try.func65, Try.ntmps65
    go_wp2_with fail
    refine (hsp _).mono ?_
    rintro e _ ⟨rfl, rfl⟩
    go_wp2_with fail
    go_ret
    exact ⟨ret_b HN.out.symm, hB0⟩
  rw [hsh] at hsp
  obtain ⟨N, hN, N1, N64⟩ := Fm.cells_pos hsh
  have HN := Lib.hid hN
  have HS := Lib.hid hsh
  have HI1 := Lib.hid hi64
  have HI2 := Lib.hid hi65
  have ew : IntKind.i64.wrap (N : Int) = (N : Int) := IntWalk.i64_in _ (by omega)
  have HB0 := Lib.hid hB0
  have HBX := Lib.hid hbx
  have HR := Lib.hid hr
  clear hsh hi64 hi65 hB0 hbx hr
  go_enter Try.func65, Try.ntmps65
  go_wp2_with fail
  refine (hsp _).mono ?_
  rintro e _ ⟨rfl, rfl⟩
  go_wp2_with fail
  generalize hW0 : w.alloc (.cells (Fv.cs ⟨a, b, A1, n1, c1, A2, n2, c2, A3, n3, c3⟩) 26) = W0 at *
  have hwz : w.heap.size < W0.heap.size := by rw [← hW0]; simp
  clear hW0
  go_loopw [4, 20] (fun _ i wr => ∃ k : Nat, k ≤ 3 ∧ i = .int .i64 k ∧ Hid (W0 = wr) ∧ Hid ((1 ≤ k → n1 = N) ∧ (2 ≤ k → n2 = N) ∧ (3 ≤ k → n3 = N))) (fun _ i _ => 3 - (intOf i).toNat)
  case atStart => exact ⟨0, Nat.zero_le _, rfl, Lib.hid rfl, Lib.hid ⟨by omega, by omega, by omega⟩⟩
  case round =>
    obtain ⟨k, hk, rfl, HW, HGS⟩ := hrel
    obtain rfl := HW.out
    clear HW
    obtain rfl | rfl | rfl | rfl : k = 0 ∨ k = 1 ∨ k = 2 ∨ k = 3 := by omega
    · by_cases q1 : n1 = N
      · have t1 : ((n1 : Int) != (N : Int)) = false := by simp; omega
        have HQ := Lib.hid q1
        clear q1
        go_wp2
        go_roundw
        case rel => exact ⟨1, by omega, by go_num, Lib.hid (by trivial), Lib.hid ⟨fun _ => HQ.out, by omega, by omega⟩⟩
        case measure => simp [intOf]
      · have HE : Hid (Fm.okB a b F G H = false) := Lib.hid (Fm.okB_no (fun hh => by have := hh.2.1.1; rw [HF.out, HN.out] at this; omega))
        have t1 : ((n1 : Int) != (N : Int)) = true := by simp; omega
        have t2 : ¬ ((n1 : Int) = (N : Int)) := by omega
        go_wp2
        go_ret
        exact ⟨ret_b HE.out.symm, HB0.out⟩
    · by_cases q1 : n2 = N
      · have t1 : ((n2 : Int) != (N : Int)) = false := by simp; omega
        have HQ := Lib.hid q1
        clear q1
        go_wp2
        go_roundw
        case rel => exact ⟨2, by omega, by go_num, Lib.hid (by trivial), Lib.hid ⟨fun _ => HGS.out.1 (by omega), fun _ => HQ.out, by omega⟩⟩
        case measure => simp [intOf]
      · have HE : Hid (Fm.okB a b F G H = false) := Lib.hid (Fm.okB_no (fun hh => by have := hh.2.1.2.1; rw [HG.out, HN.out] at this; omega))
        have t1 : ((n2 : Int) != (N : Int)) = true := by simp; omega
        have t2 : ¬ ((n2 : Int) = (N : Int)) := by omega
        go_wp2
        go_ret
        exact ⟨ret_b HE.out.symm, HB0.out⟩
    · by_cases q1 : n3 = N
      · have t1 : ((n3 : Int) != (N : Int)) = false := by simp; omega
        have HQ := Lib.hid q1
        clear q1
        go_wp2
        go_roundw
        case rel => exact ⟨3, by omega, by go_num, Lib.hid (by trivial), Lib.hid ⟨fun _ => HGS.out.1 (by omega), fun _ => HGS.out.2.1 (by omega), fun _ => HQ.out⟩⟩
        case measure => simp [intOf]
      · have HE : Hid (Fm.okB a b F G H = false) := Lib.hid (Fm.okB_no (fun hh => by have := hh.2.1.2.2; rw [HH.out, HN.out] at this; omega))
        have t1 : ((n3 : Int) != (N : Int)) = true := by simp; omega
        have t2 : ¬ ((n3 : Int) = (N : Int)) := by omega
        go_wp2
        go_ret
        exact ⟨ret_b HE.out.symm, HB0.out⟩
    · obtain ⟨g1, g2, g3⟩ := HGS.out
      obtain rfl := g1 (by omega)
      obtain rfl := g2 (by omega)
      obtain rfl := g3 (by omega)
      clear g1 g2 g3 HGS i0 i1 i2 hsp
      have HO : Hid (∀ bb, Fm.bits H → decide (Fm.run F G) = bb → Fm.okB a b F G H = bb) := Lib.hid fun bb hbt hb => Fm.okB_iff HS.out (by rw [HF.out, HN.out]) (by rw [HG.out, HN.out]) (by rw [HH.out, HN.out]) hbt hb
      have hR3 := HR.out.r3
      simp only at hR3
      go_wp2
      obtain ⟨w5, rfl⟩ : ∃ w5, w5 = W0 := ⟨_, rfl⟩
      go_loopw [6, 35] (fun _ i wr => ∃ j : Nat, j ≤ n3 ∧ i = .int .i64 j ∧ Hid (w5 = wr) ∧ Hid (Fm.bits (H.take j))) (fun _ i _ => n3 - (intOf i).toNat)
      case atStart => exact ⟨0, Nat.zero_le _, rfl, Lib.hid rfl, Lib.hid (by intro x hx; simp at hx)⟩
      case round =>
        obtain ⟨j, hj, rfl, HW, HJ⟩ := hrel
        obtain rfl := HW.out
        clear HW
        by_cases hlt : j < n3
        · obtain ⟨bb, oo, x, rfl, hbB, hx, hcx⟩ := hR3.at_ hlt
          have HX := Lib.hid hx
          clear hx
          by_cases hok : x = 0 ∨ x = 1
          · have HK : Hid (Fm.bits (H.take (j + 1))) := Lib.hid (by
              rw [take_next H j x HX.out]
              intro y hy
              rcases List.mem_append.1 hy with hy | hy
              · exact HJ.out y hy
              · simp at hy; omega)
            rcases hok with rfl | rfl
            · go_wp2
              go_roundw
              case rel => exact ⟨j + 1, by omega, by go_num, Lib.hid (by trivial), HK⟩
              case measure => simp [intOf]; omega
            · go_wp2
              go_roundw
              case rel => exact ⟨j + 1, by omega, by go_num, Lib.hid (by trivial), HK⟩
              case measure => simp [intOf]; omega
          · have HE : Hid (Fm.okB a b F G H = false) := Lib.hid (Fm.okB_no (fun hh => by have := hh.2.2.1 x (List.mem_of_getElem? HX.out); omega))
            have t1 : (x != 0) = true := by simp; omega
            have t2 : (x != 1) = true := by simp; omega
            have t3 : ¬ (x = 0) := by omega
            have t4 : ¬ (x = 1) := by omega
            clear hok
            go_wp2
            go_ret
            exact ⟨ret_b HE.out.symm, HB0.out⟩
        · obtain rfl : j = n3 := by omega
          have HK : Hid (Fm.bits H) := Lib.hid (by have := HJ.out; rwa [List.take_of_length_le (by rw [HH.out]; omega)] at this)
          have hpr := printsRun_any a b A1 A2 A3 j c1 c2 c3 w.heap.size B F G H w5 HBX.out HR.out (by omega) N1 N64 HS.out HN.out HI1.out HI2.out
          rw [← HO.out _ HK.out rfl] at hpr
          go_wp2_with fail
          refine hpr.mono ?_
          rintro e w6 ⟨rfl, hb6⟩
          have HB6 := Lib.hid (HB0.out.trans (hb6.mono (by omega)))
          go_wp2_with fail
          go_ret
          exact ⟨rfl, HB6.out⟩
end Go.Proofs.Ytfiefjbipjalpaa
