/- The contract of SchemesFor, the model's. -/
import Derived.Test.YtfiefjbipjalpaaFmSs
import Derived.Test.YtfiefjbipjalpaaFoSo
import Derived.Test.YtfiefjbipjalpaaRfFn
import Derived.Deep.RegionHeld3
namespace Go.Proofs.Ytfiefjbipjalpaa
open Go.RowKit

namespace Fm
def sfR (a b : Int) (F G H : List Int) : List (List UInt8) := if okB a b F G H = true then (soR a b).filter (fun s => right a F G H s) else []
def sfC (a b : Int) (F G H : List Int) : Int := if okB a b F G H = true then 0 else 1
end Fm
theorem so_sheet {a b : Int} (h : soC a b = 0) : Fo.sheet a b = true ∧ soR a b = Fo.sch [] (Fo.pw a) (Fo.pw b) := by
  unfold soC at h
  by_cases hs : Fo.sheet a b = true
  · exact ⟨hs, by unfold soR; rw [if_pos hs]⟩
  · rw [if_neg hs] at h
    exact absurd h (by omega)
theorem so_scheme {a b : Int} (h : soC a b = 0) {k : Nat} {x : List UInt8} (hx : (soR a b)[k]? = some x) : Fo.scheme a b x = true ∧ x.length ≤ 6 := by
  obtain ⟨hs, e⟩ := so_sheet h
  rw [e] at hx
  have := Fo.sch_scheme hs (List.mem_of_getElem? hx)
  exact ⟨this, (Fo.scheme_len this).1⟩
theorem infoSt : (Try.prog.info? 9).map (fun i => (i.zero, i.size, i.bytes)) = some (some (.string ⟨#[]⟩), 1, 16) := by kernel_rfl
theorem filter_next {α : Type} (p : α → Bool) (l : List α) (k : Nat) (x : α) (hx : l[k]? = some x) : (l.take (k + 1)).filter p = (l.take k).filter p ++ (if p x = true then [x] else []) := by
  have h1 := (List.getElem?_eq_some_iff.1 hx)
  rw [List.take_add_one, hx, List.filter_append]
  simp only [Option.toList_some, List.filter_cons, List.filter_nil]
set_option maxRecDepth 100000 in
set_option maxHeartbeats 8000000 in
theorem specSf_any (f : Fv) (a b : Int) (ha : f.a = a) (hb : f.b = b) (B : Nat) (F G H : List Int) (w : World) (h : RF w B f F G H) (hB : B ≤ w.heap.size) (hn : f.le 1048576) (hi64 : i64s F) (hi65 : i64s G) :
    Calls Try.prog 23 #[f.v] w fun e w' => SC w (Fm.sfR a b F G H) (Fm.sfC a b F G H) e w' := by
  obtain ⟨i0, hi0, hz0, hz1, hz2⟩ := info_parts infoSt
  obtain ⟨a', b', A1, n1, c1, A2, n2, c2, A3, n3, c3⟩ := f
  simp only at ha hb
  subst ha hb
  have HNN := Lib.hid hn
  have HI1 := Lib.hid hi64
  have HI2 := Lib.hid hi65
  clear hn hi64 hi65
  go_enter Try.func23, Try.ntmps23
  go_wp2_with fail
  generalize hW : w.alloc (.cells (Fv.cs ⟨a', b', A1, n1, c1, A2, n2, c2, A3, n3, c3⟩) 26) = W0
  have bF : FBx W0 w.heap.size ⟨a', b', A1, n1, c1, A2, n2, c2, A3, n3, c3⟩ := by rw [← hW]; exact Blk.new _ _ rfl
  have hB0 : Below w.heap.size w W0 := by rw [← hW]; exact below_alloc _ _
  have hz0' : W0.heap.size = w.heap.size + 1 := by rw [← hW]; simp
  have hr0 := h.below hB0 hB
  clear hW
  refine (specIsForm_any ⟨a', b', A1, n1, c1, A2, n2, c2, A3, n3, c3⟩ B F G H W0 hr0 (by omega) HNN.out HI1.out HI2.out).mono ?_
  rintro e w1 ⟨rfl, hb1⟩
  have z1 := hb1.size
  have hB1 := hB0.trans (hb1.mono (by omega))
  have bF1 := bF.below hb1 (by omega)
  have hr1 := hr0.below hb1 (by omega)
  clear bF hB0 hr0 hb1
  simp only
  cases hok : Fm.okB a' b' F G H
  · have HR : Hid (Fm.sfR a' b' F G H = []) := Lib.hid (by unfold Fm.sfR; rw [if_neg (by rw [hok]; simp)])
    have HC : Hid (Fm.sfC a' b' F G H = 1) := Lib.hid (by unfold Fm.sfC; rw [if_neg (by rw [hok]; simp)])
    clear hok
    go_wp2_with fail
    exact bodyPost_ret (v := .tuple #[.slice none 0 0, .int .i64 1]) (by simp [results, Try.results23, go_sem]) rfl (SC.nil_ HR.out HC.out hB1)
  have HOK := Lib.hid (Fm.okB_ok hok)
  have HS : Hid (Fo.sheet a' b' = true) := Lib.hid HOK.out.1
  have HSO : Hid (soC a' b' = 0) := Lib.hid (by unfold soC; rw [if_pos HS.out])
  have HSR : Hid (soR a' b' = Fo.sch [] (Fo.pw a') (Fo.pw b')) := Lib.hid (by unfold soR; rw [if_pos HS.out])
  have HR : Hid (Fm.sfR a' b' F G H = (soR a' b').filter (fun s => Fm.right a' F G H s)) := Lib.hid (by unfold Fm.sfR; rw [if_pos hok])
  have HC : Hid (Fm.sfC a' b' F G H = 0) := Lib.hid (by unfold Fm.sfC; rw [if_pos hok])
  have HRR := Lib.hid hr1
  obtain ⟨q0, q1, q2, q3, q4⟩ := bF1.lcell
  simp only at q0 q1 q2 q3 q4
  clear hok hr1
  go_wp2_with fail
  refine (specAll_any a' b' w1 HS.out).mono ?_
  rintro e w2 ⟨AL, m, cL, rfl, oL, hm, hb2⟩
  have z2 := hb2.size
  rw [← HSR.out] at oL
  obtain ⟨LL, hLL⟩ : ∃ LL, soR a' b' = LL := ⟨_, rfl⟩
  rw [hLL] at oL
  have HLL := Lib.hid hLL
  have hml : Hid (LL.length = m) := Lib.hid oL.rd.1
  have bF2 := bF1.below hb2 (by omega)
  have HBF := Lib.hid bF2
  have HR2 := Lib.hid (HRR.out.below hb2 (by omega))
  have HB2 := Lib.hid (hB1.trans (hb2.mono (by omega)))
  have HOL := Lib.hid oL
  have hl0 := Own.lit0 Tv w2 9
  have hb3 := below_alloc w2 (.cells #[] 9)
  clear q0 q1 q2 q3 q4 bF1 bF2 hB1 hb2 oL hLL
  go_wp2_with fail
  generalize hV : w2.alloc (.cells #[] 9) = w3 at hl0 hb3 ⊢
  have z3 : w3.heap.size = w2.heap.size + 1 := by rw [← hV]; simp
  clear hV
  go_loopw [5, 6] (fun o i wr => ∃ (k j : Nat) (A : Option Addr) (c : Nat), k ≤ m ∧ j ≤ k ∧ i = .int .i64 k ∧ o = .slice A j c ∧ Own Tv wr w2.heap.size wr.heap.size 9 (.slice A j c) ((LL.take k).filter (fun s => Fm.right a' F G H s)) ∧ Hid (Below w2.heap.size w2 wr)) (fun _ i _ => m - (intOf i).toNat)
  case atStart => exact ⟨0, 0, _, _, Nat.zero_le _, Nat.zero_le _, rfl, rfl, by simpa using hl0.mono (Nat.le_refl _) (show _ ≤ w3.heap.size by omega), Lib.hid hb3⟩
  case round =>
    clear hl0 hb3
    obtain ⟨k, j, A, c, hk, hjk, rfl, rfl, ho, HB⟩ := hrel
    have hz := HB.out.size
    by_cases hlt : k < m
    · obtain ⟨bb, oo, x, rfl, hbB, hx, hc⟩ := (HOL.out.rd.below HB.out (by omega)).at_ hlt
      have hsc := (so_scheme HSO.out (by rw [HLL.out]; exact hx)).1
      obtain ⟨t, ht⟩ : ∃ t : ByteArray, (⟨x.toArray⟩ : ByteArray) = t := ⟨_, rfl⟩
      have htl : t.data.toList = x := by rw [← ht]
      have hsc' : Fo.scheme a' b' t.data.toList = true := by rw [htl]; exact hsc
      obtain ⟨r, hr⟩ : ∃ r, Fm.right a' F G H x = r := ⟨_, rfl⟩
      have hr' : Fm.right a' F G H t.data.toList = r := by rw [htl]; exact hr
      have HNX := Lib.hid (filter_next (fun s => Fm.right a' F G H s) LL k x hx)
      have hcr : ∀ V, Below wr.heap.size wr V → Calls Try.prog 63 #[Fv.v ⟨a', b', A1, n1, c1, A2, n2, c2, A3, n3, c3⟩, .string t] V fun e w' => e = .returned (.bool r) ∧ Below V.heap.size V w' := fun V hV => l05Right_any ⟨a', b', A1, n1, c1, A2, n2, c2, A3, n3, c3⟩ B F G H t r V ((HR2.out.below HB.out (by omega)).below hV (by omega)) (by have := hV.size; omega) HOK.out hsc' hr'
      have hc' : wr.cell? ⟨bb, oo + k, none⟩ = some (.string t) := by rw [hc, ← ht]
      have HRT : Hid (Fm.right a' F G H x = r) := Lib.hid hr
      have HXT : Hid ((⟨x.toArray⟩ : ByteArray) = t) := Lib.hid ht
      have bE := HBF.out.below HB.out (by omega)
      have hno : ∀ V, Below wr.heap.size wr V → V.cell? ⟨w.heap.size, 0, none⟩ = some (.int .i64 a') ∧ V.cell? ⟨w.heap.size, 1, none⟩ = some (.int .i64 b') ∧ V.cell? ⟨w.heap.size, 2, none⟩ = some (.slice A1 n1 c1) ∧ V.cell? ⟨w.heap.size, 3, none⟩ = some (.slice A2 n2 c2) ∧ V.cell? ⟨w.heap.size, 4, none⟩ = some (.slice A3 n3 c3) ∧ V.cell? ⟨bb, oo + k, none⟩ = some (.string t) := fun V hV => by
        have h5 := (bE.below hV (by omega)).lcell
        exact ⟨h5.k0, h5.k1, h5.k2, h5.k3, h5.k4, (hV.cell (p := ⟨bb, oo + k, none⟩) (by show bb < _; omega)).trans hc'⟩
      have hv0 : Below wr.heap.size wr wr.drew := below_drewN' (Below.refl _ _) 1
      have hS0 := hno _ hv0
      have hkm : (k : Int) < (m : Int) := by omega
      clear hx hc hsc ht htl hsc' hr hr'
      go_wp2_with fail
      go_region_held3 (fun V => V.cell? ⟨w.heap.size, 0, none⟩ = some (.int .i64 a') ∧ V.cell? ⟨w.heap.size, 1, none⟩ = some (.int .i64 b') ∧ V.cell? ⟨w.heap.size, 2, none⟩ = some (.slice A1 n1 c1) ∧ V.cell? ⟨w.heap.size, 3, none⟩ = some (.slice A2 n2 c2) ∧ V.cell? ⟨w.heap.size, 4, none⟩ = some (.slice A3 n3 c3) ∧ V.cell? ⟨bb, oo + k, none⟩ = some (.string t))
        (first | with_reducible exact hS0 | with_reducible exact hS1)
        (first
          | (go_at_call 63; with_reducible refine (hcr _ hv0).mono ?_; rintro e v1 ⟨rfl, hb1⟩; have hv1 := hv0.trans (hb1.mono hv0.size); have hS1 := hno _ hv1))
      have hzz := hv1.size
      have ho1 := (ho.below hv1 (Nat.le_refl _)).mono (Nat.le_refl _) hzz
      have HB5 := Lib.hid (HB.out.trans (hv1.mono (by omega)))
      clear hno hcr hS0 hS1 hv0 hb1
      cases r
      · have HN2 : Hid ((LL.take (k + 1)).filter (fun s => Fm.right a' F G H s) = (LL.take k).filter (fun s => Fm.right a' F G H s)) := Lib.hid (by rw [HNX.out, HRT.out]; simp)
        go_wp2_with fail
        go_roundw
        case rel => exact ⟨k + 1, j, A, c, by omega, by omega, by go_num, rfl, by rw [HN2.out]; exact ho1, HB5⟩
        case measure => simp [intOf]; omega
      · have HN2 : Hid ((LL.take (k + 1)).filter (fun s => Fm.right a' F G H s) = (LL.take k).filter (fun s => Fm.right a' F G H s) ++ [x]) := Lib.hid (by rw [HNX.out, HRT.out]; simp)
        go_wp2_with (at_builtin; rw [← HXT.out]; (refine wp_push (enc := Tv) _ rfl _ _ 34 rfl 9 i0 _ 16 Try.underlying34 hi0 hz0 hz1 hz2 rfl A j c _ _ _ rfl ho1 x rfl rfl (by omega) (by omega) (by omega) ?_); intro A5 c5 w5 ho5 hm5)
        have HB6 := Lib.hid (HB5.out.trans (hm5.below (Nat.le_refl _) (by omega)))
        go_roundw
        case rel => exact ⟨k + 1, j + 1, A5, c5, by omega, by omega, by go_num, rfl, by rw [HN2.out]; exact ho5, HB6⟩
        case measure => simp [intOf]; omega
    · obtain rfl : k = m := by omega
      have hT : LL.take k = LL := List.take_of_length_le (Nat.le_of_eq hml.out)
      rw [hT] at ho
      clear hT
      go_wp2_with fail
      exact bodyPost_ret (v := .tuple #[.slice A j c, .int .i64 0]) (by simp [results, Try.results23, go_sem]) rfl (SC.mk_ (by rw [HR.out, HLL.out]) HC.out ho (by omega) (Nat.le_refl _) (by omega) (HB2.out.trans (HB.out.mono (by omega))))
end Go.Proofs.Ytfiefjbipjalpaa
