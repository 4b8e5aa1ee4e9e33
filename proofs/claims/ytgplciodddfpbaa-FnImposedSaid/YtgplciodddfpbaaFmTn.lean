/- What TurnForm answers, and the contract of the model's TurnForm. -/
import Derived.Test.YtgplciodddfpbaaFmSh
import Derived.Deep.RegionHeld3
namespace Go.Proofs.Ytgplciodddfpbaa
open Go.RowKit

namespace Fm
/-- The heads of a sheet that is turned over: each row the other way round. -/
def tnH (w : Int) (H : List Int) : List Int := (List.range H.length).map fun i : Nat => H.getD (((i : Int) / w * w + w - 1 - (i : Int) % w).toNat) 0
theorem tnH_len (w : Int) (H : List Int) : (tnH w H).length = H.length := by simp [tnH]
theorem tnH_at {w : Int} {H : List Int} {k j : Nat} {x : Int} (hk : k < H.length) (hj : (k : Int) / w * w + w - 1 - (k : Int) % w = (j : Int)) (hx : H[j]? = some x) : (tnH w H)[k]? = some x := by
  unfold tnH
  rw [List.getElem?_map, List.getElem?_range hk]
  simp only [Option.map_some]
  rw [hj, Int.toNat_natCast, getD_at hx]
def tnR (w h : Int) (F G H : List Int) : Int × Int × List Int × List Int × List Int × Int := if okB w h F G H = true then (w, h, G, F, tnH w H, 0) else (0, 0, [], [], [], 1)
theorem tn_bad {a b C : Int} {F G H : List Int} {u0 u1 : Int} {L1 L2 L3 : List Int} (hR : tnR a b F G H = (u0, u1, L1, L2, L3, C)) (hv : okB a b F G H = false) : u0 = 0 ∧ u1 = 0 ∧ L1 = [] ∧ L2 = [] ∧ L3 = [] ∧ C = 1 := by
  unfold tnR at hR
  rw [hv, if_neg (by simp)] at hR
  obtain ⟨h1, h2, h3, h4, h5, h6⟩ := tup6 hR
  exact ⟨h1.symm, h2.symm, h3.symm, h4.symm, h5.symm, h6.symm⟩
theorem tn_good {a b C : Int} {F G H : List Int} {u0 u1 : Int} {L1 L2 L3 : List Int} (hR : tnR a b F G H = (u0, u1, L1, L2, L3, C)) (hv : okB a b F G H = true) : u0 = a ∧ u1 = b ∧ L1 = G ∧ L2 = F ∧ L3 = tnH a H ∧ C = 0 := by
  unfold tnR at hR
  rw [hv, if_pos rfl] at hR
  obtain ⟨h1, h2, h3, h4, h5, h6⟩ := tup6 hR
  exact ⟨h1.symm, h2.symm, h3.symm, h4.symm, h5.symm, h6.symm⟩
end Fm
theorem put5_keep {W : World} {g : Nat} {f : Fv} {b o : Nat} {v : Value} (hne : b ≠ g) (h : W.cell? ⟨b, o, none⟩ = some v) : (put5w W g f).cell? ⟨b, o, none⟩ = some v := by
  have k : ∀ (V : World) (q : Addr) (x : Value), q.block = g → (V.setCell q x).cell? ⟨b, o, none⟩ = V.cell? ⟨b, o, none⟩ := fun V q x hq => World.cell?_setCell_other (w := V) (v := x) (a := q) _ (fun he => hne (by rw [← hq, he]))
  exact (k _ _ _ rfl).trans ((k _ _ _ rfl).trans ((k _ _ _ rfl).trans ((k _ _ _ rfl).trans ((k _ _ _ rfl).trans h))))
theorem below_drew {w w' : World} (h : Below w.drew.heap.size w.drew w') : Below w.heap.size w w' := ⟨h.os, h.tape, h.output, h.size, h.block⟩
theorem own_drew (A : Option Addr) (n c B : Nat) (l : List Int) (w : World) (h : Rd I w B A n l) (hB : B ≤ w.heap.size) (hn : n ≤ 1048576) :
    Calls Try.prog 57 #[.slice A n c] w.drew fun e w' => ∃ A' c', e = .returned (.slice A' n c') ∧ Own I w' w.heap.size w'.heap.size 2 (.slice A' n c') l ∧ Below w.heap.size w w' :=
  (own_any A n c B l w.drew (h.drewN 1) hB hn).mono fun _ _ ⟨A', c', he, ho, hb⟩ => ⟨A', c', he, ho, below_drew hb⟩
set_option maxRecDepth 100000 in
set_option maxHeartbeats 8000000 in
theorem specTn_any (f : Fv) (a b : Int) (ha : f.a = a) (hb : f.b = b) (B : Nat) (F G H : List Int)  (u0 u1 C : Int) (L1 L2 L3 : List Int) (hR : Fm.tnR a b F G H = (u0, u1, L1, L2, L3, C)) (w : World) (h : RF w B f F G H) (hB : B ≤ w.heap.size) (hn : f.le 1048576) (hi64 : i64s F) (hi65 : i64s G) :
    Calls Try.prog 35 #[f.v] w fun e w' => SC5 w u0 u1 L1 L2 L3 C e w' := by
  obtain ⟨i0, hi0, hz0, hz1, hz2⟩ := info_parts infoI
  obtain ⟨a', b', A1, n1, c1, A2, n2, c2, A3, n3, c3⟩ := f
  simp only at ha hb
  subst ha hb
  have HR := Lib.hid hR
  have HNN := Lib.hid hn
  have HI1 := Lib.hid hi64
  have HI2 := Lib.hid hi65
  clear hR hn hi64 hi65
  go_enter Try.func35, Try.ntmps35
  go_wp2_with fail
  generalize hW : (w.alloc (.cells (Fv.cs ⟨a', b', A1, n1, c1, A2, n2, c2, A3, n3, c3⟩) 28)).alloc (.cells (Fv.cs fv0) 28) = W0
  have bF : FBx W0 w.heap.size ⟨a', b', A1, n1, c1, A2, n2, c2, A3, n3, c3⟩ := by rw [← hW]; exact (Blk.new _ _ rfl).alloc _
  have bR : FBx W0 (w.heap.size + 1) fv0 := by rw [← hW]; exact Blk.new _ _ (by simp)
  have hB0 : Below w.heap.size w W0 := by rw [← hW]; exact (below_alloc _ _).alloc (by simp) _
  have hz0' : W0.heap.size = w.heap.size + 2 := by rw [← hW]; simp
  have hr0 := h.below hB0 hB
  clear hW
  refine (specIsForm_any ⟨a', b', A1, n1, c1, A2, n2, c2, A3, n3, c3⟩ B F G H W0 hr0 (by omega) HNN.out HI1.out HI2.out).mono ?_
  rintro e w1 ⟨rfl, hb1⟩
  have z1 := hb1.size
  have hB1 := hB0.trans (hb1.mono (by omega))
  have bF1 := bF.below hb1 (by omega)
  have bR1 := bR.below hb1 (by omega)
  have hr1 := hr0.below hb1 (by omega)
  clear bF bR hB0 hr0 hb1
  simp only
  cases hok : Fm.okB a' b' F G H
  · have HE := Lib.hid hok
    clear hok
    obtain ⟨rfl, rfl, rfl, rfl, rfl, rfl⟩ := Fm.tn_bad HR.out HE.out
    have s4 := bR1.put5 fv0
    obtain ⟨x0, x1, x2, x3, x4⟩ := bR1.lcell
    simp only at x0 x1 x2 x3 x4
    obtain ⟨y0, y1, y2, y3, y4⟩ := bR1.freeF
    have HS4 := Lib.hid s4
    have HBW := Lib.hid (hB1)
    clear s4
    go_wp2_with fail
    obtain ⟨e0, e1, e2, e3, e4⟩ := HS4.out.lcell
    exact bodyPost_ret (v := .tuple #[Fv.v fv0, .int .i64 1]) (by simp [results, Try.results35, go_sem, e0, e1, e2, e3, e4]) rfl (SC5.mk_ fv0 rfl rfl (SF.zero _ w.heap.size w.heap.size) (Nat.le_refl _) (by have := HBW.out.size; simpa using this) fv0_le (below_put5 HBW.out fv0 (by omega)))
  have HOK := Lib.hid (Fm.okB_ok hok)
  obtain ⟨hu0, hu1, hL1, hL2, hL3, rfl⟩ := Fm.tn_good HR.out hok
  obtain rfl : a' = u0 := hu0.symm
  obtain rfl : b' = u1 := hu1.symm
  subst hL1 hL2
  obtain ⟨T, rfl⟩ : ∃ T, T = L3 := ⟨_, rfl⟩
  have hT := hL3.symm
  clear hL3
  obtain ⟨W, H', eW, eH, W1, W8, H1, H8, eWH, N1, N64⟩ := Fm.cells_of HOK.out.1
  obtain ⟨N, hN⟩ : ∃ N, N = W * H' := ⟨_, rfl⟩
  have hl := HOK.out.2.1
  rw [eWH, ← hN] at hl
  rw [← hN] at N1 N64 eWH
  obtain ⟨l1, l2, l3⟩ := hl
  obtain ⟨f1, f2, f3⟩ := hr1.len
  simp only at f1 f2 f3
  obtain rfl : n1 = N := by omega
  obtain rfl : n2 = n1 := by omega
  obtain rfl : n3 = n2 := by omega
  have HT := Lib.hid hT
  have HLT : Hid (T.length = n3) := Lib.hid (by rw [← hT, Fm.tnH_len, f3])
  have HLH := Lib.hid f3
  have HWH := Lib.hid hN
  have HB1 := Lib.hid hB1
  have HBF := Lib.hid bF1
  have HBR := Lib.hid bR1
  have HRR := Lib.hid hr1
  have ew : IntKind.i64.wrap (n3 : Int) = (n3 : Int) := IntWalk.i64_in _ (by omega)
  have hl0 := Own.lit0 I w1 2
  have hb2 := below_alloc w1 (.cells #[] 2)
  subst eW
  have nz : ¬ ((W : Int) = 0) := by omega
  have nzN : ¬ (W = 0) := by omega
  clear hok l1 l2 l3 f1 f2 f3 hN hB1 bF1 bR1 hr1 hT eH
  go_wp2_with fail
  generalize hV : w1.alloc (.cells #[] 2) = w2 at hl0 hb2 ⊢
  have z2 : w2.heap.size = w1.heap.size + 1 := by rw [← hV]; simp
  clear hV
  go_loopw [4, 5] (fun o i wr => ∃ (k : Nat) (A : Option Addr) (c : Nat), k ≤ n3 ∧ i = .int .i64 k ∧ o = .slice A k c ∧ Own I wr w1.heap.size wr.heap.size 2 (.slice A k c) (T.take k) ∧ Hid (Below w1.heap.size w1 wr)) (fun _ i _ => n3 - (intOf i).toNat)
  case atStart => exact ⟨0, _, _, Nat.zero_le _, rfl, rfl, by simpa using hl0.mono (Nat.le_refl _) (show _ ≤ w2.heap.size by omega), Lib.hid hb2⟩
  case round =>
    clear hl0 hb2
    obtain ⟨k, A, c, hk, rfl, rfl, ho, HB⟩ := hrel
    have hz := HB.out.size
    obtain ⟨q0, q1, q2, q3, q4⟩ := (HBF.out.below HB.out (by omega)).lcell
    simp only at q0 q1 q2 q3 q4
    by_cases hlt : k < n3
    · obtain ⟨X, Y, e1, e2, e3, e4, x1, x2, y1, y2, y3, y4⟩ := div_facts k W n3 H' W1 hlt N64 HWH.out
      obtain ⟨Z, hZ⟩ : ∃ Z, Y * (W : Int) = Z := ⟨_, rfl⟩
      rw [hZ] at y4
      have hZ0 : 0 ≤ Z := by rw [← hZ]; exact Int.mul_nonneg y1 (by omega)
      obtain ⟨j, hj⟩ := Int.eq_ofNat_of_zero_le (show 0 ≤ Z + (W : Int) - 1 - X by omega)
      have hj' : Z + (W : Int) - 1 - X = (j : Int) := hj
      have hjn : j < n3 := by
        have h1 : Y + 1 ≤ (H' : Int) := by omega
        have h2 : (Y + 1) * (W : Int) ≤ (H' : Int) * (W : Int) := Int.mul_le_mul_of_nonneg_right h1 (by omega)
        rw [Int.add_mul, Int.one_mul, hZ] at h2
        have h3 : (H' : Int) * (W : Int) = (n3 : Int) := by rw [HWH.out]; push_cast; exact Int.mul_comm _ _
        omega
      obtain ⟨bb, oo, x, hA, hbB, hx, hc⟩ := (HRR.out.below HB.out (by omega)).r3.at_ hjn
      simp only at hA
      subst hA
      have HX : Hid (T[k]? = some x) := Lib.hid (by
        rw [← HT.out]
        exact Fm.tnH_at (by rw [HLH.out]; exact hlt) (by rw [e2, e1, hZ]; exact hj') hx)
      have w1' : IntKind.i64.wrap X = X := IntWalk.i64_in _ (by omega)
      have w2' : IntKind.i64.wrap Y = Y := IntWalk.i64_in _ (by omega)
      have w3' : IntKind.i64.wrap Z = Z := IntWalk.i64_in _ (by omega)
      have w4' : IntKind.i64.wrap (Z + (W : Int)) = Z + (W : Int) := IntWalk.i64_in _ (by omega)
      have w5' : IntKind.i64.wrap (Z + (W : Int) - 1) = Z + (W : Int) - 1 := IntWalk.i64_in _ (by omega)
      have w6' : IntKind.i64.wrap (j : Int) = (j : Int) := IntWalk.i64_in _ (by omega)
      have hod : Own I wr.drew w1.heap.size wr.heap.size 2 (.slice A k c) (T.take k) := ho
      have hzz : w1.heap.size ≤ wr.drew.heap.size := hz
      clear hx hj y3 y4
      go_wp2_with fail
      go_region_held3 (fun V => V.cell? ⟨w.heap.size, 0, none⟩ = some (.int .i64 (W : Int)) ∧ V.cell? ⟨w.heap.size, 4, none⟩ = some (.slice (some ⟨bb, oo, none⟩) n3 c3) ∧ V.cell? ⟨bb, oo + j, none⟩ = some (I x))
        (first | go_keep | (refine ⟨?_, ?_, ?_⟩ <;> (first | go_keep | (rw [World.cell?_of_block (hm6.block _ (by first | omega | (simp; omega)) (.inl (by first | omega | (simp; omega))))]; first | assumption | go_keep))))
        (first
          | (refine step_push3 wr.drew rfl (.tmp 20) (.tmp 41) 26 rfl 2 i0 (.int .i64 0) 8 Try.underlying26 hi0 hz0 hz1 hz2 rfl A k c (T.take k) _ _ (by rfl) hod x (by rfl) rfl (by omega) (by omega) hzz ?_; intro A6 c6 w6 ho6 hm6 _))
      have HB6 := Lib.hid (HB.out.trans ((below_drewN' (Below.refl _ wr) 1).trans (hm6.below (Nat.le_refl _) hz)))
      go_wp2_with fail
      go_roundw
      case rel => exact ⟨k + 1, _, _, by omega, by go_num, rfl, by rw [take_next T k _ HX.out]; exact ho6, HB6.out⟩
      case measure => simp [intOf]; omega
    · obtain rfl : k = n3 := by omega
      have hT : T.take k = T := List.take_of_length_le (Nat.le_of_eq HLT.out)
      rw [hT] at ho
      clear hT
      have HO := Lib.hid ho
      have hr2 := HRR.out.below HB.out (by omega)
      obtain ⟨r1, r2, _⟩ := hr2
      simp only at r1 r2
      have HBr := Lib.hid (HBR.out.below HB.out (by omega))
      clear ho
      go_wp2_with fail
      have hne6 : w.heap.size ≠ w.heap.size + 1 := by omega
      have HC1 := own_drew A2 k c2 B L1 wr r2 (by omega) (by omega)
      have HC2 : ∀ V, Below wr.heap.size wr V → Calls Try.prog 57 #[.slice A1 k c1] V fun e w' => ∃ A' c', e = .returned (.slice A' k c') ∧ Own I w' V.heap.size w'.heap.size 2 (.slice A' k c') L2 ∧ Below V.heap.size V w' := fun V hV => own_any A1 k c1 B L2 V (r1.below hV (by omega)) (by have := hV.size; omega) (by omega)
      go_region_held3 (fun V => V.cell? ⟨w.heap.size, 0, none⟩ = some (.int .i64 (W : Int)) ∧ V.cell? ⟨w.heap.size, 1, none⟩ = some (.int .i64 b') ∧ V.cell? ⟨w.heap.size, 2, none⟩ = some (.slice A1 k c1) ∧ V.cell? ⟨w.heap.size, 3, none⟩ = some (.slice A2 k c2))
        (first | (have hS6 : w6.cell? ⟨w.heap.size, 0, none⟩ = some (.int .i64 (W : Int)) ∧ w6.cell? ⟨w.heap.size, 1, none⟩ = some (.int .i64 b') ∧ w6.cell? ⟨w.heap.size, 2, none⟩ = some (.slice A1 k c1) ∧ w6.cell? ⟨w.heap.size, 3, none⟩ = some (.slice A2 k c2) := (by assumption); (exact ⟨put5_keep (f := ⟨(W : Int), b', A5, k, c5, A6, k, c6, A, k, c⟩) hne6 hS6.1, put5_keep (f := ⟨(W : Int), b', A5, k, c5, A6, k, c6, A, k, c⟩) hne6 hS6.2.1, put5_keep (f := ⟨(W : Int), b', A5, k, c5, A6, k, c6, A, k, c⟩) hne6 hS6.2.2.1, put5_keep (f := ⟨(W : Int), b', A5, k, c5, A6, k, c6, A, k, c⟩) hne6 hS6.2.2.2⟩)) | go_keep | (refine ⟨?_, ?_, ?_, ?_⟩ <;> (first | go_keep | (rw [hbk.cell (by first | omega | (simp; omega))]; first | assumption | go_keep))))
        (first
          | (go_at_call 57; with_reducible refine (HC2 _ hbl5).mono ?_; rintro e w6 ⟨A6, c6, rfl, o6, hbk⟩; have z6 := hbk.size; have bR6 := (HBr.out.below hbl5 (by omega)).below hbk (by omega); obtain ⟨x0, x1, x2, x3, x4⟩ := bR6.lcell; simp only at x0 x1 x2 x3 x4; obtain ⟨y0, y1, y2, y3, y4⟩ := bR6.freeF; have HO6 := Lib.hid o6; have HBR6 := Lib.hid bR6; clear o6 bR6)
          | (go_at_call 57; with_reducible refine HC1.mono ?_; rintro e w5 ⟨A5, c5, rfl, o5, hbk⟩; have hbl5 := hbk; have z5 := hbl5.size; have HO5 := Lib.hid o5; clear o5))
      have HSF : Hid (SF w6 w1.heap.size w6.heap.size ⟨(W : Int), b', A5, k, c5, A6, k, c6, A, k, c⟩ L1 L2 T) := Lib.hid ⟨(HO5.out.below hbk (Nat.le_refl _)).mono hz (by omega), HO6.out.mono (by omega) (Nat.le_refl _), ((HO.out.below hbl5 (Nat.le_refl _)).below hbk (by omega)).mono (by omega) (by omega)⟩
      have HBW := Lib.hid ((HB1.out.trans (HB.out.mono (by omega))).trans ((hbl5.mono (by omega)).trans (hbk.mono (by omega))))
      have HS4 := Lib.hid (HBR6.out.put5 ⟨(W : Int), b', A5, k, c5, A6, k, c6, A, k, c⟩)
      obtain ⟨e0, e1, e2, e3, e4⟩ := HS4.out.lcell
      simp only at e0 e1 e2 e3 e4
      go_wp2_with fail
      exact bodyPost_ret (v := .tuple #[Fv.v ⟨(W : Int), b', A5, k, c5, A6, k, c6, A, k, c⟩, .int .i64 0]) (by simp [results, Try.results35, go_sem, e0, e1, e2, e3, e4]) rfl (SC5.mk_ ⟨(W : Int), b', A5, k, c5, A6, k, c6, A, k, c⟩ rfl rfl (HSF.out.put5 ⟨(W : Int), b', A5, k, c5, A6, k, c6, A, k, c⟩ (.inl (by omega))) (by omega) (by simp) ⟨show k ≤ _ by omega, show k ≤ _ by omega, show k ≤ _ by omega⟩ (below_put5 HBW.out ⟨(W : Int), b', A5, k, c5, A6, k, c6, A, k, c⟩ (by omega)))
end Go.Proofs.Ytgplciodddfpbaa
