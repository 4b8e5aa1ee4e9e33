/- Contracts of ShiftForm, the model's and the program's. -/
import Derived.Test.YtgplciodddfpbaaFmCp
namespace Go.Proofs.Ytgplciodddfpbaa
open Go.RowKit

theorem sizeI : (Try.prog.info? 2).map (·.size) = some 1 := by kernel_rfl
def smallL (L : List Int) : Prop := ∀ x ∈ L, -4000000000 ≤ x ∧ x ≤ 4000000000
set_option maxHeartbeats 1000000 in
theorem shift_any (A : Option Addr) (n c B : Nat) (y : Int) (L : List Int) (w : World) (h : Rd I w B A n L) (hB : B ≤ w.heap.size) (hn : n ≤ 1048576) (hs : smallL L) (hy : -1000000000 ≤ y ∧ y ≤ 1000000000) (L' : List Int) (hL : L.map (· + y) = L') :
    Calls Try.prog 56 #[.slice A n c, .int .i64 y] w fun e w' => ∃ A' c', e = .returned (.slice A' n c') ∧ Own I w' w.heap.size w'.heap.size 2 (.slice A' n c') L' ∧ Below w.heap.size w w' := by
  obtain ⟨i0, hi0, hz0, hz1, hz2⟩ := info_parts infoI
  have HL := Lib.hid h.1
  have HS := Lib.hid hs
  have HP := Lib.hid hL
  have hl0 := Own.lit0 I w 2
  have hb0 := below_alloc w (.cells #[] 2)
  obtain ⟨y1, y2⟩ := hy
  clear hs hL
  go_enter Try.func56, Try.ntmps56
  go_wp2_with fail
  go_loopw [5, 6] (fun o i wr => ∃ (k : Nat) (A' : Option Addr) (c' : Nat), k ≤ n ∧ i = .int .i64 k ∧ o = .slice A' k c' ∧ Own I wr w.heap.size wr.heap.size 2 (.slice A' k c') (L'.take k) ∧ Hid (Below w.heap.size w wr)) (fun _ i _ => n - (intOf i).toNat)
  case atStart => exact ⟨0, _, _, Nat.zero_le _, rfl, rfl, by simpa using hl0, Lib.hid hb0⟩
  case round =>
    clear hl0 hb0
    obtain ⟨k, A', c', hk, rfl, rfl, ho, HB⟩ := hrel
    have hz := HB.out.size
    by_cases hlt : k < n
    · obtain ⟨b, o, x, rfl, hbB, hx, hc⟩ := (h.below HB.out hB).at_ hlt
      have hxs := HS.out x (List.mem_of_getElem? hx)
      have HX : Hid (L'[k]? = some (x + y)) := Lib.hid (by rw [← HP.out, List.getElem?_map, hx]; rfl)
      have e1 : IntKind.i64.wrap (x + y) = x + y := IntWalk.i64_in _ (by omega)
      clear hx
      go_wp2_with (at_builtin; refine wp_push (enc := I) _ rfl _ _ 26 rfl 2 i0 _ 8 Try.underlying26 hi0 hz0 hz1 hz2 rfl A' k c' _ _ _ rfl ho (x + y) rfl rfl (by omega) (by omega) (by omega) ?_; intro A5 c5 w5 ho5 hm5)
      have HB5 := Lib.hid (HB.out.trans (hm5.below (Nat.le_refl _) hz))
      go_roundw
      case rel => exact ⟨k + 1, _, _, by omega, by go_num, rfl, by rw [take_next L' k _ HX.out]; exact ho5, HB5.out⟩
      case measure => simp [intOf]; omega
    · obtain rfl : k = n := by omega
      have hlen : L'.length = k := by rw [← HP.out, List.length_map, HL.out]
      rw [List.take_of_length_le (Nat.le_of_eq hlen)] at ho
      clear hlen
      go_wp2
      go_ret
      exact ⟨_, _, rfl, ho, HB.out⟩
theorem Fm.small_of {a b : Int} {F G H : List Int} (h : Fm.ok a b F G H) : smallL F ∧ smallL G :=
  ⟨fun x hx => by have := Fm.ok_small h (List.mem_append_left G hx); omega, fun x hx => by have := Fm.ok_small h (List.mem_append_right F hx); omega⟩
theorem i64s_map {L : List Int} {y : Int} (h : smallL L) (hy : -1000000000 ≤ y ∧ y ≤ 1000000000) : i64s (L.map (· + y)) := by
  intro x hx
  obtain ⟨z, hz, rfl⟩ := List.mem_map.1 hx
  have := h z hz
  omega
theorem tup6 {a b : Int} {F G H : List Int} {c : Int} {a' b' : Int} {F' G' H' : List Int} {c' : Int} (h : (a, b, F, G, H, c) = (a', b', F', G', H', c')) : a = a' ∧ b = b' ∧ F = F' ∧ G = G' ∧ H = H' ∧ c = c' := by
  injection h with h1 h
  injection h with h2 h
  injection h with h3 h
  injection h with h4 h
  injection h with h5 h6
  exact ⟨h1, h2, h3, h4, h5, h6⟩
/-- The empty answer with a code. -/
theorem Fm.sh_bad {a b y C : Int} {F G H : List Int} {u0 u1 v : Int} {L1 L2 L3 : List Int} (hR : Fm.shR a b F G H y = (u0, u1, L1, L2, L3, C)) (hv : Fm.shC a b F G H y = v) (h0 : v ≠ 0) : u0 = 0 ∧ u1 = 0 ∧ L1 = [] ∧ L2 = [] ∧ L3 = [] ∧ C = v := by
  unfold Fm.shR at hR
  rw [hv, if_neg h0] at hR
  obtain ⟨h1, h2, h3, h4, h5, h6⟩ := tup6 hR
  exact ⟨h1.symm, h2.symm, h3.symm, h4.symm, h5.symm, h6.symm⟩
theorem Fm.sh_good {a b y C : Int} {F G H : List Int} {u0 u1 : Int} {L1 L2 L3 : List Int} (hR : Fm.shR a b F G H y = (u0, u1, L1, L2, L3, C)) (hv : Fm.shC a b F G H y = 0) : u0 = a ∧ u1 = b ∧ L1 = F.map (· + y) ∧ L2 = G.map (· + y) ∧ L3 = H ∧ C = 0 := by
  unfold Fm.shR at hR
  rw [hv, if_pos rfl] at hR
  obtain ⟨h1, h2, h3, h4, h5, h6⟩ := tup6 hR
  exact ⟨h1.symm, h2.symm, h3.symm, h4.symm, h5.symm, h6.symm⟩

set_option maxRecDepth 100000 in
set_option maxHeartbeats 2000000 in
theorem implSh_any (f : Fv) (a b : Int) (ha : f.a = a) (hb : f.b = b) (B : Nat) (F G H : List Int) (y : Int) (u0 u1 C : Int) (L1 L2 L3 : List Int) (hR : Fm.shR a b F G H y = (u0, u1, L1, L2, L3, C)) (w : World) (h : RF w B f F G H) (hB : B ≤ w.heap.size) (hn : f.le 1048576) (hi64 : i64s F) (hi65 : i64s G) :
    Calls Try.prog 14 #[f.v, .int .i64 y] w fun e w' => FC w u0 u1 L1 L2 L3 C e w' := by
  obtain ⟨i0, hi0, hz0, hz1, hz2⟩ := info_parts infoI
  obtain ⟨a', b', A1, n1, c1, A2, n2, c2, A3, n3, c3⟩ := f
  simp only at ha hb
  subst ha hb
  have HR := Lib.hid hR
  have HNN := Lib.hid hn
  have HI1 := Lib.hid hi64
  have HI2 := Lib.hid hi65
  clear hR hn hi64 hi65
  go_enter Try.func14, Try.ntmps14
  go_wp2_with fail
  generalize hW : (w.alloc (.cells (Fv.cs ⟨a', b', A1, n1, c1, A2, n2, c2, A3, n3, c3⟩) 28)).alloc (.cells (Fv.cs fv0) 28) = W0
  have bF : FBx W0 w.heap.size ⟨a', b', A1, n1, c1, A2, n2, c2, A3, n3, c3⟩ := by rw [← hW]; exact (Blk.new _ _ rfl).alloc _
  have bR : FBx W0 (w.heap.size + 1) fv0 := by rw [← hW]; exact Blk.new _ _ (by simp)
  have hB0 : Below w.heap.size w W0 := by rw [← hW]; exact (below_alloc _ _).alloc (by simp) _
  have hz0' : W0.heap.size = w.heap.size + 2 := by rw [← hW]; simp
  have hr0 := h.below hB0 hB
  clear hW
  refine (implIsForm_any ⟨a', b', A1, n1, c1, A2, n2, c2, A3, n3, c3⟩ B F G H W0 hr0 (by omega) HNN.out HI1.out HI2.out).mono ?_
  rintro e w1 ⟨rfl, hb1⟩
  have z1 := hb1.size
  have hB1 := hB0.trans (hb1.mono (by omega))
  have bF1 := bF.below hb1 (by omega)
  have bR1 := bR.below hb1 (by omega)
  have hr1 := hr0.below hb1 (by omega)
  clear bF bR hB0 hr0 hb1
  simp only
  cases hok : Fm.okB a' b' F G H
  · have HE : Hid (Fm.shC a' b' F G H y = 1) := Lib.hid (by unfold Fm.shC; rw [if_neg (by rw [hok]; simp)])
    clear hok
    obtain ⟨rfl, rfl, rfl, rfl, rfl, rfl⟩ := Fm.sh_bad HR.out HE.out (by decide)
    have s4 := bR1.put5 fv0
    obtain ⟨x0, x1, x2, x3, x4⟩ := bR1.lcell
    simp only at x0 x1 x2 x3 x4
    obtain ⟨y0, y1, y2, y3, y4⟩ := bR1.freeF
    have HS4 := Lib.hid s4
    have HBW := Lib.hid (hB1)
    clear s4
    go_wp2_with fail
    obtain ⟨e0, e1, e2, e3, e4⟩ := HS4.out.lcell
    exact bodyPost_ret (v := .tuple #[Fv.v fv0, .int .i64 1]) (by simp [results, Try.results14, go_sem, e0, e1, e2, e3, e4]) rfl (FC.mk_ fv0 rfl rfl (OF.zero _ _ _ (Nat.le_refl _)) (Nat.le_refl _) (by have := HBW.out.size; simpa using this) fv0_le (below_put5 HBW.out fv0 (by omega)))
  have HOK := Lib.hid (Fm.okB_ok hok)
  by_cases hy : -1000000000 ≤ y ∧ y ≤ 1000000000
  rotate_left
  · have HE : Hid (Fm.shC a' b' F G H y = 2) := Lib.hid (by unfold Fm.shC; rw [if_pos hok, if_neg hy])
    by_cases hy1 : y < -1000000000
    · clear hok hy
      obtain ⟨rfl, rfl, rfl, rfl, rfl, rfl⟩ := Fm.sh_bad HR.out HE.out (by decide)
      have s4 := bR1.put5 fv0
      obtain ⟨x0, x1, x2, x3, x4⟩ := bR1.lcell
      simp only at x0 x1 x2 x3 x4
      obtain ⟨y0, y1, y2, y3, y4⟩ := bR1.freeF
      have HS4 := Lib.hid s4
      have HBW := Lib.hid (hB1)
      clear s4
      go_wp2_with fail
      obtain ⟨e0, e1, e2, e3, e4⟩ := HS4.out.lcell
      exact bodyPost_ret (v := .tuple #[Fv.v fv0, .int .i64 2]) (by simp [results, Try.results14, go_sem, e0, e1, e2, e3, e4]) rfl (FC.mk_ fv0 rfl rfl (OF.zero _ _ _ (Nat.le_refl _)) (Nat.le_refl _) (by have := HBW.out.size; simpa using this) fv0_le (below_put5 HBW.out fv0 (by omega)))
    · have hy2 : 1000000000 < y := by omega
      clear hok hy
      obtain ⟨rfl, rfl, rfl, rfl, rfl, rfl⟩ := Fm.sh_bad HR.out HE.out (by decide)
      have s4 := bR1.put5 fv0
      obtain ⟨x0, x1, x2, x3, x4⟩ := bR1.lcell
      simp only at x0 x1 x2 x3 x4
      obtain ⟨y0, y1, y2, y3, y4⟩ := bR1.freeF
      have HS4 := Lib.hid s4
      have HBW := Lib.hid (hB1)
      clear s4
      go_wp2_with fail
      obtain ⟨e0, e1, e2, e3, e4⟩ := HS4.out.lcell
      exact bodyPost_ret (v := .tuple #[Fv.v fv0, .int .i64 2]) (by simp [results, Try.results14, go_sem, e0, e1, e2, e3, e4]) rfl (FC.mk_ fv0 rfl rfl (OF.zero _ _ _ (Nat.le_refl _)) (Nat.le_refl _) (by have := HBW.out.size; simpa using this) fv0_le (below_put5 HBW.out fv0 (by omega)))
  obtain ⟨N, hN, N1, N64⟩ := Fm.cells_pos HOK.out.1
  obtain ⟨l1, l2, l3⟩ := HOK.out.2.1
  obtain ⟨f1, f2, f3⟩ := hr1.len
  rw [hN] at l1 l2 l3
  simp only at f1 f2 f3
  obtain rfl : n1 = N := by omega
  obtain rfl : n2 = n1 := by omega
  obtain rfl : n3 = n2 := by omega
  obtain ⟨F', hF'⟩ : ∃ F', F.map (· + y) = F' := ⟨_, rfl⟩
  obtain ⟨G', hG'⟩ : ∃ G', G.map (· + y) = G' := ⟨_, rfl⟩
  have hsm := Fm.small_of HOK.out
  have HI3 : Hid (i64s F') := Lib.hid (by rw [← hF']; exact i64s_map hsm.1 hy)
  have HI4 : Hid (i64s G') := Lib.hid (by rw [← hG']; exact i64s_map hsm.2 hy)
  have HSM := Lib.hid hsm
  have HE : Hid (Fm.shC a' b' F G H y = if Fm.okB a' b' F' G' H = true then 0 else 3) := Lib.hid (by unfold Fm.shC; rw [if_pos hok, if_pos hy, hF', hG'])
  have HF' := Lib.hid hF'
  have HG' := Lib.hid hG'
  have HLF : Hid (F'.length = n3) := Lib.hid (by rw [← hF', List.length_map, f1])
  have HLG : Hid (G'.length = n3) := Lib.hid (by rw [← hG', List.length_map, f2])
  have HN := Lib.hid hN
  have HB1 := Lib.hid hB1
  have HBF := Lib.hid bF1
  have HBR := Lib.hid bR1
  have HRR := Lib.hid hr1
  obtain ⟨y1, y2⟩ := hy
  obtain ⟨q0, q1, q2, q3, q4⟩ := bF1.lcell
  simp only at q0 q1 q2 q3 q4
  clear hok l1 l2 l3 f1 f2 f3 hsm hF' hG' hN hB1 bF1 bR1 hr1
  go_wp2_with fail
  refine (emptyForm_any a' b' n3 _ HN.out N64).mono ?_
  rintro e w2 ⟨g1, g2, g3, rfl, oE, hb2⟩
  have z2 := hb2.size
  obtain ⟨⟨m1, m2, s1, s2, s3, o1, o2, o3⟩⟩ := oE
  simp only at o1 o2 o3
  have bE := FBx.new w2 ⟨a', b', some ⟨g1, 0, none⟩, n3, n3, some ⟨g2, 0, none⟩, n3, n3, some ⟨g3, 0, none⟩, n3, n3⟩
  have bF2 := (HBF.out.below hb2 (by omega)).alloc (.cells (Fv.cs ⟨a', b', some ⟨g1, 0, none⟩, n3, n3, some ⟨g2, 0, none⟩, n3, n3, some ⟨g3, 0, none⟩, n3, n3⟩) 28)
  have bR2 := (HBR.out.below hb2 (by omega)).alloc (.cells (Fv.cs ⟨a', b', some ⟨g1, 0, none⟩, n3, n3, some ⟨g2, 0, none⟩, n3, n3, some ⟨g3, 0, none⟩, n3, n3⟩) 28)
  have hr2 := (HRR.out.below hb2 (by omega)).alloc (by omega) (.cells (Fv.cs ⟨a', b', some ⟨g1, 0, none⟩, n3, n3, some ⟨g2, 0, none⟩, n3, n3, some ⟨g3, 0, none⟩, n3, n3⟩) 28)
  have o1a := o1.alloc (.cells (Fv.cs ⟨a', b', some ⟨g1, 0, none⟩, n3, n3, some ⟨g2, 0, none⟩, n3, n3, some ⟨g3, 0, none⟩, n3, n3⟩) 28)
  have o2a := o2.alloc (.cells (Fv.cs ⟨a', b', some ⟨g1, 0, none⟩, n3, n3, some ⟨g2, 0, none⟩, n3, n3, some ⟨g3, 0, none⟩, n3, n3⟩) 28)
  have o3a := o3.alloc (.cells (Fv.cs ⟨a', b', some ⟨g1, 0, none⟩, n3, n3, some ⟨g2, 0, none⟩, n3, n3, some ⟨g3, 0, none⟩, n3, n3⟩) 28)
  have hB2 := (HB1.out.trans (hb2.mono (by omega))).alloc (by omega) (.cells (Fv.cs ⟨a', b', some ⟨g1, 0, none⟩, n3, n3, some ⟨g2, 0, none⟩, n3, n3, some ⟨g3, 0, none⟩, n3, n3⟩) 28)
  clear q0 q1 q2 q3 q4 hb2 o1 o2 o3
  obtain ⟨j0, j1, j2, j3, j4⟩ := bE.lcell
  obtain ⟨q0, q1, q2, q3, q4⟩ := bF2.lcell
  simp only at j0 j1 j2 j3 j4 q0 q1 q2 q3 q4
  have HB2 := Lib.hid hB2
  have hr3 := hr2.r3
  simp only at hr3
  go_wp2_with (with_reducible refine wp_copy rfl (.tmp 25) (.tmp 27) 26 rfl 2 Try.underlying26 sizeI g3 n3 _ _ B A3 c3 _ H rfl rfl o3a hr3 (fun _ => rfl) ?_; intro w3 o3b hm3; have kE := (bE.only hm3 (.inr (by omega))).lcell.k4; simp only at kE)
  have z3 := hm3.size
  simp only [World.size_alloc] at z3
  have bE3 := bE.only hm3 (.inr (by omega))
  have bF3 := bF2.only hm3 (.inl (by omega))
  have bR3 := bR2.only hm3 (.inl (by omega))
  have hr3' := hr2.only hm3 (by omega) (by simp; omega)
  have o1b := o1a.only hm3 (.inl (by omega))
  have o2b := o2a.only hm3 (.inl (by omega))
  have HB3 := Lib.hid (HB2.out.trans (hm3.below (by omega) (by simp; omega)))
  have HBE := Lib.hid bE3
  have HBF3 := Lib.hid bF3
  have HBR3 := Lib.hid bR3
  have HR3 := Lib.hid hr3'
  clear bE bF2 bR2 hr2 hr3 o1a o2a o3a hm3 j0 j1 j2 j3 j4 q0 q1 q2 q3 q4 bE3 bF3 bR3 hr3' kE
  go_loopw [7, 32] (fun _ i wr => ∃ k : Nat, k ≤ n3 ∧ i = .int .i64 k ∧ Own I wr w1.heap.size m1 2 (slN g1 n3) (F'.take k ++ List.replicate (n3 - k) 0) ∧ Own I wr m1 m2 2 (slN g2 n3) (G'.take k ++ List.replicate (n3 - k) 0) ∧ Own I wr m2 w2.heap.size 2 (slN g3 n3) H ∧ Hid (Only w1.heap.size w2.heap.size w3 wr)) (fun _ i _ => n3 - (intOf i).toNat)
  case atStart => exact ⟨0, Nat.zero_le _, rfl, by simpa using o1b, by simpa using o2b, o3b, Lib.hid (Only.refl _ _ _)⟩
  case round =>
    clear o1b o2b o3b
    obtain ⟨k, hk, rfl, o1, o2, o3, HO⟩ := hrel
    have hz := HO.out.size
    by_cases hlt : k < n3
    · have hrr := HR3.out.only HO.out (by omega) (by omega)
      obtain ⟨r1, r2, _⟩ := hrr
      simp only at r1 r2
      obtain ⟨p1, s1o, x1, rfl, pb1, hx1, hc1⟩ := r1.at_ hlt
      obtain ⟨p2, s2o, x2, rfl, pb2, hx2, hc2⟩ := r2.at_ hlt
      have sm1 := HSM.out.1 x1 (List.mem_of_getElem? hx1)
      have sm2 := HSM.out.2 x2 (List.mem_of_getElem? hx2)
      have HX1 : Hid (F'[k]? = some (x1 + y)) := Lib.hid (by rw [← HF'.out, List.getElem?_map, hx1]; rfl)
      have HX2 : Hid (G'[k]? = some (x2 + y)) := Lib.hid (by rw [← HG'.out, List.getElem?_map, hx2]; rfl)
      have w1' : IntKind.i64.wrap (x1 + y) = x1 + y := IntWalk.i64_in _ (by omega)
      have w2' : IntKind.i64.wrap (x2 + y) = x2 + y := IntWalk.i64_in _ (by omega)
      obtain ⟨d1, e1, hd1, h11, h12, h13, _, hcd1, hfd1⟩ := o1.at_ hlt
      injection hd1 with hd1
      injection hd1 with hd1 _ _
      subst hd1
      obtain ⟨d2, e2, hd2, h21, h22, h23, _, hcd2, hfd2⟩ := o2.at_ hlt
      injection hd2 with hd2
      injection hd2 with hd2 _ _
      subst hd2
      obtain ⟨j0, j1, j2, j3, j4⟩ := (HBE.out.only HO.out (.inr (by omega))).lcell
      obtain ⟨q0, q1, q2, q3, q4⟩ := (HBF3.out.only HO.out (.inl (by omega))).lcell
      simp only at j0 j1 j2 j3 j4 q0 q1 q2 q3 q4
      have S1 := o1.set_ (k := k) (x1 + y)
      have hs1 : Own I (wr.setCell ⟨g1, k, none⟩ (I (x1 + y))) w1.heap.size m1 2 (slN g1 n3) (F'.take (k + 1) ++ List.replicate (n3 - (k + 1)) 0) := by
        have := S1.1
        rwa [fill_step _ _ _ _ _ HLF.out HX1.out hlt] at this
      have ho1 : Only w1.heap.size m1 wr (wr.setCell ⟨g1, k, none⟩ (I (x1 + y))) := S1.2
      clear S1 hx1 hx2 r1 r2
      go_wp2_with fail
      go_region
      generalize hV : wr.setCell ⟨g1, k, none⟩ (I (x1 + y)) = v5 at hs1 ho1 ⊢
      clear hV j0 j1 j2 j3 j4 q0 q1 q2 q3 q4 hc1 hcd1 hfd1
      have HO5 := Lib.hid (HO.out.trans (only_wide ho1 (Nat.le_refl _) (show m1 ≤ w2.heap.size by omega)))
      have z5 := HO5.out.size
      obtain ⟨j0, j1, j2, j3, j4⟩ := (HBE.out.only HO5.out (.inr (by omega))).lcell
      obtain ⟨q0, q1, q2, q3, q4⟩ := (HBF3.out.only HO5.out (.inl (by omega))).lcell
      simp only at j0 j1 j2 j3 j4 q0 q1 q2 q3 q4
      have hc2' := (World.cell?_of_block (ho1.block p2 (by omega) (.inl (by omega))) : v5.cell? ⟨p2, s2o + k, none⟩ = _).trans hc2
      have o2' := o2.only ho1 (.inr (by omega))
      have o3' := o3.only ho1 (.inr (by omega))
      obtain ⟨d2, e2', hd2, _, _, h23', _, hcd2', hfd2'⟩ := o2'.at_ hlt
      injection hd2 with hd2
      injection hd2 with hd2 _ _
      subst hd2
      have S2 := o2'.set_ (k := k) (x2 + y)
      have hs2 : Own I (v5.setCell ⟨g2, k, none⟩ (I (x2 + y))) m1 m2 2 (slN g2 n3) (G'.take (k + 1) ++ List.replicate (n3 - (k + 1)) 0) := by
        have := S2.1
        rwa [fill_step _ _ _ _ _ HLG.out HX2.out hlt] at this
      have ho2 : Only m1 m2 v5 (v5.setCell ⟨g2, k, none⟩ (I (x2 + y))) := S2.2
      clear S2 hc2 hcd2 hfd2 o2 o3 o2'
      go_wp2_with fail
      go_region
      generalize hV : v5.setCell ⟨g2, k, none⟩ (I (x2 + y)) = v6 at hs2 ho2 ⊢
      clear hV j0 j1 j2 j3 j4 q0 q1 q2 q3 q4 hc2' hcd2' hfd2'
      have HO6 := Lib.hid (HO5.out.trans (only_wide ho2 (show w1.heap.size ≤ m1 by omega) (show m2 ≤ w2.heap.size by omega)))
      go_wp2_with fail
      go_roundw
      case rel => exact ⟨k + 1, by omega, by go_num, (hs1.only ho2 (.inl (Nat.le_refl _))).drewN 2, hs2.drewN 2, (o3'.only ho2 (.inr (Nat.le_refl _))).drewN 2, Lib.hid (HO6.out.drewN 2)⟩
      case measure => simp [intOf]; omega
    · obtain rfl : k = n3 := by omega
      have eF : F'.take k ++ List.replicate (k - k) 0 = F' := by rw [List.take_of_length_le (Nat.le_of_eq HLF.out)]; simp
      have eG : G'.take k ++ List.replicate (k - k) 0 = G' := by rw [List.take_of_length_le (Nat.le_of_eq HLG.out)]; simp
      rw [eF] at o1
      rw [eG] at o2
      have oF : OF wr w1.heap.size w2.heap.size ⟨a', b', some ⟨g1, 0, none⟩, k, k, some ⟨g2, 0, none⟩, k, k, some ⟨g3, 0, none⟩, k, k⟩ F' G' H := ⟨⟨m1, m2, s1, s2, s3, o1, o2, o3⟩⟩
      have HOF := Lib.hid oF
      have HBE4 := Lib.hid (HBE.out.only HO.out (.inr (by omega)))
      have HBR4 := Lib.hid (HBR3.out.only HO.out (.inl (by omega)))
      have HB4 := Lib.hid (HB3.out.trans (HO.out.below (by omega) (by omega)))
      obtain ⟨j0, j1, j2, j3, j4⟩ := HBE4.out.lcell
      simp only at j0 j1 j2 j3 j4
      have hsp := implIsForm_any ⟨a', b', some ⟨g1, 0, none⟩, k, k, some ⟨g2, 0, none⟩, k, k, some ⟨g3, 0, none⟩, k, k⟩ w2.heap.size F' G' H wr oF.rf (by omega) ⟨show k ≤ _ by omega, show k ≤ _ by omega, show k ≤ _ by omega⟩ HI3.out HI4.out
      simp only at hsp
      clear eF eG o1 o2 o3 oF
      go_wp2_with fail
      refine hsp.mono ?_
      rintro e w6 ⟨rfl, hb6⟩
      have z6 := hb6.size
      have HB6 := Lib.hid (HB4.out.trans (hb6.mono (by omega)))
      have bR6 := HBR4.out.below hb6 (by omega)
      have bE6 := HBE4.out.below hb6 (by omega)
      have HOF6 := Lib.hid (HOF.out.below hb6 (by omega))
      clear hb6 hsp j0 j1 j2 j3 j4
      cases hok2 : Fm.okB a' b' F' G' H
      · have HE3 : Hid (Fm.shC a' b' F G H y = 3) := Lib.hid (by rw [HE.out, hok2]; rfl)
        clear hok2 bE6
        obtain ⟨rfl, rfl, rfl, rfl, rfl, rfl⟩ := Fm.sh_bad HR.out HE3.out (by decide)
        have s4 := bR6.put5 fv0
        obtain ⟨x0, x1, x2, x3, x4⟩ := bR6.lcell
        simp only at x0 x1 x2 x3 x4
        obtain ⟨y0, y1, y2, y3, y4⟩ := bR6.freeF
        have HS4 := Lib.hid s4
        have HBW := Lib.hid (HB6.out)
        clear s4
        go_wp2_with fail
        obtain ⟨e0, e1, e2, e3, e4⟩ := HS4.out.lcell
        exact bodyPost_ret (v := .tuple #[Fv.v fv0, .int .i64 3]) (by simp [results, Try.results14, go_sem, e0, e1, e2, e3, e4]) rfl (FC.mk_ fv0 rfl rfl (OF.zero _ _ _ (Nat.le_refl _)) (Nat.le_refl _) (by have := HBW.out.size; simpa using this) fv0_le (below_put5 HBW.out fv0 (by omega)))
      · have HE3 : Hid (Fm.shC a' b' F G H y = 0) := Lib.hid (by rw [HE.out, hok2]; rfl)
        obtain ⟨hu0, hu1, hL1, hL2, hL3, rfl⟩ := Fm.sh_good HR.out HE3.out
        obtain rfl : a' = u0 := hu0.symm
        obtain rfl : b' = u1 := hu1.symm
        rw [HF'.out] at hL1
        rw [HG'.out] at hL2
        subst hL1 hL2 hL3
        clear hok2
        have s4 := bR6.put5 ⟨a', b', some ⟨g1, 0, none⟩, k, k, some ⟨g2, 0, none⟩, k, k, some ⟨g3, 0, none⟩, k, k⟩
        obtain ⟨x0, x1, x2, x3, x4⟩ := bR6.lcell
        simp only at x0 x1 x2 x3 x4
        obtain ⟨y0, y1', y2', y3, y4⟩ := bR6.freeF
        obtain ⟨j0, j1, j2, j3, j4⟩ := bE6.lcell
        simp only at j0 j1 j2 j3 j4
        have HS4 := Lib.hid s4
        clear s4 bR6 bE6
        go_wp2_with fail
        obtain ⟨e0, e1, e2, e3, e4⟩ := HS4.out.lcell
        simp only at e0 e1 e2 e3 e4
        exact bodyPost_ret (v := .tuple #[Fv.v ⟨a', b', some ⟨g1, 0, none⟩, k, k, some ⟨g2, 0, none⟩, k, k, some ⟨g3, 0, none⟩, k, k⟩, .int .i64 0]) (by simp [results, Try.results14, go_sem, e0, e1, e2, e3, e4]) rfl (FC.mk_ ⟨a', b', some ⟨g1, 0, none⟩, k, k, some ⟨g2, 0, none⟩, k, k, some ⟨g3, 0, none⟩, k, k⟩ rfl rfl (HOF6.out.put5 ⟨a', b', some ⟨g1, 0, none⟩, k, k, some ⟨g2, 0, none⟩, k, k, some ⟨g3, 0, none⟩, k, k⟩ (.inl (by omega))) (by omega) (by simp; omega) ⟨show k ≤ _ by omega, show k ≤ _ by omega, show k ≤ _ by omega⟩ (below_put5 HB6.out ⟨a', b', some ⟨g1, 0, none⟩, k, k, some ⟨g2, 0, none⟩, k, k, some ⟨g3, 0, none⟩, k, k⟩ (by omega)))
end Go.Proofs.Ytgplciodddfpbaa
