/- The contract of BestUnits, the program's. -/
import Derived.Test.YtamnhbambklmkaaSgBk
import Derived.Test.YtamnhbambklmkaaSgMath2
namespace Go.Proofs.Ytamnhbambklmkaa
open Go.RowKit Go.Shelf
attribute [local go_sem] Oper.semAt_some

/-- What the rounds make of the row and of what is left, in any order of indices. -/
def Sg.st (L : List Int) (r0 : List Int × Int) (pre : List Nat) : List Int × Int := pre.foldl (fun r i => (r.1.set i (r.2 / L.getD i 0), r.2 % L.getD i 0)) r0
theorem Sg.st_next (L : List Int) (r0 : List Int × Int) (pre : List Nat) (i : Nat) : Sg.st L r0 (pre ++ [i]) = ((Sg.st L r0 pre).1.set i ((Sg.st L r0 pre).2 / L.getD i 0), (Sg.st L r0 pre).2 % L.getD i 0) := by
  unfold Sg.st
  rw [List.foldl_append]
  rfl
theorem Sg.st_bd (L : List Int) (hL : ∀ i, i < L.length → 0 < L.getD i 0) (R : List Int) (X : Int) (h0 : 0 ≤ X) (pre : List Nat) (hp : ∀ i ∈ pre, i < L.length) : 0 ≤ (Sg.st L (R, X) pre).2 ∧ (Sg.st L (R, X) pre).2 ≤ X := by
  obtain ⟨n, hn⟩ : ∃ n, n = pre.length := ⟨_, rfl⟩
  induction n generalizing pre with
  | zero =>
    obtain rfl := List.eq_nil_of_length_eq_zero hn.symm
    exact ⟨h0, Int.le_refl _⟩
  | succ n ih =>
    obtain ⟨q, i, rfl⟩ : ∃ q i, pre = q ++ [i] := by
      rcases List.eq_nil_or_concat pre with rfl | ⟨q, i, rfl⟩
      · simp at hn
      · exact ⟨q, i, by simp⟩
    have h1 := ih q (fun i hi => hp i (by simp [hi])) (by simp at hn; exact hn)
    have h2 := hL i (hp i (by simp))
    rw [Sg.st_next]
    have h3 := Int.emod_nonneg (Sg.st L (R, X) q).2 (show L.getD i 0 ≠ 0 by omega)
    have e1 := Int.mul_ediv_add_emod (Sg.st L (R, X) q).2 (L.getD i 0)
    have e2 := Int.mul_nonneg (show 0 ≤ L.getD i 0 by omega) (Int.ediv_nonneg h1.1 (show 0 ≤ L.getD i 0 by omega))
    show 0 ≤ (Sg.st L (R, X) q).2 % L.getD i 0 ∧ (Sg.st L (R, X) q).2 % L.getD i 0 ≤ X
    omega
theorem Sg.st_all (L : List Int) (X : Int) : ∀ k, k ≤ L.length → Sg.st L (List.replicate L.length 0, X) (downTo L.length k) = (List.replicate (L.length - k) 0 ++ (Sg.bs X (L.drop (L.length - k))).1, (Sg.bs X (L.drop (L.length - k))).2) := by
  intro k
  induction k with
  | zero => intro _; simp [downTo, Sg.st, Sg.bs]
  | succ k ih =>
    intro hk
    rw [downTo_succ, Sg.st_next, ih (by omega)]
    have hi : L.length - 1 - k < L.length := by omega
    have hx : L[L.length - 1 - k]? = some (L.getD (L.length - 1 - k) 0) := by rw [List.getD_eq_getElem?_getD, List.getElem?_eq_getElem hi]; rfl
    have e1 : L.length - k = (L.length - 1 - k) + 1 := by omega
    have e2 : L.length - (k + 1) = L.length - 1 - k := by omega
    rw [e1, e2]
    have s1 := Sg.bs_step X L _ _ hx
    have s2 := Sg.bs_at X L _ _ hx
    rw [s1, s2]

abbrev sgN (g n : Nat) : Value := .slice (some ⟨g, 0, none⟩) n n
theorem Own.sgcells {w : World} {lo hi g N : Nat} {l : List Int} (h : Own I w lo hi 2 (sgN g N) l) (hN : 0 < N) : lo ≤ g ∧ g < hi ∧ g < w.heap.size ∧ ∃ o : Obj, w.heap[g]? = some o ∧ o.isCells = true := by
  obtain ⟨h1, h2, h3⟩ := h.lt g rfl
  have hl := h.rd.1
  rcases h.1.2 with ⟨_, hz⟩ | ⟨g', cap, cur, hv, hb, hg, _⟩
  · omega
  · injection hv with hv1 _ _
    injection hv1 with hv1
    injection hv1 with hv1 _ _
    subst hv1
    exact ⟨h1, h2, h3, _, hg, rfl⟩
theorem sg_own_from {β : Type} {n lo hi g N : Nat} (L : β → List Int) (hN : 0 < N) : OwnFrom n (fun (s : β) W => Own I W lo hi 2 (sgN g N) (L s)) := by
  intro s W W' row hs hg hr
  obtain ⟨_, _, h3, o, ho, hc⟩ := hs.sgcells hN
  refine hs.keep fun k hk => ?_
  simp only [Value.ownBlock, Option.some.injEq] at hk
  subst hk
  refine hg.block _ h3 fun e => ?_
  obtain ⟨_, o', ho', hc'⟩ := hr _ e.symm
  rw [ho] at ho'
  injection ho' with ho'
  subst ho'
  rw [hc] at hc'
  cases hc'
theorem sg_blk_own {β : Type} (g : Nat) (f : β → Array Value) (t : TypeId) : Go.Own (fun s W => Blk W g (f s) t) := fun s X Y row hs hg hrow => by
  have hs' : X.heap[g]? = some (.cells (f s) t (0, 0)) := hs
  refine (hg.block g hs.lt fun e => ?_).trans hs
  obtain ⟨o, ho, hc⟩ := hrow g e.symm
  rw [hs'] at ho
  cases ho
  cases hc
theorem Sg.getD_pos {L : List Int} {N : Nat} (hL : L.length = N) (x : Fin N) : x.val < L.length := by rw [hL]; exact x.isLt

set_option maxRecDepth 100000 in
set_option maxHeartbeats 4000000 in
theorem implBu_any (p : Int) (A : Option Addr) (n c B : Nat) (L R : List Int) (C : Int) (w : World) (h : Rd I w B A n L) (hB : B ≤ w.heap.size) (hn : n ≤ 1048576) (hR : Sg.buR p L = R) (hC : Sg.buC p L = C) (hp : -9223372036854775808 ≤ p ∧ p ≤ 9223372036854775807) :
    Calls Try.prog 32 #[.int .i64 p, .slice A n c] w fun e w' => LC w R C e w' := by
  have HL : Hid (L.length = n) := h.1
  cases hk : Sg.canB p L
  · have HK := Lib.hid hk
    have R0 : Hid (R = []) := Lib.hid (by rw [← hR]; unfold Sg.buR; rw [hk]; rfl)
    have C0 : Hid (C = 2) := Lib.hid (by rw [← hC]; unfold Sg.buC; rw [hk]; rfl)
    clear hk hR hC
    refine (callsIn_wide (n := 9)).1 ?_
    refine callsIn_of_wp_marks Try.func32 rfl trivial ?_ rfl
    simp only [Try.ntmps32, List.size_toArray, List.length_cons, List.length_nil, Nat.reduceAdd, Nat.reduceSub, Array.replicate_succ, Array.replicate_zero, List.push_toArray, List.append_toArray, List.nil_append, List.cons_append]
    refine wpIn_wide.2 ?_
    go_wp2_with fail
    refine (can_any p A n c B L false _ h hn HK.out).mono ?_
    rintro e w1 ⟨rfl, hq1⟩
    go_wp2_with fail
    exact ⟨.tuple #[.slice none 0 0, .int .i64 2], by simp [results, Try.results32, go_sem], LC.nil_ R0.out C0.out (hq1.below _)⟩
  · have HK := Lib.hid hk
    obtain ⟨u, t, hLu, hip, hall, hmin, hfit, hfst, hX1, hX2, hX3, hdot⟩ := Sg.bu_all hk
    obtain ⟨X, hX⟩ : ∃ X, Sg.least p L = X := ⟨_, rfl⟩
    have R0 : Hid (R = (Sg.bs X L).1) := Lib.hid (by rw [← hR, ← hX]; unfold Sg.buR; rw [if_pos hk])
    have C0 : Hid (C = 0) := Lib.hid (by rw [← hC]; unfold Sg.buC; rw [if_pos hk])
    rw [hX] at hX1 hX3
    have hfb := Sg.fits_out hfit
    have hub := Sg.un_bd hfb.2
    have HP : Hid (padR p u = X ∧ padC p u = 0) := Lib.hid (by
      have := Sg.fits_pad hfit
      rw [← hX]
      unfold Sg.least
      rw [hfst]
      exact this)
    have HU : Hid (∀ i, i < L.length → 0 < L.getD i 0 ∧ L.getD i 0 ≤ 128) := Lib.hid (fun i hi => by
      rw [List.getD_eq_getElem?_getD, List.getElem?_eq_getElem hi]
      rw [List.all_eq_true] at hall
      have := Sg.un_bd (hall _ (List.getElem_mem hi))
      simp
      omega)
    have hpb := hfb.1
    have hn0 : 0 < n := by rw [← h.1, hLu]; simp
    obtain ⟨b, o, x0, rfl, hbB, hx0, hc0⟩ := h.at_ hn0
    obtain rfl : u = x0 := by rw [hLu] at hx0; simpa using hx0
    have hn6 : n ≤ 1099511627776 := by omega
    have hX4 : 0 ≤ X ∧ X ≤ 5000 := by omega
    have HUB : Hid (-9223372036854775808 ≤ u ∧ u ≤ 9223372036854775807) := Lib.hid (by omega)
    have HH := Lib.hid h
    have HX4 := Lib.hid hX4
    obtain ⟨i0, hi0, hz0, hz1, hz2⟩ := info_parts infoI
    clear hk hR hC hLu hip hall hmin hfit hfst hX1 hX2 hX3 hdot hX hfb hub hx0 h hpb hX4
    refine (callsIn_wide (n := 9)).1 ?_
    refine callsIn_of_wp_marks Try.func32 rfl trivial ?_ rfl
    simp only [Try.ntmps32, List.size_toArray, List.length_cons, List.length_nil, Nat.reduceAdd, Nat.reduceSub, Array.replicate_succ, Array.replicate_zero, List.push_toArray, List.append_toArray, List.nil_append, List.cons_append]
    refine wpIn_wide.2 ?_
    go_wp2_with fail
    refine (can_any p _ n c B L true _ HH.out hn HK.out).mono ?_
    rintro e w1 ⟨rfl, hq1⟩
    have hc1 : w1.cell? ⟨b, o, none⟩ = some (.int .i64 u) := by
      obtain ⟨m, rfl⟩ := hq1
      exact hc0
    have z1 := hq1.size
    go_wp2_with fail
    refine (implPad_any p u _ hp HUB.out).mono ?_
    rintro e _ ⟨rfl, rfl⟩
    rw [HP.out.1, HP.out.2]
    go_wp2_with (at_make; refine wp_fresh _ rfl _ _ 29 rfl 2 i0 (0 : Int) 8 Try.underlying29 hi0 hz0 hz1 hz2 rfl .i64 .i64 _ _ n rfl rfl rfl rfl (by omega) (by omega) ?_; intro g w3 ho3 hb3)
    simp only [World.size_alloc, z1] at ho3 hb3
    have oL := ho3.lt g rfl
    have bL := (Blk.new (w := w1) (g := w.heap.size) #[.int .i64 X] 2 z1.symm).below hb3 (by omega)
    have hB3 : Below w.heap.size w w3 := (hq1.below _).trans ((((Below.refl w1.heap.size w1).alloc (Nat.le_refl _) (.cells #[.int .i64 X] 2)).mono (by omega)).trans (hb3.mono (by omega)))
    have z3 := hb3.size
    simp only [World.size_alloc, z1] at z3
    go_wp2_with (go_at_call 75; refine (bk_any _ _ _ _).mono ?_; rintro e w7 ⟨rfl, hw7⟩)
    have cB : ((w3.alloc (.cells #[sgN g n] 29)).alloc (.cells #[.slice (some ⟨b, o, none⟩) n c] 29)).cell? ⟨w3.heap.size + 1, 0, none⟩ = some (.slice (some ⟨b, o, none⟩) n c) := by
      have := (Boxed.new (w3.alloc (.cells #[sgN g n] 29)) 29 (.slice (some ⟨b, o, none⟩) n c))
      rw [World.size_alloc] at this
      exact this.cell
    have bR : Blk ((w3.alloc (.cells #[sgN g n] 29)).alloc (.cells #[.slice (some ⟨b, o, none⟩) n c] 29)) w3.heap.size #[sgN g n] 29 := (Blk.new _ _ rfl).alloc _
    have z8 : ((w3.alloc (.cells #[sgN g n] 29)).alloc (.cells #[.slice (some ⟨b, o, none⟩) n c] 29)).heap.size = w3.heap.size + 2 := by simp
    have hb8 : Below w3.heap.size w3 ((w3.alloc (.cells #[sgN g n] 29)).alloc (.cells #[.slice (some ⟨b, o, none⟩) n c] 29)) := ((Below.refl _ _).alloc (Nat.le_refl _) _).alloc (by simp) _
    change Code.wp _ _ _ _ ((w3.alloc (.cells #[sgN g n] 29)).alloc (.cells #[.slice (some ⟨b, o, none⟩) n c] 29))
    generalize (w3.alloc (.cells #[sgN g n] 29)).alloc (.cells #[.slice (some ⟨b, o, none⟩) n c] 29) = w8 at cB bR z8 hb8 ⊢
    have oR := ho3.below hb8 (Nat.le_refl _)
    have bL8 := bL.below hb8 (by omega)
    have hB8 := hB3.trans (hb8.mono (by omega))
    have rd8 := HH.out.below hB8 hB
    have hcs : ∀ j, j < n → w8.cell? ⟨b, o + j, none⟩ = some (.int .i64 (L.getD j 0)) := fun j hj => by
      obtain ⟨b', o', x, e, _, hx, hcx⟩ := rd8.at_ hj
      injection e with e
      injection e with e1 e2 _
      subst e1 e2
      rw [List.getD_eq_getElem?_getD, hx]
      exact hcx
    have HB8 := Lib.hid hB8
    have HBR := Lib.hid bR
    clear hw7 hb8 hB8 hB3 hb3 bL bR ho3 hc1 hc0
    refine (wpIn_wide (n := 9)).1 ?_
    refine wpIn_rangeFunc_ownF rfl (by decide) (gf := 93) (lb := #[.pointer (some ⟨w3.heap.size + 1, 0, none⟩)]) rfl trivial (enters_of Try.func93 (by kernel_rfl) rfl)
      (bk_stops Fence.wide 8 trivial rfl (by decide) (w3.heap.size + 1) b o c n L HL.out hn w8 (by omega) (by omega) cB hcs)
      (fun h k => h.trans k) (Tw.put (by omega) (by omega)) (Below.refl _ _) (fun _ => rfl)
      (fun pre V => Own I V (w.heap.size + 1) w3.heap.size 2 (sgN g n) (Sg.st L (List.replicate n 0, X) (pre.map Fin.val)).1 ∧ (Blk V w.heap.size #[.int .i64 (Sg.st L (List.replicate n 0, X) (pre.map Fin.val)).2] 2 ∧ (Blk V w3.heap.size #[sgN g n] 29 ∧ Below w.heap.size w V)))
      (fun _ _ _ => False)
      (OwnFrom.and (sg_own_from (fun pre : List (Fin n) => (Sg.st L (List.replicate n 0, X) (pre.map Fin.val)).1) hn0) (OwnFrom.and (Go.Own.from (sg_blk_own w.heap.size (fun pre : List (Fin n) => #[.int .i64 (Sg.st L (List.replicate n 0, X) (pre.map Fin.val)).2]) 2) _) (OwnFrom.and (Go.Own.from (sg_blk_own w3.heap.size (fun _ : List (Fin n) => #[sgN g n]) 29) _) (ownFrom_below (Nat.le_refl _) (by omega)))))
      (fun _ _ _ _ _ hs _ _ => hs)
      ⟨oR, bL8, HBR.out, HB8.out⟩
      (fun x => { tmps := #[.int .i64 p, .slice (some ⟨b, o, none⟩) n c, undef, undef, .slice none 0 0, .int .i64 0, .pointer (some ⟨w.heap.size, 0, none⟩), .int .i64 0, .pointer (some ⟨w3.heap.size, 0, none⟩), .int .i64 (x.val : Int), .int .i64 (L.getD x.val 0), .int .i64 p, .slice (some ⟨b, o, none⟩) n c, .bool true, .bool false, .tuple #[.int .i64 X, .int .i64 0], .int .i64 p, .slice (some ⟨b, o, none⟩) n c, .pointer (some ⟨b, o, none⟩), .int .i64 u, .tuple #[.int .i64 X, .int .i64 0], .int .i64 X, .int .i64 0, .slice (some ⟨b, o, none⟩) n c, .int .i64 (n : Int), sgN g n, .slice (some ⟨b, o, none⟩) n c, .func (.func 93) #[] #[.pointer (some ⟨w3.heap.size + 1, 0, none⟩)], .int .i64 (x.val : Int), .int .i64 (L.getD x.val 0), undef, undef, undef, undef, undef, undef, undef, undef, undef, undef, undef], defers := [] }) ?assign ?body ?done ?stop
    case assign =>
      intro l x V K hK
      gi_wp2
      exact hK
    case body =>
      rintro l pre x V ⟨ho, bl, br, hb⟩ hlen
      have hxb := HU.out x.val (Sg.getD_pos HL.out x)
      have hbd := Sg.st_bd L (fun i hi => (HU.out i hi).1) (List.replicate n 0) X HX4.out.1 (pre.map Fin.val) (fun i hi => by
        obtain ⟨y, _, rfl⟩ := List.mem_map.1 hi
        exact Sg.getD_pos HL.out y)
      have HN : Hid (Sg.st L (List.replicate n 0, X) ((pre ++ [x]).map Fin.val) = ((Sg.st L (List.replicate n 0, X) (pre.map Fin.val)).1.set x.val ((Sg.st L (List.replicate n 0, X) (pre.map Fin.val)).2 / L.getD x.val 0), (Sg.st L (List.replicate n 0, X) (pre.map Fin.val)).2 % L.getD x.val 0)) := Lib.hid (by rw [List.map_append]; exact Sg.st_next L _ _ x.val)
      refine wpIn_mono (Q := fun e _ W' => e = .normal ∧ KeepsOthers V W' ∧ Tw b (w3.heap.size + 1) V W' ∧ Own I W' (w.heap.size + 1) w3.heap.size 2 (sgN g n) ((Sg.st L (List.replicate n 0, X) (pre.map Fin.val)).1.set x.val ((Sg.st L (List.replicate n 0, X) (pre.map Fin.val)).2 / L.getD x.val 0)) ∧ Blk W' w.heap.size #[.int .i64 ((Sg.st L (List.replicate n 0, X) (pre.map Fin.val)).2 % L.getD x.val 0)] 2 ∧ Blk W' w3.heap.size #[sgN g n] 29 ∧ Below w.heap.size w W') ?_ ?_
      rotate_left
      · rintro e a W' ⟨rfl, h1, h2, h3, h4, h5, h6⟩
        refine ⟨h1, h2, ?_, ?_, h5, h6⟩
        · rw [HN.out]; exact h3
        · rw [HN.out]; exact h4
      generalize Sg.st L (List.replicate n 0, X) (pre.map Fin.val) = sm at ho bl hbd HN ⊢
      obtain ⟨ls, q⟩ := sm
      simp only at ho bl hbd ⊢
      have HLS : Hid (ls.length = n) := Lib.hid ho.rd.1
      obtain ⟨y, hy⟩ : ∃ y, L.getD x.val 0 = y := ⟨_, rfl⟩
      rw [hy] at hxb ⊢
      obtain ⟨k, hk⟩ : ∃ k, x.val = k := ⟨_, rfl⟩
      have hkn : k < n := by rw [← hk]; exact x.isLt
      rw [hk]
      have hq : 0 ≤ q ∧ q ≤ 5000 := by have := HX4.out; omega
      obtain ⟨d, hd⟩ : ∃ d, q / y = d := ⟨_, rfl⟩
      obtain ⟨m, hm⟩ : ∃ m, q % y = m := ⟨_, rfl⟩
      have hdb : 0 ≤ d ∧ d ≤ 5000 := by
        have a1 := Int.ediv_nonneg (a := q) (b := y) (by omega) (by omega)
        have a2 := Int.ediv_le_self (a := q) y (by omega)
        omega
      have hmb : 0 ≤ m ∧ m ≤ 5000 := by
        have a1 := Int.emod_nonneg q (show y ≠ 0 by omega)
        have a2 := Int.emod_lt_of_pos q (show 0 < y by omega)
        omega
      have t1 : q.tdiv y = d := by rw [Int.tdiv_eq_ediv_of_nonneg (by omega)]; exact hd
      have t2 : q.tmod y = m := by rw [Int.tmod_eq_emod_of_nonneg (by omega)]; exact hm
      rw [hd, hm]
      have y0 : ¬ y = 0 := by omega
      have e1 : IntKind.i64.wrap d = d := IntWalk.i64_in _ (by omega)
      have e2 : IntKind.i64.wrap m = m := IntWalk.i64_in _ (by omega)
      obtain ⟨g', v0, eg, _, _, gV, _, cg, fg⟩ := ho.at_ hkn
      injection eg with eg
      injection eg with eg _ _
      subst eg
      have hset := ho.set_ (k := k) d
      have cl := bl.cell 0 (v := .int .i64 q) rfl
      have fl := bl.free 0
      have cr := br.cell 0 (v := sgN g n) rfl
      have n1 : ¬ g = w.heap.size := by omega
      have n2 : ¬ w.heap.size = g := by omega
      have n3 : ¬ w3.heap.size = g := by omega
      have n4 : ¬ g = w3.heap.size := by omega
      have n5 : ¬ w.heap.size = w3.heap.size := by omega
      have n6 : ¬ w3.heap.size = w.heap.size := by omega
      have HO := Lib.hid ho
      have HBL := Lib.hid bl
      have HBB := Lib.hid br
      have HSET := Lib.hid hset
      have HV := Lib.hid hb
      have HEND : Hid (KeepsOthers V ((V.setCell ⟨g, k, none⟩ (.int .i64 d)).setCell ⟨w.heap.size, 0, none⟩ (.int .i64 m)).drew ∧ Tw b (w3.heap.size + 1) V ((V.setCell ⟨g, k, none⟩ (.int .i64 d)).setCell ⟨w.heap.size, 0, none⟩ (.int .i64 m)).drew ∧ Own I ((V.setCell ⟨g, k, none⟩ (.int .i64 d)).setCell ⟨w.heap.size, 0, none⟩ (.int .i64 m)).drew (w.heap.size + 1) w3.heap.size 2 (sgN g n) (ls.set k d) ∧ Blk ((V.setCell ⟨g, k, none⟩ (.int .i64 d)).setCell ⟨w.heap.size, 0, none⟩ (.int .i64 m)).drew w.heap.size #[.int .i64 m] 2 ∧ Blk ((V.setCell ⟨g, k, none⟩ (.int .i64 d)).setCell ⟨w.heap.size, 0, none⟩ (.int .i64 m)).drew w3.heap.size #[sgN g n] 29 ∧ Below w.heap.size w ((V.setCell ⟨g, k, none⟩ (.int .i64 d)).setCell ⟨w.heap.size, 0, none⟩ (.int .i64 m)).drew) := Lib.hid (by
        have k1 : KeepsOthers V ((V.setCell ⟨g, k, none⟩ (.int .i64 d)).setCell ⟨w.heap.size, 0, none⟩ (.int .i64 m)) := ((KeepsOthers.refl V).trans (KeepsOthers.setCell _ _ _)).trans (KeepsOthers.setCell _ _ _)
        have k2 : Below w.heap.size w ((V.setCell ⟨g, k, none⟩ (.int .i64 d)).setCell ⟨w.heap.size, 0, none⟩ (.int .i64 m)) := (hb.setCell (by dsimp only; omega) _).setCell (Nat.le_refl _) _
        have k3 : Own I ((V.setCell ⟨g, k, none⟩ (.int .i64 d)).setCell ⟨w.heap.size, 0, none⟩ (.int .i64 m)) (w.heap.size + 1) w3.heap.size 2 (sgN g n) (ls.set k d) := hset.1.keep fun g' hg' => by
          simp only [Value.ownBlock, Option.some.injEq] at hg'
          subst hg'
          exact heap_setCell_other _ _ _ _ n1
        exact ⟨⟨k1.1, k1.2⟩, (((Tw.refl _ _ V).set (by dsimp only; omega) (by dsimp only; omega) _).set (by dsimp only; omega) (by dsimp only; omega) _).drew, k3.drewN 1, ((bl.other ⟨g, k, none⟩ _ n2).set 0 _), ((br.other ⟨g, k, none⟩ _ n3).other ⟨w.heap.size, 0, none⟩ _ n6), ⟨k2.os, k2.tape, k2.output, k2.size, k2.block⟩⟩)
      clear ho bl br hset hb HN hbd hk hy hd hm
      gi_wp2
      gi_region
      all_goals
        gi_wp2
        exact HEND.out
    case done =>
      rintro D ys V hD hys ⟨ho, bl, br, hb⟩ hK
      have hE : Sg.st L (List.replicate n 0, X) (ys.map Fin.val) = ((Sg.bs X L).1, (Sg.bs X L).2) := by
        have h1 := Sg.st_all L X L.length (Nat.le_refl _)
        rw [HL.out] at h1
        rw [hys, h1]
        simp
      rw [hE] at ho
      have cr := br.cell 0 (v := sgN g n) rfl
      have HO := Lib.hid ho
      have HV := Lib.hid hb
      have HKD := Lib.hid hK
      clear ho bl br hb hE
      go_wp2_with fail
      refine ⟨by simp, .inl ⟨_, _, rfl, run_takeDeferred HKD.out, ?_⟩⟩
      refine ⟨_, results_tmp2 rfl _ _ _, ?_⟩
      have hz := HV.out.size
      have ho' : Own I (V.putObj D (.deferred none)) (w.heap.size + 1) w3.heap.size 2 (sgN g n) (Sg.bs X L).1 := HO.out.keep fun k hk => World.putObj_heap_other (by have := HO.out.lt k hk; omega)
      have hvs := (Array.getElem?_eq_some_iff.1 HKD.out).1
      exact LC.mk_ R0.out C0.out ho' (by omega) (by simp; omega) hn (HV.out.trans (belowK_b (w := w) (Nat.le_refl _) _ D _ (.deferred none) (by omega) HKD.out rfl rfl))
    case stop =>
      rintro D c' pre V _ _ h _
      exact h.elim
end Go.Proofs.Ytamnhbambklmkaa
