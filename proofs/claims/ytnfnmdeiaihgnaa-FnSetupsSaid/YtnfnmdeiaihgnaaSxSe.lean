/- The program's contract of SetupOf. -/
import Derived.Test.YtnfnmdeiaihgnaaSxMp
import Derived.Test.YtnfnmdeiaihgnaaSxUn
import Derived.Test.YtnfnmdeiaihgnaaSuSe
import Derived.Test.YtnfnmdeiaihgnaaFoIm
import Derived.Deep.RegionLaw
import Derived.Deep.RegionHeld3
import Derived.BigRegion
import Derived.Handy
import Derived.Shelf.Abstract
namespace Go.Proofs.Ytnfnmdeiaihgnaa
open Go.RowKit
set_option linter.unusedVariables false
set_option linter.unusedSimpArgs false

/-- The state at each round: the map of units at M, the box of the size at Z, the set-up behind it. -/
structure SxI (w : World) (M Z hi : Nat) (A : Option Addr) (k cp : Nat) (l : List Un) (q : Pc) (wr : World) : Prop where
  m : wr.heap[M]? = some (.map Su.es4 4)
  z : Blk wr Z #[.int .i64 q.w, .int .i64 q.h] 25
  o : OwnS Un.S wr (Z + 1) hi (.slice A k cp) l
  l0 : w.heap.size ≤ M
  l1 : M < Z
  l2 : Z < hi
  lh : hi ≤ wr.heap.size
  b : Below w.heap.size w wr
section
variable {w V V' : World} {M Z hi k cp c' : Nat} {A A' : Option Addr} {l : List Un} {q q' : Pc} {y : Un}
theorem SxI.below (h : SxI w M Z hi A k cp l q V) (hb : Below V.heap.size V V') : SxI w M Z hi A k cp l q V' :=
  ⟨(hb.block M (by have := h.l1; have := h.z.lt; omega)).trans h.m, h.z.below hb h.z.lt, h.o.below hb h.lh, h.l0, h.l1, h.l2, Nat.le_trans h.lh hb.size, h.b.trans (hb.mono h.b.size)⟩
theorem SxI.drew (h : SxI w M Z hi A k cp l q V) : SxI w M Z hi A k cp l q V.drew := h.below (below_drewN' (Below.refl _ _) 1)
theorem SxI.wide {hi' : Nat} (h : SxI w M Z hi A k cp l q V) (h1 : hi ≤ hi') (h2 : hi' ≤ V.heap.size) : SxI w M Z hi' A k cp l q V := ⟨h.m, h.z, h.o.mono (Nat.le_refl _) h1, h.l0, h.l1, Nat.lt_of_lt_of_le h.l2 h1, h2, h.b⟩
theorem SxI.push (h : SxI w M Z hi A k cp l q V) (ho : OwnS Un.S V' (Z + 1) V'.heap.size (.slice A' (k + 1) c') (l ++ [y])) (hm : Only (Z + 1) hi V V') : SxI w M Z V'.heap.size A' (k + 1) c' (l ++ [y]) q V' := by
  have h1 := h.l1
  have h2 := h.l2
  have h3 := h.lh
  have h4 := hm.size
  have h5 := h.l0
  have h6 := h.z.lt
  exact ⟨(hm.block M (by omega) (.inl (by omega))).trans h.m, h.z.only hm (.inl (by omega)), ho, h.l0, h.l1, by omega, Nat.le_refl _, h.b.trans (hm.below (by omega) h.b.size)⟩
theorem SxI.put {g i : Nat} {v : Value} (h : SxI w M Z hi A k cp l q V) (hg : hi ≤ g) : SxI w M Z hi A k cp l q (V.setCell ⟨g, i, none⟩ v) := by
  have h1 := h.l1
  have h2 := h.l2
  have h5 := h.l0
  exact ⟨(heap_setCell_other _ _ M _ (show M ≠ g by omega)).trans h.m, h.z.other _ _ (show Z ≠ g by omega), h.o.keep fun g' hg' => heap_setCell_other _ _ g' _ (show g' ≠ g by have := h.o.lt g' hg'; omega), h.l0, h.l1, h.l2, by simpa using h.lh, below_setS h.b _ (by omega)⟩
/-- The box of the size is written anew. -/
theorem SxI.size (h : SxI w M Z hi A k cp l q V) : SxI w M Z hi A k cp l q' ((V.setCell ⟨Z, 0, none⟩ (.int .i64 q'.w)).setCell ⟨Z, 1, none⟩ (.int .i64 q'.h)) := by
  have h1 := h.l1
  have h2 := h.l2
  have h5 := h.l0
  refine ⟨(heap_setCell_other _ _ M _ (show M ≠ Z by omega)).trans ((heap_setCell_other _ _ M _ (show M ≠ Z by omega)).trans h.m), Blk.set (Blk.set h.z 0 (.int .i64 q'.w)) 1 (.int .i64 q'.h), ?_, h.l0, h.l1, h.l2, by simpa using h.lh, below_setS (below_setS h.b _ (by omega)) _ (by omega)⟩
  exact (h.o.keep fun g hg => heap_setCell_other _ _ g _ (show g ≠ Z by have := h.o.lt g hg; omega)).keep fun g hg => heap_setCell_other _ _ g _ (show g ≠ Z by have := h.o.lt g hg; omega)
end
theorem Su.code_fo {a b : Int} {c : Pc} {s : List UInt8} : Su.code a b c s = if Gu.okP c = true then Fo.code a b s else 1 := by
  unfold Su.code Fo.code
  cases h : Gu.okP c <;> cases h2 : Fo.sheet a b <;> simp
/-- The function that gives the unit of a letter. -/
theorem Su.fn_of {x : UInt8} (h : Fo.isX x = true ∨ Fo.isY x = true) : ∃ f : FuncId, (∀ {W : World} {g : Nat}, W.heap[g]? = some (.map Su.es4 4) → (Instr.lookup 79 (.map (some g)) (.int .u8 x.toNat) false).run Try.prog W = .ok (Su.fn f) W) ∧
    (∀ args W, (callFunc f args).run Try.prog W = .ok (.enter f args) W) ∧ ∀ p W, Su.small p → Calls Try.prog f #[p.agg] W fun e w' => e = .returned (Su.unit p x).agg ∧ Below W.heap.size W w' := by
  have e : x = 76 ∨ x = 82 ∨ x = 84 ∨ x = 66 := by
    unfold Fo.isX Fo.isY at h
    simp only [Bool.or_eq_true, beq_iff_eq] at h
    rcases h with (h | h) | (h | h) <;> simp [h]
  rcases e with rfl | rfl | rfl | rfl
  · exact ⟨90, fun hb => look_u8 hb 76 0 _ rfl, enters_of Try.func90 (by kernel_rfl) rfl, fun p W hp => leftUnit_any p W hp⟩
  · exact ⟨91, fun hb => look_u8 hb 82 1 _ rfl, enters_of Try.func91 (by kernel_rfl) rfl, fun p W hp => rightUnit_any p W hp⟩
  · exact ⟨92, fun hb => look_u8 hb 84 2 _ rfl, enters_of Try.func92 (by kernel_rfl) rfl, fun p W hp => topUnit_any p W hp⟩
  · exact ⟨93, fun hb => look_u8 hb 66 3 _ rfl, enters_of Try.func93 (by kernel_rfl) rfl, fun p W hp => bottomUnit_any p W hp⟩
set_option maxRecDepth 100000 in
set_option maxHeartbeats 40000000 in
theorem implSe_any (a b : Int) (c : Pc) (s : ByteArray) (L : List Un) (C : Int) (w : World) (hs : s.size ≤ 1048577) (hL : Su.suR a b c s.data.toList = L) (hC : Su.code a b c s.data.toList = C) :
    Calls Try.prog 14 #[.int .i64 a, .int .i64 b, c.agg, .string s] w fun e w' => SeC w L C e w' := by
  obtain ⟨i0, hi0, hz0, hz1, hz2⟩ := info_parts infoUn
  obtain ⟨d, hd⟩ : ∃ d, Gu.okP c = d := ⟨_, rfl⟩
  have hpc := fun W => implPc_any c d W hd
  have HB0 := Lib.hid (below_newS w (.cells #[.int .i64 c.w, .int .i64 c.h] 25))
  have HK0 := Lib.hid (Blk.new (w := w) (g := w.heap.size) #[.int .i64 c.w, .int .i64 c.h] 25 rfl)
  have HC := Lib.hid hC
  have HL := Lib.hid hL
  have HD := Lib.hid hd
  rw [Su.code_fo, hd] at hC
  clear hL hd
  cases d
  · rw [if_neg (by decide)] at hC
    have HE : Hid (L = []) := Lib.hid (by rw [← HL.out]; unfold Su.suR; rw [HC.out, ← hC, if_neg (by decide)])
    subst hC
    go_enter Try.func14, Try.ntmps14
    go_wp2_with fail
    refine (hpc _).mono ?_
    rintro e w1 ⟨rfl, hb1⟩
    have HB1 := Lib.hid (HB0.out.trans (hb1.mono HB0.out.size))
    clear hb1
    go_wp2_with fail
    go_ret2
    exact SeC.mk_ (lo := w.heap.size) (hi := w1.heap.size) HE.out rfl OwnS.nil_ (Nat.le_refl _) (Nat.le_refl _) (by omega) HB1.out
  rw [if_pos rfl] at hC
  have hch : ∀ W, Calls Try.prog 53 #[.int .i64 a, .int .i64 b, .string s] W fun e w' => e = .returned (.int .i64 C) ∧ W = w' := fun W => by rw [← hC]; exact checkScheme_any a b s W hs
  by_cases hc0 : C = 0
  rotate_left
  · have hcB : (C != 0) = true := by simpa using hc0
    have HE : Hid (L = []) := Lib.hid (by rw [← HL.out]; unfold Su.suR; rw [HC.out, if_neg hc0])
    clear hC
    go_enter Try.func14, Try.ntmps14
    go_wp2_with fail
    refine (hpc _).mono ?_
    rintro e w1 ⟨rfl, hb1⟩
    have HB1 := Lib.hid (HB0.out.trans (hb1.mono HB0.out.size))
    clear hb1
    go_wp2_with fail
    refine (hch _).mono ?_
    rintro e _ ⟨rfl, rfl⟩
    go_wp2_with fail
    go_ret2
    exact SeC.mk_ (lo := w.heap.size) (hi := w1.heap.size) HE.out rfl OwnS.nil_ (Nat.le_refl _) (Nat.le_refl _) (by omega) HB1.out
  subst hc0
  obtain ⟨hok, hsch⟩ := Su.code0 HC.out
  obtain ⟨ha, hb, hs6, hlet⟩ := Su.scheme_facts hsch
  have hsz : s.size ≤ 6 := by rw [Array.length_toList] at hs6; exact hs6
  have HSM := fun k => Su.sz_small ha hb hok s.data.toList k
  have HOK := Lib.hid hlet
  have HE : Hid (L = Su.suT a b c s.data.toList s.size) := Lib.hid (by rw [← HL.out]; unfold Su.suR; rw [if_pos HC.out, Array.length_toList]; rfl)
  obtain ⟨q0, hq0⟩ : ∃ q, Su.sz a b c s.data.toList 0 = q := ⟨_, rfl⟩
  have hfl := fun W => flatSheet_any a b c q0 W ha hb hok (by rw [← hq0, Su.sz_zero])
  have HQ0 := Lib.hid hq0
  clear hC hok hsch hs6 hlet ha hb hq0
  go_enter Try.func14, Try.ntmps14
  go_wp2_with fail
  refine (hpc _).mono ?_
  rintro e w1 ⟨rfl, hb1⟩
  have hB1 := HB0.out.trans (hb1.mono HB0.out.size)
  have k1 := HK0.out.below hb1 HK0.out.lt
  have z1 : w.heap.size + 1 ≤ w1.heap.size := by have := hb1.size; simpa using this
  clear hb1 hpc
  go_wp2_with fail
  refine (hch _).mono ?_
  rintro e _ ⟨rfl, rfl⟩
  go_wp2_with fail
  refine (units_any _).mono ?_
  rintro e w2 ⟨rfl, rfl⟩
  have m2 : (w1.alloc (.map Su.es4 4)).heap[w1.heap.size]? = some (.map Su.es4 4) := (MapKept.heap_alloc w1 _).1
  have hB2 := hB1.alloc (show w.heap.size ≤ w1.heap.size by omega) (.map Su.es4 4)
  have k2 := k1.alloc (.map Su.es4 4)
  have z2 : (w1.alloc (.map Su.es4 4)).heap.size = w1.heap.size + 1 := by simp
  have c0 := k2.cell 0 (v := .int .i64 c.w) rfl
  have c1 := k2.cell 1 (v := .int .i64 c.h) rfl
  clear hch k1
  go_wp2_with fail
  refine (hfl _).mono ?_
  rintro e w3 ⟨rfl, hb3⟩
  have z3 := hb3.size
  have m3 : w3.heap[w1.heap.size]? = some (.map Su.es4 4) := (hb3.block _ (by omega)).trans m2
  have hB3 := hB2.trans (hb3.mono (by omega))
  have k4 := Blk.new (w := w3) (g := w3.heap.size) #[.int .i64 q0.w, .int .i64 q0.h] 25 rfl
  have hb4 := (Below.refl w3.heap.size w3).alloc (Nat.le_refl _) (.cells #[.int .i64 q0.w, .int .i64 q0.h] 25)
  have m4 := (hb4.block _ (by omega)).trans m3
  have hB4 := hB3.trans (hb4.mono (by omega))
  have z4 : (w3.alloc (.cells #[.int .i64 q0.w, .int .i64 q0.h] 25)).heap.size = w3.heap.size + 1 := by simp
  clear hb3 hb4 m2 m3 hB1 hB2 hB3 c0 c1 k2 hfl
  go_wp2_with (at_make; refine wpList_make_own _ rfl _ _ 28 rfl (w3.heap.size + 1) 83 i0 _ 3 Try.underlying28 hi0 hz0 hz1 .i64 .i64 _ s.size rfl rfl rfl (by rw [hz2]; omega) (by unfold maxLen; omega) (by omega) ?_; intro w5 hown5 hg5)
  have HI : SxI w w1.heap.size w3.heap.size w5.heap.size (some ⟨w3.heap.size + 1, 0, none⟩) 0 s.size [] q0 w5 := by
    have hb5 : Below (w3.heap.size + 1) _ w5 := (Below.refl _ _).grown hg5 (by simp) (by simp)
    have hz5 := hb5.size
    have ho5 : OwnS Un.S w5 (w3.heap.size + 1) w5.heap.size (.slice (some ⟨w3.heap.size + 1, 0, none⟩) 0 s.size) [] := OwnS.here (by rw [z4] at hown5; exact hown5) rfl
    exact ⟨(hb5.block _ (by omega)).trans m4, k4.below hb5 (by omega), ho5, by omega, by omega, by omega, Nat.le_refl _, hB4.trans (hb5.mono (by omega))⟩
  clear hown5 hg5 k4 m4 hB4
  try rw [z4]
  go_loopw [13, 14, 15, 36] (fun o _ _ i wr => ∃ (k : Nat) (A : Option Addr) (cp hi : Nat) (q : Pc), k ≤ s.size ∧ i = .int .i64 k ∧ o = .slice A k cp ∧ Hid (Su.sz a b c s.data.toList k = q) ∧ SxI w w1.heap.size w3.heap.size hi A k cp (Su.suT a b c s.data.toList k) q wr) (fun _ _ _ i _ => s.size - (intOf i).toNat)
  case atStart => exact ⟨0, _, _, _, q0, Nat.zero_le _, rfl, rfl, HQ0, HI⟩
  case round =>
    clear HI z1 z2 z3 z4
    obtain ⟨k, A, cp, hi, q, hk, rfl, rfl, HQ, hI⟩ := hrel
    by_cases hlt : k < s.size
    · have hltI : (k : Int) < (s.size : Int) := by omega
      obtain ⟨x, hx⟩ := str_get s k hlt
      have hix := index_str s k x hx
      have hsm := HSM k
      rw [HQ.out] at hsm
      have hxy : Fo.isX x = true ∨ Fo.isY x = true := by
        have := List.all_eq_true.1 HOK.out x (List.mem_of_getElem? hx)
        simpa using this
      obtain ⟨f, hlook, hcf, hun⟩ := Su.fn_of hxy
      obtain ⟨u, hu⟩ : ∃ u, Su.unit q x = u := ⟨_, rfl⟩
      have hcall := fun W => hun q W hsm
      rw [hu] at hcall
      have HN : Hid (Su.suT a b c s.data.toList (k + 1) = Su.suT a b c s.data.toList k ++ [u]) := Lib.hid (by rw [Su.suT_next hx, HQ.out, hu])
      have HZ : Hid (Su.sz a b c s.data.toList (k + 1) = Su.fold q u) := Lib.hid (by rw [Su.sz_next hx, HQ.out, ← hu, Su.fold_unit])
      obtain ⟨q2, hq2⟩ : ∃ q2, Su.fold q u = q2 := ⟨_, rfl⟩
      have hfo := fun W => foldedBy_any q u q2 W hq2
      rw [hq2] at HZ
      clear hq2
      have hm0 := hI.m
      have c0 := hI.z.cell 0 (v := .int .i64 q.w) rfl
      have c1 := hI.z.cell 1 (v := .int .i64 q.h) rfl
      have HI := Lib.hid hI
      clear hx hxy hun hu hI hsm
      go_wp2_with fail
      refine wp_region_held_drew (S := (fun V => V.heap[w1.heap.size]? = some (.map Su.es4 4) ∧ V.cell? ⟨w3.heap.size, 0, none⟩ = some (.int .i64 q.w) ∧ V.cell? ⟨w3.heap.size, 1, none⟩ = some (.int .i64 q.h))) (by kernel_rfl) ⟨hm0, c0, c1⟩ (fun hHeld => ?_)
      refine wpAnyH_take (i := 0) (oi := ⟨some 39, _, _, _, _, _⟩) (v := ?_) rfl (by kernel_rfl) (by kernel_rfl) (by kernel_rfl) (fun _ _ _ h => h) (Or.inl ⟨by kernel_rfl, ?_⟩) (by assumption) ?_
      rotate_left
      · (intro W hSw; obtain ⟨s0, s1, s2⟩ := hSw; have hl := hlook s0; go_simp; first | done | with_reducible rfl)
      refine wpAnyH_take (i := 1) (oi := ⟨some 40, _, _, _, _, _⟩) (v := ?_) rfl (by kernel_rfl) (by kernel_rfl) (by kernel_rfl) (fun _ _ _ h => h) (Or.inl ⟨by kernel_rfl, ?_⟩) (by assumption) ?_
      rotate_left
      · (intro W hSw; obtain ⟨s0, s1, s2⟩ := hSw; have hl := hlook s0; go_simp; first | done | with_reducible rfl)
      refine wpAnyH_take (i := 2) (oi := ⟨some 41, _, _, _, _, _⟩) (v := ?_) rfl (by kernel_rfl) (by kernel_rfl) (by kernel_rfl) (fun _ _ _ h => h) (Or.inl ⟨by kernel_rfl, ?_⟩) (by assumption) ?_
      rotate_left
      · (intro W hSw; obtain ⟨s0, s1, s2⟩ := hSw; have hl := hlook s0; go_simp; first | done | with_reducible rfl)
      refine wpAnyH_take (i := 3) (oi := ⟨some 42, _, _, _, _, _⟩) (v := ?_) rfl (by kernel_rfl) (by kernel_rfl) (by kernel_rfl) (fun _ _ _ h => h) (Or.inl ⟨by kernel_rfl, ?_⟩) (by assumption) ?_
      rotate_left
      · (intro W hSw; obtain ⟨s0, s1, s2⟩ := hSw; have hl := hlook s0; go_simp; first | done | with_reducible rfl)
      refine wpAnyH_take (i := 4) (oi := ⟨some 43, _, _, _, _, _⟩) (v := ?_) rfl (by kernel_rfl) (by kernel_rfl) (by kernel_rfl) (fun _ _ _ h => h) (Or.inl ⟨by kernel_rfl, ?_⟩) (by assumption) ?_
      rotate_left
      · (intro W hSw; obtain ⟨s0, s1, s2⟩ := hSw; have hl := hlook s0; go_simp; first | done | with_reducible rfl)
      refine wpAnyH_take (i := 5) (oi := ⟨some 44, _, _, _, _, _⟩) (v := ?_) rfl (by kernel_rfl) (by kernel_rfl) (by kernel_rfl) (fun _ _ _ h => h) (Or.inl ⟨by kernel_rfl, ?_⟩) (by assumption) ?_
      rotate_left
      · (intro W hSw; obtain ⟨s0, s1, s2⟩ := hSw; have hl := hlook s0; go_simp; first | done | with_reducible rfl)
      refine wpAnyH_ready (rs := [6, 7]) (by kernel_rfl) (by simp) ?_
      refine AllReadyH.cons rfl (fun K hK => ?_) (AllReadyH.cons rfl (fun K hK => ?_) AllReadyH.nil)
      rw [if_pos (by kernel_rfl)]
      go_simp
      refine (hcall _).mono ?_
      rintro e' w6 ⟨rfl, hb6⟩
      have HI6 := Lib.hid (HI.out.drew.below hb6)
      have hS6 := And.intro HI6.out.m (And.intro (HI6.out.z.cell 0 (v := .int .i64 q.w) rfl) (HI6.out.z.cell 1 (v := .int .i64 q.h) rfl))
      refine hK.out _ _ hS6 (fun hHeld2 => ?_)
      have HI7 := Lib.hid (HI6.out.below ((Below.refl w6.heap.size w6).alloc (Nat.le_refl _) (.cells #[.bool u.a, .int .i64 u.g, .bool u.o] 83)))
      have HU7 := Lib.hid (Blk.new (w := w6) (g := w6.heap.size) #[.bool u.a, .int .i64 u.g, .bool u.o] 83 rfl)
      refine wpAnyH_ready (rs := [7]) (by kernel_rfl) (by simp) ?_
      refine AllReadyH.cons rfl (fun K hK => ?_) AllReadyH.nil
      rw [if_pos (by kernel_rfl)]
      go_simp
      have HI7z := Lib.hid (HI6.out.below ((Below.refl w6.heap.size w6).alloc (Nat.le_refl _) (.cells #[.bool false, .int .i64 0, .bool false] 83)))
      have hS7 := And.intro HI7z.out.m (And.intro (HI7z.out.z.cell 0 (v := .int .i64 q.w) rfl) (HI7z.out.z.cell 1 (v := .int .i64 q.h) rfl))
      refine hK.out _ _ hS7 (fun hHeld3 => ?_)
      refine wpAnyH_ready (rs := [8]) (by kernel_rfl) (by simp) ?_
      refine AllReadyH.cons rfl (fun K hK => ?_) AllReadyH.nil
      rw [if_pos (by kernel_rfl)]
      go_simp
      have hS8 := And.intro HI7.out.m (And.intro (HI7.out.z.cell 0 (v := .int .i64 q.w) rfl) (HI7.out.z.cell 1 (v := .int .i64 q.h) rfl))
      refine hK.out _ _ hS8 (fun hHeld4 => ?_)
      refine wpAnyH_done (by kernel_rfl) ?_ _
      try dsimp only
      simp only [Exit.then, go_sem, List.setIfInBounds_toArray, List.set_cons_succ, List.set_cons_zero]
      have HI8 := HI7
      have HU8 := HU7
      have hle8 : hi ≤ w6.heap.size := HI6.out.lh
      generalize (w6.alloc (.cells #[.bool u.a, .int .i64 u.g, .bool u.o] 83)) = W8 at HI8 HU8 ⊢
      generalize w6.heap.size = G8 at HU8 hle8 ⊢
      clear HI7 HU7 HI7z hS7 hS8 HI6 hS6 hb6
      rotate_left
      have HI5 := Lib.hid (HI.out.drew.below ((Below.refl wr.drew.heap.size wr.drew).alloc (Nat.le_refl _) (.cells #[.bool false, .int .i64 0, .bool false] 83)))
      have HU5 := Lib.hid (Blk.new (w := wr.drew) (g := wr.heap.size) #[.bool false, .int .i64 0, .bool false] 83 rfl)
      have hS5 := And.intro HI5.out.m (And.intro (HI5.out.z.cell 0 (v := .int .i64 q.w) rfl) (HI5.out.z.cell 1 (v := .int .i64 q.h) rfl))
      rw [if_pos (by kernel_rfl)]
      go_simp
      refine hK.out _ _ hS5 (fun hHeld2 => ?_)
      refine wpAnyH_ready (rs := [6]) (by kernel_rfl) (by simp) ?_
      refine AllReadyH.cons rfl (fun K hK => ?_) AllReadyH.nil
      rw [if_pos (by kernel_rfl)]
      go_simp
      refine (hcall _).mono ?_
      rintro e' w6 ⟨rfl, hb6⟩
      have HI6 := Lib.hid (HI5.out.below hb6)
      have HU6 := Lib.hid (HU5.out.below hb6 HU5.out.lt)
      have hS6 := And.intro HI6.out.m (And.intro (HI6.out.z.cell 0 (v := .int .i64 q.w) rfl) (HI6.out.z.cell 1 (v := .int .i64 q.h) rfl))
      refine hK.out _ _ hS6 (fun hHeld3 => ?_)
      have u0 := HU6.out.cell 0 (v := .bool false) rfl
      have u1 := HU6.out.cell 1 (v := .int .i64 0) rfl
      have u2 := HU6.out.cell 2 (v := .bool false) rfl
      have f0 := HU6.out.free 0
      have f1 := HU6.out.free 1
      have f2 := HU6.out.free 2
      have hle8 : hi ≤ wr.heap.size := HI.out.lh
      have HI7 := Lib.hid (((HI6.out.put (i := 0) (v := .bool u.a) hle8).put (i := 1) (v := .int .i64 u.g) hle8).put (i := 2) (v := .bool u.o) hle8)
      have HU7 := Lib.hid (Blk.set (Blk.set (Blk.set HU6.out 0 (.bool u.a)) 1 (.int .i64 u.g)) 2 (.bool u.o))
      refine wpAnyH_ready (rs := [8]) (by kernel_rfl) (by simp) ?_
      refine AllReadyH.cons rfl (fun K hK => ?_) AllReadyH.nil
      rw [if_pos (by kernel_rfl)]
      go_simp
      have hS8 := And.intro HI7.out.m (And.intro (HI7.out.z.cell 0 (v := .int .i64 q.w) rfl) (HI7.out.z.cell 1 (v := .int .i64 q.h) rfl))
      refine hK.out _ _ hS8 (fun hHeld4 => ?_)
      refine wpAnyH_done (by kernel_rfl) ?_ _
      try dsimp only
      simp only [Exit.then, go_sem, List.setIfInBounds_toArray, List.set_cons_succ, List.set_cons_zero]
      have HI8 := HI7
      have HU8 : Hid (Blk _ wr.heap.size #[.bool u.a, .int .i64 u.g, .bool u.o] 83) := HU7
      generalize (((w6.setCell ⟨wr.heap.size, 0, none⟩ (.bool u.a)).setCell ⟨wr.heap.size, 1, none⟩ (.int .i64 u.g)).setCell ⟨wr.heap.size, 2, none⟩ (.bool u.o)) = W8 at HI8 HU8 ⊢
      generalize wr.heap.size = G8 at HU8 hle8 ⊢
      clear HI7 HU7 HI6 HU6 HI5 HU5 hS5 hS6 hS8 hb6 u0 u1 u2 f0 f1 f2
      rotate_left
      all_goals
        have u0 := HU8.out.cell 0 (v := .bool u.a) rfl
        have u1 := HU8.out.cell 1 (v := .int .i64 u.g) rfl
        have u2 := HU8.out.cell 2 (v := .bool u.o) rfl
        go_wp2_with (at_builtin; refine wp_pushUn W8 rfl (.tmp 46) (.tmp 48) 28 rfl Try.underlying28 A k cp _ _ _ (by rfl) HI8.out.o u W8.heap.size (by rfl) rfl (by omega) (by have := HI8.out.z.lt; omega) ?_; intro A9 c9 w9 ho9 hm9; have HI9 := Lib.hid (HI8.out.push ho9 hm9); have HU9 := Lib.hid (HU8.out.only hm9 (.inr hle8)); clear ho9 hm9; have v0 := HU9.out.cell 0 (v := .bool u.a) rfl; have v1 := HU9.out.cell 1 (v := .int .i64 u.g) rfl; have v2 := HU9.out.cell 2 (v := .bool u.o) rfl; have y0 := HI9.out.z.cell 0 (v := .int .i64 q.w) rfl; have y1 := HI9.out.z.cell 1 (v := .int .i64 q.h) rfl)
        refine (hfo _).mono ?_
        rintro e w10 ⟨rfl, hb10⟩
        have HI10 := Lib.hid (HI9.out.below hb10)
        have y2 := HI10.out.z.cell 0 (v := .int .i64 q.w) rfl
        have y3 := HI10.out.z.cell 1 (v := .int .i64 q.h) rfl
        have y4 := HI10.out.z.free 0
        have y5 := HI10.out.z.free 1
        have HI11 := Lib.hid (HI10.out.size (q' := q2))
        clear hb10 u0 u1 u2 v0 v1 v2 y0 y1
        go_wp2_with fail
        go_roundw
        case rel => exact ⟨k + 1, A9, c9, _, q2, by omega, by go_num, rfl, HZ, by rw [HN.out]; exact HI11.out⟩
        case measure => simp [intOf]; omega
    · obtain rfl : k = s.size := by omega
      have hn6 : s.size ≤ 1048576 := by omega
      go_wp2_with fail
      go_ret2
      exact SeC.mk_ HE.out rfl hI.o (by have := hI.l0; have := hI.l1; omega) hI.lh hn6 hI.b
end Go.Proofs.Ytnfnmdeiaihgnaa
