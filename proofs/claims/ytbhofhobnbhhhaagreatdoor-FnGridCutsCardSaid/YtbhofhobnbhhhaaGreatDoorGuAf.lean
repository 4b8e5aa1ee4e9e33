/- The pieces after a cut: the program's. -/
import Derived.Test.YtbhofhobnbhhhaaGreatDoorGuPa
import Derived.Deep.RegionLaw
namespace Go.Proofs.YtbhofhobnbhhhaaGreatDoor
open Go.RowKit
set_option linter.unusedVariables false

/-- Behind 'first, second := ..': the cut's box, and two boxes with the two parts. -/
structure AfM (w : World) (i : Int) (a : Bool) (t : Int) (G1 G2 : Nat) (f s : Pc) (W : World) : Prop where
  c : Blk W w.heap.size #[.int .i64 i, .bool a, .int .i64 t] 50
  e1 : Blk W G1 #[.int .i64 f.w, .int .i64 f.h] 25
  e2 : Blk W G2 #[.int .i64 s.w, .int .i64 s.h] 25
  b : Below w.heap.size w W
abbrev AfS (w : World) (b q : Nat) (k : Int) (a : Bool) (t : Int) (x : Pc) (V : World) : Prop :=
  V.cell? ⟨w.heap.size, 0, none⟩ = some (.int .i64 k) ∧ V.cell? ⟨w.heap.size, 1, none⟩ = some (.bool a) ∧ V.cell? ⟨w.heap.size, 2, none⟩ = some (.int .i64 t) ∧ V.cell? ⟨b, q, none⟩ = some (.int .i64 x.w) ∧ V.cell? ⟨b, q + 1, none⟩ = some (.int .i64 x.h)
/-- What the last statement reads: the index, and the two parts. -/
abbrev AfR (wc G1 G2 : Nat) (k : Int) (f s : Pc) (V : World) : Prop :=
  V.cell? ⟨wc, 0, none⟩ = some (.int .i64 k) ∧ V.cell? ⟨G1, 0, none⟩ = some (.int .i64 f.w) ∧ V.cell? ⟨G1, 1, none⟩ = some (.int .i64 f.h) ∧ V.cell? ⟨G2, 0, none⟩ = some (.int .i64 s.w) ∧ V.cell? ⟨G2, 1, none⟩ = some (.int .i64 s.h)
section
variable {w V V' : World} {b q g wc G1 G2 : Nat} {k t : Int} {a : Bool} {x f s : Pc} {cs : Array Value} {ty : TypeId}
theorem AfS.alloc (h : AfS w b q k a t x V) (h1 : w.heap.size < V.heap.size) (h2 : b < V.heap.size) (o : Obj) : AfS w b q k a t x (V.alloc o) :=
  ⟨(World.cell?_alloc_lt V o _ h1).trans h.1, (World.cell?_alloc_lt V o _ h1).trans h.2.1, (World.cell?_alloc_lt V o _ h1).trans h.2.2.1, (World.cell?_alloc_lt V o _ h2).trans h.2.2.2.1, (World.cell?_alloc_lt V o _ h2).trans h.2.2.2.2⟩
theorem AfS.below {B : Nat} (h : AfS w b q k a t x V) (hb : Below B V V') (h1 : w.heap.size < B) (h2 : b < B) : AfS w b q k a t x V' :=
  ⟨(hb.cell h1).trans h.1, (hb.cell h1).trans h.2.1, (hb.cell h1).trans h.2.2.1, (hb.cell h2).trans h.2.2.2.1, (hb.cell h2).trans h.2.2.2.2⟩
theorem AfS.set (h : AfS w b q k a t x V) (g i : Nat) (v : Value) (h1 : w.heap.size ≠ g) (h2 : b ≠ g) : AfS w b q k a t x (V.setCell ⟨g, i, none⟩ v) :=
  ⟨(cell_other9 h1).trans h.1, (cell_other9 h1).trans h.2.1, (cell_other9 h1).trans h.2.2.1, (cell_other9 h2).trans h.2.2.2.1, (cell_other9 h2).trans h.2.2.2.2⟩
theorem AfR.alloc (h : AfR wc G1 G2 k f s V) (h1 : wc < V.heap.size) (h2 : G1 < V.heap.size) (h3 : G2 < V.heap.size) (o : Obj) : AfR wc G1 G2 k f s (V.alloc o) :=
  ⟨(World.cell?_alloc_lt V o _ h1).trans h.1, (World.cell?_alloc_lt V o _ h2).trans h.2.1, (World.cell?_alloc_lt V o _ h2).trans h.2.2.1, (World.cell?_alloc_lt V o _ h3).trans h.2.2.2.1, (World.cell?_alloc_lt V o _ h3).trans h.2.2.2.2⟩
theorem AfR.below {B : Nat} (h : AfR wc G1 G2 k f s V) (hb : Below B V V') (h1 : wc < B) (h2 : G1 < B) (h3 : G2 < B) : AfR wc G1 G2 k f s V' :=
  ⟨(hb.cell h1).trans h.1, (hb.cell h2).trans h.2.1, (hb.cell h2).trans h.2.2.1, (hb.cell h3).trans h.2.2.2.1, (hb.cell h3).trans h.2.2.2.2⟩
theorem ret_len {A : Option Addr} {n m c : Nat} (h : n = m) : Ending.returned (.slice A n c) = .returned (.slice A m c) := by rw [h]
theorem Blk.two9 {v v' v0 v1 : Value} (h : Blk V g #[v0, v1] ty) : Blk ((V.setCell ⟨g, 0, none⟩ v).setCell ⟨g, 1, none⟩ v') g #[v, v'] ty := (h.set 0 v).set 1 v'
theorem Blk.other9 {g' i : Nat} {v : Value} (h : Blk V g cs ty) (hne : g ≠ g') : Blk (V.setCell ⟨g', i, none⟩ v) g cs ty := h.other ⟨g', i, none⟩ v hne
theorem below_set9' {B g' i : Nat} {v : Value} (h : Below B w V) (hb : B ≤ g') : Below B w (V.setCell ⟨g', i, none⟩ v) := below_set9 h hb
end

set_option maxRecDepth 100000 in
set_option maxHeartbeats 4000000 in
theorem after_any (b o n c B k : Nat) (l : List Pc) (a : Bool) (t : Int) (w : World) (h : RdS Pc.S w B (some ⟨b, o, none⟩) n l) (hB : B ≤ w.heap.size) (hok : Gu.okL l = true) (hc : n ≤ c) (hcan : Gu.canP l ⟨(k : Int), a, t⟩) :
    Calls Tryz.prog 34 #[.slice (some ⟨b, o, none⟩) n c, .agg #[.int .i64 (k : Int), .bool a, .int .i64 t]] w fun e w' => ∃ A' c', e = .returned (.slice A' (n + 1) c') ∧ OwnS Pc.S w' w.heap.size w'.heap.size (.slice A' (n + 1) c') (Gu.cut l ⟨(k : Int), a, t⟩) ∧ Below w.heap.size w w' := by
  have hl := h.1
  have hk : k < n := by have := hcan.2.2.1; simp at this; omega
  have hn80 : n < 80 := by have := hcan.1; omega
  obtain ⟨b1, o1, x, ea, hbB, hx, c0, c1⟩ := (h.alloc hB (.cells #[.int .i64 (k : Int), .bool a, .int .i64 t] 50)).at_Pc hk
  injection ea with ea
  injection ea with ea1 ea2 _
  subst ea1 ea2
  have hxo := (Gu.okL_all hok).2 x (List.mem_of_getElem? hx)
  have hat : Gu.atI l (k : Int) = x := Gu.atI_get (by simpa using hx)
  have h1 := hcan.2.2.2.1
  have h2 := hcan.2.2.2.2
  simp only [hat] at h1 h2
  have HPA := fun W => parts_any x (k : Int) a t W hxo h1 h2
  have HCU : Hid (Gu.cut l ⟨(k : Int), a, t⟩ = l.take k ++ [(Gu.fst x ⟨(k : Int), a, t⟩), (Gu.snd x ⟨(k : Int), a, t⟩)] ++ l.drop (k + 1)) := Lib.hid (by unfold Gu.cut; simp only [hat, Int.toNat_natCast])
  have bcA : Blk (w.alloc (.cells #[.int .i64 (k : Int), .bool a, .int .i64 t] 50)).drew w.heap.size #[.int .i64 (k : Int), .bool a, .int .i64 t] 50 := Blk.new _ _ rfl
  have bcB : Blk ((w.alloc (.cells #[.int .i64 (k : Int), .bool a, .int .i64 t] 50)).alloc (.cells #[.int .i64 0, .int .i64 0] 25)).drew w.heap.size #[.int .i64 (k : Int), .bool a, .int .i64 t] 50 := Blk.alloc bcA _
  have bcC : Blk (((w.alloc (.cells #[.int .i64 (k : Int), .bool a, .int .i64 t] 50)).alloc (.cells #[.int .i64 0, .int .i64 0] 25)).alloc (.cells #[.int .i64 0, .int .i64 0] 25)).drew w.heap.size #[.int .i64 (k : Int), .bool a, .int .i64 t] 50 := Blk.alloc bcB _
  have hbA : Below w.heap.size w (w.alloc (.cells #[.int .i64 (k : Int), .bool a, .int .i64 t] 50)).drew := below_drewN' (below_new9 w _) 1
  have hbB' : Below w.heap.size w ((w.alloc (.cells #[.int .i64 (k : Int), .bool a, .int .i64 t] 50)).alloc (.cells #[.int .i64 0, .int .i64 0] 25)).drew := hbA.alloc (by simp) _
  have hbC : Below w.heap.size w (((w.alloc (.cells #[.int .i64 (k : Int), .bool a, .int .i64 t] 50)).alloc (.cells #[.int .i64 0, .int .i64 0] 25)).alloc (.cells #[.int .i64 0, .int .i64 0] 25)).drew := hbB'.alloc (by simp; omega) _
  clear hx h1 h2 hcan hat
  go_enter Tryz.func34, Tryz.ntmps34
  go_wp2_with fail
  rename_i K hK0 hx0_
  have hP : ∀ (G1 G2 : Nat) (W : World), AfM w (k : Int) a t G1 G2 (Gu.fst x ⟨(k : Int), a, t⟩) (Gu.snd x ⟨(k : Int), a, t⟩) W → K { tmps := #[.slice (some ⟨b, o, none⟩) n c, .agg #[.int .i64 (k : Int), .bool a, .int .i64 t], undef, .pointer (some ⟨w.heap.size, 0, none⟩), .slice none 0 0, .pointer (some ⟨G1, 0, none⟩), .pointer (some ⟨G2, 0, none⟩), undef, .tuple #[(Gu.fst x ⟨(k : Int), a, t⟩).agg, (Gu.snd x ⟨(k : Int), a, t⟩).agg], .slice (some ⟨b, o, none⟩) n c, .pointer (some ⟨w.heap.size, 0, none⟩), .int .i64 (k : Int), .pointer (some ⟨b, o + k * 2, none⟩), .agg #[.int .i64 x.w, .int .i64 x.h], .agg #[.int .i64 (k : Int), .bool a, .int .i64 t], .tuple #[(Gu.fst x ⟨(k : Int), a, t⟩).agg, (Gu.snd x ⟨(k : Int), a, t⟩).agg], (Gu.fst x ⟨(k : Int), a, t⟩).agg, (Gu.snd x ⟨(k : Int), a, t⟩).agg, undef, undef, undef, undef, undef, undef, undef, undef, undef, undef, undef, undef, undef, undef, undef, undef, undef], defers := [] } W := by
    intro G1 G2 W M
    apply hK0
    clear hK0 bcA bcB bcC hbA hbB' hbC c0 c1 HPA
    have hr := h.below M.b hB
    have hbw : b < w.heap.size := by omega
    obtain ⟨f, hf⟩ : ∃ f, f = (Gu.fst x ⟨(k : Int), a, t⟩) := ⟨_, rfl⟩
    obtain ⟨s, hs⟩ : ∃ s, s = (Gu.snd x ⟨(k : Int), a, t⟩) := ⟨_, rfl⟩
    rw [← hf, ← hs] at M HCU ⊢
    clear hf hs
    have l0 := M.c.lt
    have l1 := M.e1.lt
    have l2 := M.e2.lt
    have c0 := M.c.cell 0 (v := .int .i64 (k : Int)) rfl
    have hz := M.b.size
    have hSR : AfR w.heap.size G1 G2 (k : Int) f s W.drew := ⟨c0, M.e1.cell 0 rfl, M.e1.cell 1 rfl, M.e2.cell 0 rfl, M.e2.cell 1 rfl⟩
    have hSRa : ∀ o', AfR w.heap.size G1 G2 (k : Int) f s (W.alloc o').drew := fun o' => AfR.alloc hSR l0 l1 l2 o'
    have HB := Lib.hid M.b
    have hkc : k ≤ c := by omega
    have hk1 : k + 1 ≤ n := hk
    have e1 : IntKind.i64.wrap ((k : Int) + 1) = (k : Int) + 1 := IntWalk.i64_in _ (by omega)
    have e2 : (0 : Int) ≤ (k : Int) + 1 := by omega
    have e3 : (k : Int) + 1 ≤ (n : Int) := by omega
    have e4 : ((k : Int) + 1).toNat = k + 1 := by omega
    have HR : ∀ V, Below W.heap.size W V → RdS Pc.S V B (some ⟨b, o, none⟩) n l := fun V hV => hr.below hV (by omega)
    have HR1 : RdS Pc.S (W.alloc (.cells #[.int .i64 f.w, .int .i64 f.h, .int .i64 s.w, .int .i64 s.h] 25)).drew B (some ⟨b, o, none⟩) k (l.take k) := by
      have := (HR _ (below_drewN' (below_new9 W (.cells #[.int .i64 f.w, .int .i64 f.h, .int .i64 s.w, .int .i64 s.h] 25)) 1)).part (i := 0) (m := k) (by omega)
      rw [Nat.zero_mul, Nat.add_zero, List.drop_zero] at this
      exact this
    have HLT : RdS Pc.S (W.alloc (.cells #[.int .i64 f.w, .int .i64 f.h, .int .i64 s.w, .int .i64 s.h] 25)).drew (W.heap.size + 1) (some ⟨W.heap.size, 0, none⟩) 2 [f, s] := (OwnS.lit (S := Pc.S) W [f, s] #[.int .i64 f.w, .int .i64 f.h, .int .i64 s.w, .int .i64 s.h] rfl 2 rfl (by omega)).rd
    have hLB : Below W.heap.size W (W.alloc (.cells #[.int .i64 f.w, .int .i64 f.h, .int .i64 s.w, .int .i64 s.h] 25)).drew := below_drewN' (below_new9 W _) 1
    have hLS : (W.alloc (.cells #[.int .i64 f.w, .int .i64 f.h, .int .i64 s.w, .int .i64 s.h] 25)).drew.heap.size = W.heap.size + 1 := by simp
    clear M
    by_cases hck : c = k + 1
    · obtain rfl : n = k + 1 := by omega
      subst hck
      have HR2 : ∀ V, Below W.heap.size W V → RdS Pc.S V B (some ⟨b, o, none⟩) 0 (l.drop (k + 1)) := fun V hV => by
        rw [List.drop_of_length_le (by omega)]
        exact ⟨rfl, fun h => by omega⟩
      have HCU2 : Hid (Gu.cut l ⟨(k : Int), a, t⟩ = l.take k ++ [f, s] ++ l.drop (k + 1)) := HCU
      go_wp2_with fail
      rename_i K4 hK4
      go_region_held3 (fun V => AfR w.heap.size G1 G2 (k : Int) f s V)
        (first | with_reducible exact hSR | with_reducible exact hSRa _ | with_reducible exact hS6 | with_reducible exact hS7)
        (first
          | (refine step_growPc (W.alloc (.cells #[.int .i64 f.w, .int .i64 f.h, .int .i64 s.w, .int .i64 s.h] 25)).drew rfl (.tmp 24) (.tmp 27) 64 rfl Tryz.underlying64 b o k k (l.take k) B (by rfl) HR1 W.heap.size 0 2 2 (W.heap.size + 1) [f, s] (by rfl) HLT (by omega) (by omega) ?_; intro A6 c6 w6 ho6 hm6; have hS6 : AfR w.heap.size G1 G2 (k : Int) f s w6 := AfR.below (hSRa _) hm6 (by omega) (by omega) (by omega); have hB6 : Below W.heap.size W w6 := hLB.trans (hm6.mono (by omega)); have z6 := hm6.size; have hr6 := HR2 w6 hB6)
          | (refine step_spreadPc w6 rfl (.tmp 28) (.tmp 33) 64 rfl Tryz.underlying64 A6 (k + 2) c6 (l.take k ++ [f, s]) _ _ (by rfl) ho6 (some ⟨b, o, none⟩) 0 0 B (l.drop (k + 1)) (by rfl) hr6 (by omega) (by omega) ?_; intro A7 c7 w7 ho7 hm7; have hS7 : AfR w.heap.size G1 G2 (k : Int) f s w7 := AfR.below hS6 (hm7.below (B := W.heap.size + 1) (by omega) (by omega)) (by omega) (by omega) (by omega)))
      apply hK4
      clear hK4
      have HF := Lib.hid ho7
      have HBF := Lib.hid (HB.out.trans ((hB6.mono (by omega)).trans (hm7.below (B := w.heap.size) (by omega) (by omega))))
      have hLo := Lib.hid (show w.heap.size ≤ (W.alloc (.cells #[.int .i64 f.w, .int .i64 f.h, .int .i64 s.w, .int .i64 s.h] 25)).drew.heap.size by omega)
      clear hS6 hS7 hSR hSRa HR HR1 HLT hLB hLS HR2 hr6 ho6 hm6 hm7 hB6 ho7 c0
      go_wp2_with fail
      go_ret
      have hF := HF.out
      rw [show k + 2 + 0 = (k + 1) + 1 by omega] at hF
      refine ⟨A7, c7, ret_len (by omega), ?_, HBF.out⟩
      rw [HCU.out]
      exact hF.mono hLo.out (Nat.le_refl _)
    · have HR2 : ∀ V, Below W.heap.size W V → RdS Pc.S V B (some ⟨b, o + (k + 1) * 2, none⟩) (n - (k + 1)) (l.drop (k + 1)) := fun V hV => by
        have := (HR V hV).part (i := k + 1) (m := n - (k + 1)) (by omega)
        rwa [List.take_of_length_le (by simp; omega)] at this
      go_wp2_with fail
      rename_i K4 hK4
      go_region_held3 (fun V => AfR w.heap.size G1 G2 (k : Int) f s V)
        (first | with_reducible exact hSR | with_reducible exact hSRa _ | with_reducible exact hS6 | with_reducible exact hS7)
        (first
          | (refine step_growPc (W.alloc (.cells #[.int .i64 f.w, .int .i64 f.h, .int .i64 s.w, .int .i64 s.h] 25)).drew rfl (.tmp 24) (.tmp 27) 64 rfl Tryz.underlying64 b o k k (l.take k) B (by rfl) HR1 W.heap.size 0 2 2 (W.heap.size + 1) [f, s] (by rfl) HLT (by omega) (by omega) ?_; intro A6 c6 w6 ho6 hm6; have hS6 : AfR w.heap.size G1 G2 (k : Int) f s w6 := AfR.below (hSRa _) hm6 (by omega) (by omega) (by omega); have hB6 : Below W.heap.size W w6 := hLB.trans (hm6.mono (by omega)); have z6 := hm6.size; have hr6 := HR2 w6 hB6)
          | (refine step_spreadPc w6 rfl (.tmp 28) (.tmp 33) 64 rfl Tryz.underlying64 A6 (k + 2) c6 (l.take k ++ [f, s]) _ _ (by rfl) ho6 (some ⟨b, o + (k + 1) * 2, none⟩) (n - (k + 1)) (c - (k + 1)) B (l.drop (k + 1)) (by rfl) hr6 (by omega) (by omega) ?_; intro A7 c7 w7 ho7 hm7; have hS7 : AfR w.heap.size G1 G2 (k : Int) f s w7 := AfR.below hS6 (hm7.below (B := W.heap.size + 1) (by omega) (by omega)) (by omega) (by omega) (by omega)))
      apply hK4
      clear hK4
      have HF := Lib.hid ho7
      have HBF := Lib.hid (HB.out.trans ((hB6.mono (by omega)).trans (hm7.below (B := w.heap.size) (by omega) (by omega))))
      have hLo := Lib.hid (show w.heap.size ≤ (W.alloc (.cells #[.int .i64 f.w, .int .i64 f.h, .int .i64 s.w, .int .i64 s.h] 25)).drew.heap.size by omega)
      clear hS6 hS7 hSR hSRa HR HR1 HLT hLB hLS HR2 hr6 ho6 hm6 hm7 hB6 ho7 c0
      go_wp2_with fail
      go_ret
      have hF := HF.out
      rw [show k + 2 + (n - (k + 1)) = n + 1 by omega] at hF
      refine ⟨A7, c7, ret_len (by omega), ?_, HBF.out⟩
      rw [HCU.out]
      exact hF.mono hLo.out (Nat.le_refl _)
  clear hK0
  have q1 : Blk ((w.alloc (.cells #[.int .i64 (k : Int), .bool a, .int .i64 t] 50)).alloc (.cells #[.int .i64 0, .int .i64 0] 25)).drew (w.heap.size + 1) #[.int .i64 0, .int .i64 0] 25 := Blk.new _ _ (by simp)
  have q2 : Blk (((w.alloc (.cells #[.int .i64 (k : Int), .bool a, .int .i64 t] 50)).alloc (.cells #[.int .i64 0, .int .i64 0] 25)).alloc (.cells #[.int .i64 0, .int .i64 0] 25)).drew (w.heap.size + 1) #[.int .i64 0, .int .i64 0] 25 := Blk.alloc q1 _
  have q3 : Blk (((w.alloc (.cells #[.int .i64 (k : Int), .bool a, .int .i64 t] 50)).alloc (.cells #[.int .i64 0, .int .i64 0] 25)).alloc (.cells #[.int .i64 0, .int .i64 0] 25)).drew (w.heap.size + 1 + 1) #[.int .i64 0, .int .i64 0] 25 := Blk.new _ _ (by simp)
  have hbw : b < w.heap.size := by omega
  have n12 : ¬ w.heap.size + 1 = w.heap.size + 1 + 1 := by omega
  have n21 : ¬ w.heap.size + 1 + 1 = w.heap.size + 1 := by omega
  have hS0 : AfS w b (o + k * 2) (k : Int) a t x (w.alloc (.cells #[.int .i64 (k : Int), .bool a, .int .i64 t] 50)).drew := ⟨bcA.cell 0 rfl, bcA.cell 1 rfl, bcA.cell 2 rfl, c0, c1⟩
  have hS1 : AfS w b (o + k * 2) (k : Int) a t x ((w.alloc (.cells #[.int .i64 (k : Int), .bool a, .int .i64 t] 50)).alloc (.cells #[.int .i64 0, .int .i64 0] 25)).drew := AfS.alloc hS0 (by simp) (by simp; omega) _
  have hS2 : AfS w b (o + k * 2) (k : Int) a t x (((w.alloc (.cells #[.int .i64 (k : Int), .bool a, .int .i64 t] 50)).alloc (.cells #[.int .i64 0, .int .i64 0] 25)).alloc (.cells #[.int .i64 0, .int .i64 0] 25)).drew := AfS.alloc hS1 (by simp; omega) (by simp; omega) _
  go_region_held3 (fun V => AfS w b (o + k * 2) (k : Int) a t x V)
    (first | with_reducible exact hS0 | with_reducible exact hS1 | with_reducible exact hS2 | with_reducible exact hS5 | with_reducible exact hS6 _ | with_reducible exact hS7 _ _ | (focus ((repeat' (first | with_reducible assumption | with_reducible exact hS5 | with_reducible exact hS6 _ | with_reducible exact hS7 _ _ | (with_reducible refine AfS.set ?_ _ _ _ ?_ ?_) | (with_reducible refine AfS.alloc ?_ ?_ ?_ _) | omega | (simp; omega))); done)))
    (first
      | (go_at_call 49; with_reducible refine (HPA _).mono ?_; rintro e' w5 ⟨rfl, hbk⟩; have z5 : w.heap.size + 1 ≤ w5.heap.size := (by have z5_ := hbk.size; simp at z5_; omega); have bc5 : Blk w5 w.heap.size #[.int .i64 (k : Int), .bool a, .int .i64 t] 50 := (by first | with_reducible exact Blk.below bcA hbk bcA.lt | with_reducible exact Blk.below bcB hbk bcB.lt | with_reducible exact Blk.below bcC hbk bcC.lt); have hb5 : Below w.heap.size w w5 := (by first | with_reducible exact hbA.trans (hbk.mono hbA.size) | with_reducible exact hbB'.trans (hbk.mono hbB'.size) | with_reducible exact hbC.trans (hbk.mono hbC.size)); have hS5 : AfS w b (o + k * 2) (k : Int) a t x w5 := (by first | exact AfS.below hS0 hbk (by simp) (by simp; omega) | exact AfS.below hS1 hbk (by simp; omega) (by simp; omega) | exact AfS.below hS2 hbk (by simp; omega) (by simp; omega)); have hS6 : ∀ o', AfS w b (o + k * 2) (k : Int) a t x (w5.alloc o') := (fun o' => AfS.alloc hS5 (by omega) (by omega) o'); have hS7 : ∀ o' o2, AfS w b (o + k * 2) (k : Int) a t x ((w5.alloc o').alloc o2) := (fun o' o2 => AfS.alloc (hS6 o') (by simp; omega) (by simp; omega) o2); (try have p1 : Blk w5 (w.heap.size + 1) #[.int .i64 0, .int .i64 0] 25 := (by first | with_reducible exact q1.below hbk q1.lt | with_reducible exact q2.below hbk q2.lt)); (try have p2 : Blk w5 (w.heap.size + 1 + 1) #[.int .i64 0, .int .i64 0] 25 := (by with_reducible exact q3.below hbk q3.lt)); (try have pf0 : w5.frozen? ⟨w.heap.size + 1, 0, none⟩ = false := p1.free 0); (try have pf1 : w5.frozen? ⟨w.heap.size + 1, 1, none⟩ = false := p1.free 1); (try have pc0 : w5.cell? ⟨w.heap.size + 1, 0, none⟩ = some (.int .i64 0) := p1.cell 0 rfl); (try have pc1 : w5.cell? ⟨w.heap.size + 1, 1, none⟩ = some (.int .i64 0) := p1.cell 1 rfl); (try have qf0 : ∀ o', (w5.alloc o').frozen? ⟨w.heap.size + 1, 0, none⟩ = false := fun o' => (p1.alloc o').free 0); (try have qf1 : ∀ o', (w5.alloc o').frozen? ⟨w.heap.size + 1, 1, none⟩ = false := fun o' => (p1.alloc o').free 1); (try have qc0 : ∀ o', (w5.alloc o').cell? ⟨w.heap.size + 1, 0, none⟩ = some (.int .i64 0) := fun o' => (p1.alloc o').cell 0 rfl); (try have qc1 : ∀ o', (w5.alloc o').cell? ⟨w.heap.size + 1, 1, none⟩ = some (.int .i64 0) := fun o' => (p1.alloc o').cell 1 rfl); (try have rf0 : w5.frozen? ⟨w.heap.size + 1 + 1, 0, none⟩ = false := p2.free 0); (try have rf1 : w5.frozen? ⟨w.heap.size + 1 + 1, 1, none⟩ = false := p2.free 1); (try have rc0 : w5.cell? ⟨w.heap.size + 1 + 1, 0, none⟩ = some (.int .i64 0) := p2.cell 0 rfl); (try have rc1 : w5.cell? ⟨w.heap.size + 1 + 1, 1, none⟩ = some (.int .i64 0) := p2.cell 1 rfl); (try have pl1 := p1.lt); (try have pl2 := p2.lt); (try have pn1 : ¬ w5.heap.size = w.heap.size + 1 := by omega); (try have pn2 : ¬ w.heap.size + 1 = w5.heap.size := by omega); (try have pn3 : ¬ w5.heap.size = w.heap.size + 1 + 1 := by omega); (try have pn4 : ¬ w.heap.size + 1 + 1 = w5.heap.size := by omega)))
  all_goals
    refine hP _ _ _ ⟨?_, ?_, ?_, ?_⟩ <;> (focus ((repeat' (first | with_reducible assumption | (with_reducible refine Blk.two9 (v0 := .int .i64 0) (v1 := .int .i64 0) ?_) | (with_reducible refine Blk.other9 ?_ ?_) | exact Blk.new _ _ rfl | exact Blk.new _ _ (by simp) | (with_reducible refine Blk.alloc ?_ _) | (with_reducible refine below_set9' ?_ ?_) | (with_reducible refine Below.alloc ?_ ?_ _) | omega | (simp; omega))); done))
end Go.Proofs.YtbhofhobnbhhhaaGreatDoor
