/- The contract of the program's mark at a place of a stack. -/
import Derived.Test.YtjpfbonnohodhaaDoorStBf
import Derived.Test.YtjpfbonnohodhaaDoorStr
import Derived.Test.YtjpfbonnohodhaaDoorIn
import Derived.Test.YtjpfbonnohodhaaDoorStMath
import Derived.Lib.ConvBytes
namespace Go.Proofs.YtjpfbonnohodhaaDoor
open Go.RowKit Go.Shelf
attribute [local go_sem] Oper.semAt_some

theorem pow_le6' {k : Nat} (h : k ≤ 6) : 2 ^ k ≤ 64 := Nat.le_trans (Nat.pow_le_pow_right (by omega) h) (by decide)
theorem shl_one' (k : Nat) (h : k ≤ 6) : IntKind.i64.wrap (2 ^ k) = ((2 ^ k : Nat) : Int) := by
  obtain ⟨p, hp⟩ : ∃ p : Nat, p = 2 ^ k := ⟨_, rfl⟩
  have h1 : p ≤ 64 := by rw [hp]; exact pow_le6' h
  have h2 : ((2 : Int) ^ k) = (p : Int) := by rw [hp]; simp
  rw [h2, ← hp]
  exact IntWalk.i64_in _ (by omega)

set_option maxRecDepth 100000 in
theorem cellCount_any (s : ByteArray) (N : Nat) (w : World) (h6 : s.size ≤ 6) (hN : N = 2 ^ s.size) :
    Calls Tryd.prog 34 #[.string s] w fun e w' => e = .returned (.int .i64 (N : Int)) ∧ w = w' := by
  have hsh : IntKind.i64.wrap (2 ^ s.size) = (N : Int) := by rw [hN]; exact shl_one' _ h6
  clear hN
  go_enter Tryd.func34, Tryd.ntmps34
  go_wp2_with fail
  go_ret
  exact ⟨rfl, rfl⟩

theorem below_bytes (w : World) (e : TypeId) (s : ByteArray) : Below w.heap.size w (Lib.bytesWorld w e s) :=
  ⟨rfl, rfl, rfl, by rw [Lib.bytesWorld_size]; omega, fun k hk => Lib.bytesWorld_at_old w e s k hk⟩

/-- The three variables of the reckoning, in blocks g to g+2. -/
def BoxM (W : World) (g : Nat) (m : St.M) : Prop :=
  Blk W g #[.int .i64 m.place] 2 ∧ Blk W (g + 1) #[.int .i64 m.column, .int .i64 m.width, .bool m.down] 88 ∧ Blk W (g + 2) #[.int .i64 m.height] 2
theorem blk_own {β : Type} (g : Nat) (f : β → Array Value) (t : TypeId) : Go.Own (fun s W => Blk W g (f s) t) := fun s X Y row hs hg hrow => by
  have hs' : X.heap[g]? = some (.cells (f s) t (0, 0)) := hs
  refine (hg.block g hs.lt fun e => ?_).trans hs
  obtain ⟨o, ho, hc⟩ := hrow g e.symm
  rw [hs'] at ho
  cases ho
  cases hc
theorem boxM_own {β : Type} (g : Nat) (f : β → St.M) : Go.Own (fun s W => BoxM W g (f s)) := fun s X Y row hs hg hrow =>
  ⟨blk_own g (fun s => #[.int .i64 (f s).place]) _ s X Y row hs.1 hg hrow, blk_own (g + 1) (fun s => #[.int .i64 (f s).column, .int .i64 (f s).width, .bool (f s).down]) _ s X Y row hs.2.1 hg hrow,
    blk_own (g + 2) (fun s => #[.int .i64 (f s).height]) _ s X Y row hs.2.2 hg hrow⟩
theorem BoxM.below {W W' : World} {g B' : Nat} {m : St.M} (h : BoxM W g m) (hb : Below B' W W') (hB : g + 2 < B') : BoxM W' g m :=
  ⟨h.1.below hb (by omega), h.2.1.below hb (by omega), h.2.2.below hb (by omega)⟩
theorem BoxM.eq_ {W : World} {g : Nat} {m m' : St.M} (h : BoxM W g m') (e : m = m') : BoxM W g m := by
  rw [e]
  exact h
theorem BoxM.setH {W : World} {g : Nat} {H Wd C P : Int} {d : Bool} (b : BoxM W g ⟨H, Wd, C, P, d⟩) (v : Int) : BoxM (W.setCell ⟨g + 2, 0, none⟩ (.int .i64 v)) g ⟨v, Wd, C, P, d⟩ :=
  ⟨b.1.other _ _ (by simp), b.2.1.other _ _ (by simp), b.2.2.set 0 _⟩
theorem BoxM.setP {W : World} {g : Nat} {H Wd C P : Int} {d : Bool} (b : BoxM W g ⟨H, Wd, C, P, d⟩) (v : Int) : BoxM (W.setCell ⟨g, 0, none⟩ (.int .i64 v)) g ⟨H, Wd, C, v, d⟩ :=
  ⟨b.1.set 0 _, b.2.1.other _ _ (by simp), b.2.2.other _ _ (by simp)⟩
theorem BoxM.setC {W : World} {g : Nat} {H Wd C P : Int} {d : Bool} (b : BoxM W g ⟨H, Wd, C, P, d⟩) (c' w' : Int) (d' : Bool) :
    BoxM (((W.setCell ⟨g + 1, 0, none⟩ (.int .i64 c')).setCell ⟨g + 1, 1, none⟩ (.int .i64 w')).setCell ⟨g + 1, 2, none⟩ (.bool d')) g ⟨H, w', c', P, d'⟩ :=
  ⟨((b.1.other _ _ (by simp)).other _ _ (by simp)).other _ _ (by simp), ((b.2.1.set 0 _).set 1 _).set 2 _, ((b.2.2.other _ _ (by simp)).other _ _ (by simp)).other _ _ (by simp)⟩

/-- The variables, laid. -/
def layW (w : World) (p N : Int) : World := ((w.alloc (.cells #[.int .i64 p] 2)).alloc (.cells #[.int .i64 0, .int .i64 1, .bool false] 88)).alloc (.cells #[.int .i64 N] 2)
theorem layW_size (w : World) (p N : Int) : (layW w p N).heap.size = w.heap.size + 3 := by simp [layW]
theorem layW_below (w : World) (p N : Int) : Below w.heap.size w (layW w p N) :=
  (((Below.refl _ w).alloc (Nat.le_refl _) _).alloc (by simp) _).alloc (by simp; omega) _
theorem layW_box (w : World) (p N : Int) : BoxM (layW w p N) w.heap.size ⟨N, 1, 0, p, false⟩ := by
  unfold layW
  exact ⟨((Blk.new _ _ rfl).alloc _).alloc _, (Blk.new _ _ (by simp)).alloc _, Blk.new _ _ (by simp)⟩

/-- The state after some letters. -/
structure MOk (m : St.M) (h w : Nat) : Prop where
  eh : m.height = (h : Int)
  ew : m.width = (w : Int)
  c0 : 0 ≤ m.column
  c1 : m.column < (w : Int)
  p0 : 0 ≤ m.place
  p1 : m.place < (h : Int)
theorem MOk.step {m : St.M} {h w : Nat} (k : MOk m (2 * h) w) (b : UInt8) : MOk (St.mstep m b) h (2 * w) := by
  obtain ⟨h1, h2, h3, h4, h5, h6⟩ := k
  have hd : m.height / 2 = (h : Int) := by rw [h1]; omega
  refine ⟨by simp [St.mstep, hd], by simp [St.mstep, h2], ?_, ?_, ?_, ?_⟩ <;>
  · simp only [St.mstep, hd]
    repeat' split
    all_goals simp only [decide_eq_true_eq] at *
    all_goals omega
theorem MOk.all (l : List UInt8) (m : St.M) (k j : Nat) (hj : l.length = j) (hjk : j ≤ k) (h : MOk m (2 ^ k) 1) : MOk (l.foldl St.mstep m) (2 ^ (k - j)) (2 ^ j) := by
  induction j generalizing l with
  | zero =>
    obtain rfl := List.eq_nil_of_length_eq_zero hj
    exact h
  | succ i ih =>
    obtain ⟨l', b, rfl⟩ : ∃ l' b, l = l' ++ [b] := by
      rcases List.eq_nil_or_concat l with rfl | ⟨l', b, rfl⟩
      · simp at hj
      · exact ⟨l', b, by simp⟩
    rw [List.foldl_append]
    have h := ih l' (by simp at hj; exact hj) (by omega)
    rw [show k - i = (k - (i + 1)) + 1 from by omega, Nat.pow_succ, Nat.mul_comm] at h
    have := h.step b
    rw [Nat.pow_succ, Nat.mul_comm (2 ^ i)]
    exact this

theorem K_set {W : World} {D g i : Nat} {u : Value} {o : Obj} (h : W.heap[D]? = some o) (hne : D ≠ g) : (W.setCell ⟨g, i, none⟩ u).heap[D]? = some o := (heap_setCell_other W ⟨g, i, none⟩ D u hne).trans h
theorem below_grown' {W W' : World} (h : Below W.heap.size W W') : W.grownBy W' none := ⟨h.os, h.tape, h.output, h.size, fun k hk _ => h.block k hk⟩
theorem ownFrom_size {β : Type} {n : Nat} (B : Nat) : OwnFrom n (fun (_ : β) W => B ≤ W.heap.size) := fun _ _ _ _ hs hg _ => Nat.le_trans hs hg.size

set_option maxRecDepth 100000 in
set_option maxHeartbeats 4000000 in
theorem markAt_any (s : ByteArray) (p : Int) (w : World) (h6 : s.size ≤ 6) (hp0 : 0 ≤ p) (hp1 : p < ((2 ^ s.size : Nat) : Int)) :
    Calls Tryd.prog 54 #[.string s, .int .i64 p] w fun e w' => e = .returned (.int .i64 (St.mark s.data.toList p)) ∧ Below w.heap.size w w' := by
  have hcv : ∀ W, (convert 9 22 (.string s)).run Tryd.prog W = .ok (.slice (some ⟨W.heap.size, 0, none⟩) s.size (grownCap W s.size 0 5)) (Lib.bytesWorld W 5 s) := fun W => Lib.run_convert_string_bytes W _ _ _ s Tryd.underlying9 Tryd.underlying22 Tryd.underlying5
  obtain ⟨N, hN⟩ : ∃ N : Nat, N = 2 ^ s.size := ⟨_, rfl⟩
  rw [← hN] at hp1
  have HN := Lib.hid hN
  clear hN
  refine (callsIn_wide (n := 9)).1 ?_
  refine callsIn_of_wp_marks Tryd.func54 rfl trivial ?_ rfl
  simp only [Tryd.ntmps54, List.size_toArray, List.length_cons, List.length_nil, Nat.reduceAdd, Nat.reduceSub, Array.replicate_succ, Array.replicate_zero, List.push_toArray, List.append_toArray, List.nil_append, List.cons_append]
  gi_wp2_with (refine ⟨trivial, ?_⟩; first
    | (gi_at_call 34; refine (callsIn_wide.2 (cellCount_any s N _ h6 HN.out)).mono ?_; rintro e _ ⟨rfl, rfl⟩)
    | (gi_at_call 69; refine (callsIn_wide.2 (back_any _ _ _ _)).mono ?_; rintro e w7 ⟨rfl, hw7⟩))
  have hsl : s.data.toList.length = s.size := toList_len s
  have hB0 : BoxM (layW w p N) w.heap.size ⟨(N : Int), 1, 0, p, false⟩ := layW_box w p N
  have hz0 : (layW w p N).heap.size = w.heap.size + 3 := layW_size w p N
  have hL0 := layW_below w p N
  change Code.wpIn _ _ _ _ _ _ ((Lib.bytesWorld (layW w p N) 5 s).alloc (.cells #[.slice (some ⟨w.heap.size + 3, 0, none⟩) s.size (grownCap (layW w p N) s.size 0 5)] 22))
  change Code.wpIn _ _ _ _ _ { tmps := #[.string s, .int .i64 p, undef, .pointer (some ⟨w.heap.size, 0, none⟩), .int .i64 0, .pointer (some ⟨w.heap.size + 1, 0, none⟩), .pointer (some ⟨w.heap.size + 2, 0, none⟩), undef, undef, undef, unf 0 1 false, .string s, .int .i64 N, .string s, .slice (some ⟨w.heap.size + 3, 0, none⟩) s.size (grownCap (layW w p N) s.size 0 5), .func (.func 79) #[] #[.pointer (some ⟨(Lib.bytesWorld (layW w p N) 5 s).heap.size, 0, none⟩)], undef, undef, undef, undef, undef, undef, undef, undef, undef, undef, undef, undef, undef, undef, undef, undef, undef, undef, undef, undef, undef, undef, undef, undef], defers := [] } _
  have hzB : (Lib.bytesWorld (layW w p N) 5 s).heap.size = w.heap.size + 4 := by rw [Lib.bytesWorld_size, hz0]
  have hbB := below_bytes (layW w p N) 5 s
  have hB1 := hB0.below hbB (by omega)
  have hL1 := hL0.trans (hbB.mono (by omega))
  have hrow : ∀ j, j < s.size → (Lib.bytesWorld (layW w p N) 5 s).cell? ⟨w.heap.size + 3, j, none⟩ = some (.int .u8 ((s.data.toList.getD j 0).toNat : Int)) := by
    intro j hj
    have := Lib.bytesWorld_cell (layW w p N) 5 s j hj
    rwa [hz0] at this
  generalize grownCap (layW w p N) s.size 0 5 = cap
  generalize Lib.bytesWorld (layW w p N) 5 s = WB at hzB hbB hB1 hL1 hrow ⊢
  have HZ := Lib.hid hzB
  clear hbB hL0 hz0 hB0 hw7 hcv hzB
  have hbx : Boxed (WB.alloc (.cells #[.slice (some ⟨w.heap.size + 3, 0, none⟩) s.size cap] 22)) WB.heap.size 22 (.slice (some ⟨w.heap.size + 3, 0, none⟩) s.size cap) := Boxed.new _ _ _
  have hbA : Below WB.heap.size WB (WB.alloc (.cells #[.slice (some ⟨w.heap.size + 3, 0, none⟩) s.size cap] 22)) := (Below.refl _ _).alloc (Nat.le_refl _) _
  have hrow' : ∀ j, j < s.size → (WB.alloc (.cells #[.slice (some ⟨w.heap.size + 3, 0, none⟩) s.size cap] 22)).cell? ⟨w.heap.size + 3, 0 + j, none⟩ = some (.int .u8 ((s.data.toList.getD j 0).toNat : Int)) := by
    intro j hj
    rw [Nat.zero_add, hbA.cell (p := ⟨w.heap.size + 3, j, none⟩) (by show w.heap.size + 3 < WB.heap.size; rw [HZ.out]; omega)]
    exact hrow j hj
  have hok0 : MOk ⟨(N : Int), 1, 0, p, false⟩ (2 ^ s.size) 1 := ⟨by rw [← HN.out], rfl, by simp, by simp, hp0, by rw [← HN.out]; exact hp1⟩
  have HOK0 := Lib.hid hok0
  clear hok0
  refine wpIn_rangeFunc_ownF rfl (by decide) (gf := 79) (lb := #[.pointer (some ⟨WB.heap.size, 0, none⟩)]) rfl trivial (enters_of Tryd.func79 (by kernel_rfl) rfl)
    (back_stops Fence.wide 8 trivial rfl (by decide) WB.heap.size (w.heap.size + 3) (w.heap.size + 5) (w.heap.size + 3) 0 cap s.data.toList (by rw [hsl]; omega) _ (by have := HZ.out; omega) (by omega) (by have := HZ.out; simp; omega) hbx.cell hrow')
    (fun h k => h.trans k) (Iv.put (by have := HZ.out; simp; omega)) (Below.refl _ _) (fun _ => rfl)
    (fun pre W => BoxM W w.heap.size ((pre.map (·.2)).foldl St.mstep ⟨(N : Int), 1, 0, p, false⟩) ∧ (Below w.heap.size w W ∧ w.heap.size + 5 ≤ W.heap.size))
    (fun _ _ _ => False)
    (OwnFrom.and (Go.Own.from (boxM_own w.heap.size (fun pre : List (Nat × UInt8) => (pre.map (·.2)).foldl St.mstep ⟨(N : Int), 1, 0, p, false⟩)) _) (OwnFrom.and (ownFrom_below (Nat.le_refl _) (by have := HZ.out; simp; omega)) (ownFrom_size (w.heap.size + 5))))
    (fun _ _ _ _ _ hs _ _ => hs)
    ⟨hB1.below hbA (by have := HZ.out; omega), hL1.trans (hbA.mono (by have := HZ.out; omega)), by have := HZ.out; simp; omega⟩
    (fun x => { tmps := #[.string s, .int .i64 p, undef, .pointer (some ⟨w.heap.size, 0, none⟩), .int .i64 0, .pointer (some ⟨w.heap.size + 1, 0, none⟩), .pointer (some ⟨w.heap.size + 2, 0, none⟩), undef, .int .u8 (x.2.toNat : Int), undef, unf 0 1 false, .string s, .int .i64 N, .string s, .slice (some ⟨w.heap.size + 3, 0, none⟩) s.size cap, .func (.func 79) #[] #[.pointer (some ⟨WB.heap.size, 0, none⟩)], .int .i64 (x.1 : Int), .int .u8 (x.2.toNat : Int), undef, undef, undef, undef, undef, undef, undef, undef, undef, undef, undef, undef, undef, undef, undef, undef, undef, undef, undef, undef, undef, undef], defers := [] }) ?assign ?body ?done ?stop
  case assign =>
    intro l x W K hK
    gi_wp2
    exact hK
  case body =>
    rintro l pre x W ⟨hM, hB, hsz⟩ hlen
    rw [hsl] at hlen
    have hok := MOk.all (pre.map (·.2)) _ s.size pre.length (by simp) (by omega) HOK0.out
    have hcat : Hid (((pre ++ [x]).map (·.2)).foldl St.mstep ⟨(N : Int), 1, 0, p, false⟩ = St.mstep ((pre.map (·.2)).foldl St.mstep ⟨(N : Int), 1, 0, p, false⟩) x.2) := by
      rw [List.map_append, List.foldl_append]
      exact Lib.hid rfl
    refine wpIn_mono (Q := fun e _ W' => e = .normal ∧ KeepsOthers W W' ∧ Iv (w.heap.size + 3) (w.heap.size + 5) W W' ∧ BoxM W' w.heap.size (St.mstep ((pre.map (·.2)).foldl St.mstep ⟨(N : Int), 1, 0, p, false⟩) x.2) ∧ Below w.heap.size w W' ∧ w.heap.size + 5 ≤ W'.heap.size) ?_ ?_
    rotate_left
    · rintro e a W' ⟨rfl, h1, h2, h3, h4, h5⟩
      exact ⟨h1, h2, by show BoxM _ _ _; rw [hcat.out]; exact h3, h4, h5⟩
    generalize (pre.map (·.2)).foldl St.mstep ⟨(N : Int), 1, 0, p, false⟩ = m at hM hok hcat ⊢
    obtain ⟨hh, hhe⟩ : ∃ hh : Nat, hh = 2 ^ (s.size - pre.length - 1) := ⟨_, rfl⟩
    obtain ⟨ww, hwe⟩ : ∃ ww : Nat, ww = 2 ^ pre.length := ⟨_, rfl⟩
    have e2 : 2 ^ (s.size - pre.length) = 2 * hh := by rw [hhe, show s.size - pre.length = (s.size - pre.length - 1) + 1 from by omega, Nat.pow_succ, Nat.mul_comm]; rfl
    have hh64 : hh ≤ 64 := by rw [hhe]; exact pow_le6' (by omega)
    have ww64 : ww ≤ 64 := by rw [hwe]; exact pow_le6' (by omega)
    rw [e2, ← hwe] at hok
    clear e2 hhe hwe hcat hlen
    obtain ⟨H, Wd, C, P, d⟩ := m
    obtain ⟨hH, hW, hC0, hC1, hP0, hP1⟩ := hok
    simp only at hH hW hC0 hC1 hP0 hP1
    obtain ⟨hi, hhi⟩ : ∃ hi : Int, hi = (hh : Int) := ⟨_, rfl⟩
    have b1 : 0 ≤ hi ∧ hi ≤ 64 := by omega
    have b2 : 0 ≤ Wd ∧ Wd ≤ 64 := by omega
    have e1 : H.tdiv 2 = hi := by rw [Int.tdiv_eq_ediv_of_nonneg (by omega)]; omega
    have HE1 : Hid (H / 2 = hi) := Lib.hid (by omega)
    have w1 : IntKind.i64.wrap hi = hi := IntWalk.i64_in _ (by omega)
    have hpb : ∀ W, Calls Tryd.prog 70 #[.int .i64 P, .int .i64 hi] W fun e w' => e = .returned (.tuple #[.int .i64 (kbI P hi), .bool (decide (P < hi))]) ∧ W = w' := fun W =>
      placeBefore_any P hi W (by omega) (by omega) (by omega)
    obtain ⟨kn, hkn⟩ : ∃ kn : Int, kn = kbI P hi := ⟨_, rfl⟩
    obtain ⟨mv, hmv⟩ : ∃ mv : Bool, mv = decide (P < hi) := ⟨_, rfl⟩
    rw [← hkn, ← hmv] at hpb
    have HM := Lib.hid hM
    obtain ⟨m0, m1, m2⟩ := hM
    simp only at m0 m1 m2
    have bf : ∀ (f : Bool) W, Calls Tryd.prog 71 #[unf C Wd d, .bool mv, .bool f] W fun e w' => e = .returned (unf (abI C Wd mv f) (Wd * 2) (d != mv)) ∧ Below W.heap.size W w' := fun f W =>
      before_any C Wd d mv f W (by omega) (by omega) (by omega)
    have c0 := m0.cell 0 (v := .int .i64 P) rfl
    have f0 := m0.free 0
    have c2 := m2.cell 0 (v := .int .i64 H) rfl
    have f2 := m2.free 0
    have x0c := m1.cell 0 (v := .int .i64 C) rfl
    have x1c := m1.cell 1 (v := .int .i64 Wd) rfl
    have x2c := m1.cell 2 (v := .bool d) rfl
    obtain ⟨xi1, xb⟩ := x
    simp only at *
    have HK : Hid (kn = kbI P hi ∧ mv = decide (P < hi)) := Lib.hid ⟨hkn, hmv⟩
    clear hkn hmv m0 m1 m2 hhi hH hW hC0 hC1 hP0 hP1 hh64 ww64 b1 b2
    by_cases h76 : xb.toNat = 76
    · have HL : Hid ((xb == 76) = true) := by
        have : xb = 76 := UInt8.toNat_inj.mp h76
        subst this
        exact Lib.hid rfl
      rw [h76]
      clear h76
      gi_wp2_with (refine ⟨trivial, ?_⟩; first
        | (gi_at_call 70; refine (CallsIn.inRound l (callsIn_wide.2 (hpb _))).mono ?_; rintro e _ ⟨rfl, rfl⟩)
        | (gi_at_call 71; refine (CallsIn.inRound l (callsIn_wide.2 (bf true _))).mono ?_; rintro e w5 ⟨rfl, hb5⟩; have hN5 := (((HM.out.setH hi).setP kn)); have h5 := hN5.below hb5 (by simp; omega); have r0 := h5.2.1.cell 0 rfl; have r1 := h5.2.1.cell 1 rfl; have r2 := h5.2.1.cell 2 rfl; have q0 := h5.2.1.free 0; have q1 := h5.2.1.free 1; have q2 := h5.2.1.free 2))
      clear c0 f0 c2 f2 x0c x1c x2c r0 r1 r2 q0 q1 q2
      have hs5 := hb5.size
      simp only [World.size_setCell] at hs5
      refine ⟨?_, ?_, ?_, ?_, ?_⟩
      · exact (((((KeepsOthers.refl W).trans (KeepsOthers.setCell _ _ _)).trans (KeepsOthers.setCell _ _ _)).trans (KeepsOthers.of_grownBy (below_grown' hb5) (fun _ _ h => by cases h))).trans (KeepsOthers.setCell _ _ _)).trans ((KeepsOthers.setCell _ _ _).trans (KeepsOthers.setCell _ _ _))
      · exact ((((((Iv.refl _ _ W).set (.inl (by dsimp only; omega)) _).set (.inl (by dsimp only; omega)) _).trans (Iv.of_below hb5 (by simp; omega))).set (.inl (by dsimp only; omega)) _).set (.inl (by dsimp only; omega)) _).set (.inl (by dsimp only; omega)) _
      · refine BoxM.eq_ (h5.setC (abI C Wd mv true) (Wd * 2) (d != mv)) ?_
        rw [mstep_bk _ _ _ _ _ _ _ HE1.out, HL.out, ← HK.out.1, ← HK.out.2]
      · exact (((((hB.setCell (by dsimp only; omega) _).setCell (by dsimp only; omega) _).trans (hb5.mono (by simp; omega))).setCell (by dsimp only; omega) _).setCell (by dsimp only; omega) _).setCell (by dsimp only; omega) _
      · omega
    · have HL : Hid ((xb == 76) = false) := by
        refine Lib.hid ?_
        rw [beq_eq_false_iff_ne]
        exact fun h => h76 (by rw [h]; rfl)
      have n1 : ¬ ((xb.toNat : Int) = 76) := by omega
      have n2 : ((xb.toNat : Int) == 76) = false := by simpa using n1
      have n3 : (!((xb.toNat : Int) == 76)) = true := by rw [n2]; rfl
      clear h76
      gi_wp2_with (refine ⟨trivial, ?_⟩; first
        | (gi_at_call 70; refine (CallsIn.inRound l (callsIn_wide.2 (hpb _))).mono ?_; rintro e _ ⟨rfl, rfl⟩)
        | (gi_at_call 71; refine (CallsIn.inRound l (callsIn_wide.2 (bf false _))).mono ?_; rintro e w5 ⟨rfl, hb5⟩; have hN5 := (((HM.out.setH hi).setP kn)); have h5 := hN5.below hb5 (by simp; omega); have r0 := h5.2.1.cell 0 rfl; have r1 := h5.2.1.cell 1 rfl; have r2 := h5.2.1.cell 2 rfl; have q0 := h5.2.1.free 0; have q1 := h5.2.1.free 1; have q2 := h5.2.1.free 2))
      clear c0 f0 c2 f2 x0c x1c x2c r0 r1 r2 q0 q1 q2
      have hs5 := hb5.size
      simp only [World.size_setCell] at hs5
      refine ⟨?_, ?_, ?_, ?_, ?_⟩
      · exact (((((KeepsOthers.refl W).trans (KeepsOthers.setCell _ _ _)).trans (KeepsOthers.setCell _ _ _)).trans (KeepsOthers.of_grownBy (below_grown' hb5) (fun _ _ h => by cases h))).trans (KeepsOthers.setCell _ _ _)).trans ((KeepsOthers.setCell _ _ _).trans (KeepsOthers.setCell _ _ _))
      · exact ((((((Iv.refl _ _ W).set (.inl (by dsimp only; omega)) _).set (.inl (by dsimp only; omega)) _).trans (Iv.of_below hb5 (by simp; omega))).set (.inl (by dsimp only; omega)) _).set (.inl (by dsimp only; omega)) _).set (.inl (by dsimp only; omega)) _
      · refine BoxM.eq_ (h5.setC (abI C Wd mv false) (Wd * 2) (d != mv)) ?_
        rw [mstep_bk _ _ _ _ _ _ _ HE1.out, HL.out, ← HK.out.1, ← HK.out.2]
      · exact (((((hB.setCell (by dsimp only; omega) _).setCell (by dsimp only; omega) _).trans (hb5.mono (by simp; omega))).setCell (by dsimp only; omega) _).setCell (by dsimp only; omega) _).setCell (by dsimp only; omega) _
      · omega
  case done =>
    rintro D ys W hD rfl ⟨hM, hB, hsz⟩ hK
    have hrun : (backTo s.data.toList s.data.toList.length).map (·.2) = s.data.toList.reverse := backTo_all _
    rw [hrun] at hM
    have HR : Hid (St.mark s.data.toList p = if (s.data.toList.reverse.foldl St.mstep ⟨(N : Int), 1, 0, p, false⟩).down then -((s.data.toList.reverse.foldl St.mstep ⟨(N : Int), 1, 0, p, false⟩).column + 1) else (s.data.toList.reverse.foldl St.mstep ⟨(N : Int), 1, 0, p, false⟩).column + 1) := by
      unfold St.mark St.mrun
      rw [hsl, ← HN.out]
      exact Lib.hid rfl
    have hok := MOk.all s.data.toList.reverse _ s.size s.size (by rw [List.length_reverse, hsl]) (Nat.le_refl _) HOK0.out
    generalize s.data.toList.reverse.foldl St.mstep ⟨(N : Int), 1, 0, p, false⟩ = m at hM hok HR
    obtain ⟨H, Wd, C, P, d⟩ := m
    obtain ⟨hH, hW, hC0, hC1, hP0, hP1⟩ := hok
    simp only at hH hW hC0 hC1 hP0 hP1 HR
    have h64 := pow_le6' h6
    have hC64 : C < 64 := by omega
    obtain ⟨m0, m1, m2⟩ := hM
    simp only at m1
    have x0c := m1.cell 0 (v := .int .i64 C) rfl
    have x2c := m1.cell 2 (v := .bool d) rfl
    have w1 : IntKind.i64.wrap (C + 1) = C + 1 := IntWalk.i64_in _ (by omega)
    have w2 : IntKind.i64.wrap (-(C + 1)) = -(C + 1) := IntWalk.i64_in _ (by omega)
    clear hH hW hC1 hP0 hP1 hrun m0 m1 m2 h64
    have hbel := Lib.hid (hB.trans (belowK_b (w := w) (Nat.le_refl _) W D _ (.deferred none) (by have := HZ.out; simp at hD; omega) hK rfl rfl))
    cases d with
    | true =>
      gi_wp2
      refine ⟨by simp, .inl ⟨_, _, rfl, run_takeDeferred hK, ?_⟩⟩
      exact ⟨_, results_tmp rfl _ _ _, by rw [HR.out]; rfl, hbel.out⟩
    | false =>
      gi_wp2
      refine ⟨by simp, .inl ⟨_, _, rfl, run_takeDeferred hK, ?_⟩⟩
      exact ⟨_, results_tmp rfl _ _ _, by rw [HR.out]; rfl, hbel.out⟩
  case stop =>
    rintro D c pre W _ _ h _
    exact h.elim
end Go.Proofs.YtjpfbonnohodhaaDoor
