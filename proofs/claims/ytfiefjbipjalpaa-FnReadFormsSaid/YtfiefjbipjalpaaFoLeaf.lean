/- The contract of the program's leaf at a place of the pile. -/
import Derived.Test.YtfiefjbipjalpaaFoBk
namespace Go.Proofs.Ytfiefjbipjalpaa
open Go.RowKit Go.Shelf
attribute [local go_sem] Oper.semAt_some

theorem pow_le6' {k : Nat} (h : k ≤ 6) : 2 ^ k ≤ 64 := Nat.le_trans (Nat.pow_le_pow_right (by omega) h) (by decide)
theorem shl_one' (k : Nat) (h : k ≤ 6) : IntKind.i64.wrap (2 ^ k) = ((2 ^ k : Nat) : Int) := by
  obtain ⟨p, hp⟩ : ∃ p : Nat, p = 2 ^ k := ⟨_, rfl⟩
  have h1 : p ≤ 64 := by rw [hp]; exact pow_le6' h
  have h2 : ((2 : Int) ^ k) = (p : Int) := by rw [hp]; simp
  rw [h2, ← hp]
  exact IntWalk.i64_in _ (by omega)

set_option maxRecDepth 100000 in
theorem cellCount_any (s : ByteArray) (N : Nat) (w : World) (h6 : s.size ≤ 6) (hN : N = 2 ^ s.size) :
    Calls Try.prog 58 #[.string s] w fun e w' => e = .returned (.int .i64 (N : Int)) ∧ w = w' := by
  have hsh : IntKind.i64.wrap (2 ^ s.size) = (N : Int) := by rw [hN]; exact shl_one' _ h6
  clear hN
  go_enter Try.func58, Try.ntmps58
  go_wp2_with fail
  go_ret
  exact ⟨rfl, rfl⟩

theorem below_bytes (w : World) (e : TypeId) (s : ByteArray) : Below w.heap.size w (Lib.bytesWorld w e s) :=
  ⟨rfl, rfl, rfl, by rw [Lib.bytesWorld_size]; omega, fun k hk => Lib.bytesWorld_at_old w e s k hk⟩

/-- The variables of the reckoning, in blocks g to g+4. -/
def BoxF (W : World) (g : Nat) (m : Fo.M) : Prop :=
  Blk W g #[.int .i64 m.k] 2 ∧ Blk W (g + 1) #[.int .i64 0, .int .i64 0, .bool false, .bool false] 100 ∧ Blk W (g + 2) #[.int .i64 m.x, .int .i64 m.w, .bool m.fx] 123 ∧
    Blk W (g + 3) #[.int .i64 m.y, .int .i64 m.h, .bool m.fy] 123 ∧ Blk W (g + 4) #[.int .i64 m.n] 2
theorem blk_own {β : Type} (g : Nat) (f : β → Array Value) (t : TypeId) : Go.Own (fun s W => Blk W g (f s) t) := fun s X Y row hs hg hrow => by
  have hs' : X.heap[g]? = some (.cells (f s) t (0, 0)) := hs
  refine (hg.block g hs.lt fun e => ?_).trans hs
  obtain ⟨o, ho, hc⟩ := hrow g e.symm
  rw [hs'] at ho
  cases ho
  cases hc
theorem boxF_own {β : Type} (g : Nat) (f : β → Fo.M) : Go.Own (fun s W => BoxF W g (f s)) := fun s X Y row hs hg hrow =>
  ⟨blk_own g (fun s => #[.int .i64 (f s).k]) _ s X Y row hs.1 hg hrow, blk_own (g + 1) (fun _ => #[.int .i64 0, .int .i64 0, .bool false, .bool false]) _ s X Y row hs.2.1 hg hrow,
    blk_own (g + 2) (fun s => #[.int .i64 (f s).x, .int .i64 (f s).w, .bool (f s).fx]) _ s X Y row hs.2.2.1 hg hrow, blk_own (g + 3) (fun s => #[.int .i64 (f s).y, .int .i64 (f s).h, .bool (f s).fy]) _ s X Y row hs.2.2.2.1 hg hrow,
    blk_own (g + 4) (fun s => #[.int .i64 (f s).n]) _ s X Y row hs.2.2.2.2 hg hrow⟩
theorem BoxF.below {W W' : World} {g B' : Nat} {m : Fo.M} (h : BoxF W g m) (hb : Below B' W W') (hB : g + 4 < B') : BoxF W' g m :=
  ⟨h.1.below hb (by omega), h.2.1.below hb (by omega), h.2.2.1.below hb (by omega), h.2.2.2.1.below hb (by omega), h.2.2.2.2.below hb (by omega)⟩
theorem BoxF.eq_ {W : World} {g : Nat} {m m' : Fo.M} (h : BoxF W g m') (e : m = m') : BoxF W g m := by
  rw [e]
  exact h
theorem BoxF.setN {W : World} {g k n x w y h : Nat} {fx fy : Bool} (b : BoxF W g ⟨k, n, x, w, fx, y, h, fy⟩) (v : Nat) : BoxF (W.setCell ⟨g + 4, 0, none⟩ (.int .i64 v)) g ⟨k, v, x, w, fx, y, h, fy⟩ :=
  ⟨b.1.other _ _ (by simp), b.2.1.other _ _ (by simp), b.2.2.1.other _ _ (by simp), b.2.2.2.1.other _ _ (by simp), b.2.2.2.2.set 0 _⟩
theorem BoxF.setK {W : World} {g k n x w y h : Nat} {fx fy : Bool} (b : BoxF W g ⟨k, n, x, w, fx, y, h, fy⟩) (v : Nat) : BoxF (W.setCell ⟨g, 0, none⟩ (.int .i64 v)) g ⟨v, n, x, w, fx, y, h, fy⟩ :=
  ⟨b.1.set 0 _, b.2.1.other _ _ (by simp), b.2.2.1.other _ _ (by simp), b.2.2.2.1.other _ _ (by simp), b.2.2.2.2.other _ _ (by simp)⟩
theorem BoxF.setX {W : World} {g k n x w y h : Nat} {fx fy : Bool} (b : BoxF W g ⟨k, n, x, w, fx, y, h, fy⟩) (x' w' : Nat) (f' : Bool) :
    BoxF (((W.setCell ⟨g + 2, 0, none⟩ (.int .i64 x')).setCell ⟨g + 2, 1, none⟩ (.int .i64 w')).setCell ⟨g + 2, 2, none⟩ (.bool f')) g ⟨k, n, x', w', f', y, h, fy⟩ :=
  ⟨((b.1.other _ _ (by simp)).other _ _ (by simp)).other _ _ (by simp), ((b.2.1.other _ _ (by simp)).other _ _ (by simp)).other _ _ (by simp), ((b.2.2.1.set 0 _).set 1 _).set 2 _,
    ((b.2.2.2.1.other _ _ (by simp)).other _ _ (by simp)).other _ _ (by simp), ((b.2.2.2.2.other _ _ (by simp)).other _ _ (by simp)).other _ _ (by simp)⟩
theorem BoxF.setY {W : World} {g k n x w y h : Nat} {fx fy : Bool} (b : BoxF W g ⟨k, n, x, w, fx, y, h, fy⟩) (y' h' : Nat) (f' : Bool) :
    BoxF (((W.setCell ⟨g + 3, 0, none⟩ (.int .i64 y')).setCell ⟨g + 3, 1, none⟩ (.int .i64 h')).setCell ⟨g + 3, 2, none⟩ (.bool f')) g ⟨k, n, x, w, fx, y', h', f'⟩ :=
  ⟨((b.1.other _ _ (by simp)).other _ _ (by simp)).other _ _ (by simp), ((b.2.1.other _ _ (by simp)).other _ _ (by simp)).other _ _ (by simp), ((b.2.2.1.other _ _ (by simp)).other _ _ (by simp)).other _ _ (by simp),
    ((b.2.2.2.1.set 0 _).set 1 _).set 2 _, ((b.2.2.2.2.other _ _ (by simp)).other _ _ (by simp)).other _ _ (by simp)⟩

/-- The variables, laid. -/
def layW (w : World) (p N : Int) : World := ((((w.alloc (.cells #[.int .i64 p] 2)).alloc (.cells #[.int .i64 0, .int .i64 0, .bool false, .bool false] 100)).alloc (.cells #[.int .i64 0, .int .i64 1, .bool false] 123)).alloc (.cells #[.int .i64 0, .int .i64 1, .bool false] 123)).alloc (.cells #[.int .i64 N] 2)
theorem layW_size (w : World) (p N : Int) : (layW w p N).heap.size = w.heap.size + 5 := by simp [layW]
theorem layW_below (w : World) (p N : Int) : Below w.heap.size w (layW w p N) :=
  (((((Below.refl _ w).alloc (Nat.le_refl _) _).alloc (by simp) _).alloc (by simp; omega) _).alloc (by simp; omega) _).alloc (by simp; omega) _
theorem layW_box (w : World) (p N : Nat) : BoxF (layW w p N) w.heap.size ⟨p, N, 0, 1, false, 0, 1, false⟩ := by
  unfold layW
  refine ⟨((((Blk.new _ _ rfl).alloc _).alloc _).alloc _).alloc _, (((Blk.new _ _ (by simp)).alloc _).alloc _).alloc _, ((Blk.new _ _ (by simp)).alloc _).alloc _, (Blk.new _ _ (by simp)).alloc _, Blk.new _ _ (by simp)⟩

/-- The state with j letters to come and i behind. -/
structure FOk (m : Fo.M) (j i : Nat) : Prop where
  en : m.n = 2 ^ j
  k1 : m.k < 2 ^ j
  x1 : m.x < m.w
  w1 : m.w ≤ 2 ^ i
  y1 : m.y < m.h
  h1 : m.h ≤ 2 ^ i
theorem kb_lt (k n : Nat) (h : k < 2 * n) : Fo.kb k n < n := by unfold Fo.kb; split <;> omega
theorem FOk.step {m : Fo.M} {j i : Nat} (k : FOk m (j + 1) i) (b : UInt8) : FOk (Fo.step m b) j (i + 1) := by
  obtain ⟨h1, h2, h3, h4, h5, h6⟩ := k
  have hn : m.n / 2 = 2 ^ j := by rw [h1, Fo.half]
  have hk : m.k < 2 * 2 ^ j := by rw [Nat.pow_succ] at h2; omega
  have hp : 2 ^ (i + 1) = 2 * 2 ^ i := by rw [Nat.pow_succ]; omega
  unfold Fo.step
  rw [hn]
  split
  · exact ⟨rfl, kb_lt _ _ hk, Fo.ab_lt _ _ _ _ h3, by show 2 * m.w ≤ _; omega, h5, by show m.h ≤ _; omega⟩
  · exact ⟨rfl, kb_lt _ _ hk, h3, by show m.w ≤ _; omega, Fo.ab_lt _ _ _ _ h5, by show 2 * m.h ≤ _; omega⟩
theorem FOk.all (l : List UInt8) (m : Fo.M) (k i j : Nat) (hj : l.length = j) (hjk : j ≤ k) (h : FOk m k i) : FOk (Fo.go l m) (k - j) (i + j) := by
  induction j generalizing l with
  | zero =>
    obtain rfl := List.eq_nil_of_length_eq_zero hj
    exact h
  | succ a ih =>
    obtain ⟨l', b, rfl⟩ : ∃ l' b, l = l' ++ [b] := by
      rcases List.eq_nil_or_concat l with rfl | ⟨l', b, rfl⟩
      · simp at hj
      · exact ⟨l', b, by simp⟩
    unfold Fo.go
    rw [List.foldl_append]
    have h := ih l' (by simp at hj; exact hj) (by omega)
    rw [show k - a = (k - (a + 1)) + 1 from by omega] at h
    exact h.step b

theorem K_set {W : World} {D g i : Nat} {u : Value} {o : Obj} (h : W.heap[D]? = some o) (hne : D ≠ g) : (W.setCell ⟨g, i, none⟩ u).heap[D]? = some o := (heap_setCell_other W ⟨g, i, none⟩ D u hne).trans h
theorem below_grown' {W W' : World} (h : Below W.heap.size W W') : W.grownBy W' none := ⟨h.os, h.tape, h.output, h.size, fun k hk _ => h.block k hk⟩
theorem ownFrom_size {β : Type} {n : Nat} (B : Nat) : OwnFrom n (fun (_ : β) W => B ≤ W.heap.size) := fun _ _ _ _ hs hg _ => Nat.le_trans hs hg.size

set_option maxRecDepth 100000 in
set_option maxHeartbeats 4000000 in
theorem leafAt_any (s : ByteArray) (p : Nat) (w : World) (h6 : s.size ≤ 6) (hp1 : p < 2 ^ s.size) :
    Calls Try.prog 95 #[.string s, .int .i64 (p : Int)] w fun e w' => e = .returned (Fo.leaf s.data.toList.reverse 1 1 0 0 p).v.agg ∧ Below w.heap.size w w' := by
  have hcv : ∀ W, (convert 9 22 (.string s)).run Try.prog W = .ok (.slice (some ⟨W.heap.size, 0, none⟩) s.size (grownCap W s.size 0 5)) (Lib.bytesWorld W 5 s) := fun W => Lib.run_convert_string_bytes W _ _ _ s Try.underlying9 Try.underlying22 Try.underlying5
  obtain ⟨N, hN⟩ : ∃ N : Nat, N = 2 ^ s.size := ⟨_, rfl⟩
  rw [← hN] at hp1
  have HN := Lib.hid hN
  clear hN
  refine (callsIn_wide (n := 9)).1 ?_
  refine callsIn_of_wp_marks Try.func95 rfl trivial ?_ rfl
  simp only [Try.ntmps95, List.size_toArray, List.length_cons, List.length_nil, Nat.reduceAdd, Nat.reduceSub, Array.replicate_succ, Array.replicate_zero, List.push_toArray, List.append_toArray, List.nil_append, List.cons_append]
  gi_wp2_with (refine ⟨trivial, ?_⟩; first
    | (gi_at_call 58; refine (callsIn_wide.2 (cellCount_any s N _ h6 HN.out)).mono ?_; rintro e _ ⟨rfl, rfl⟩)
    | (gi_at_call 115; refine (callsIn_wide.2 (back_any _ _ _ _)).mono ?_; rintro e w7 ⟨rfl, hw7⟩))
  have hsl : s.data.toList.length = s.size := toList_len s
  have hB0 : BoxF (layW w p N) w.heap.size ⟨p, N, 0, 1, false, 0, 1, false⟩ := layW_box w p N
  have hz0 : (layW w p N).heap.size = w.heap.size + 5 := layW_size w p N
  have hL0 := layW_below w p N
  change Code.wpIn _ _ _ _ _ _ ((Lib.bytesWorld (layW w p N) 5 s).alloc (.cells #[.slice (some ⟨w.heap.size + 5, 0, none⟩) s.size (grownCap (layW w p N) s.size 0 5)] 22))
  change Code.wpIn _ _ _ _ _ { tmps := #[.string s, .int .i64 (p : Int), undef, .pointer (some ⟨w.heap.size, 0, none⟩), .pointer (some ⟨w.heap.size + 1, 0, none⟩), .pointer (some ⟨w.heap.size + 2, 0, none⟩), .pointer (some ⟨w.heap.size + 3, 0, none⟩), .pointer (some ⟨w.heap.size + 4, 0, none⟩), undef, undef, undef, unf 0 1 false, unf 0 1 false, .string s, .int .i64 N, .string s, .slice (some ⟨w.heap.size + 5, 0, none⟩) s.size (grownCap (layW w p N) s.size 0 5), .func (.func 129) #[] #[.pointer (some ⟨(Lib.bytesWorld (layW w p N) 5 s).heap.size, 0, none⟩)], undef, undef, undef, undef, undef, undef, undef, undef, undef, undef, undef, undef, undef, undef, undef, undef, undef, undef, undef, undef, undef, undef, undef, undef, undef, undef, undef, undef, undef, undef, undef, undef, undef, undef, undef], defers := [] } _
  have hzB : (Lib.bytesWorld (layW w p N) 5 s).heap.size = w.heap.size + 6 := by rw [Lib.bytesWorld_size, hz0]
  have hbB := below_bytes (layW w p N) 5 s
  have hB1 := hB0.below hbB (by omega)
  have hL1 := hL0.trans (hbB.mono (by omega))
  have hrow : ∀ j, j < s.size → (Lib.bytesWorld (layW w p N) 5 s).cell? ⟨w.heap.size + 5, j, none⟩ = some (.int .u8 ((s.data.toList.getD j 0).toNat : Int)) := by
    intro j hj
    have := Lib.bytesWorld_cell (layW w p N) 5 s j hj
    rwa [hz0] at this
  generalize grownCap (layW w p N) s.size 0 5 = cap
  generalize Lib.bytesWorld (layW w p N) 5 s = WB at hzB hbB hB1 hL1 hrow ⊢
  have HZ := Lib.hid hzB
  clear hbB hL0 hz0 hB0 hw7 hcv hzB
  have hbx : Boxed (WB.alloc (.cells #[.slice (some ⟨w.heap.size + 5, 0, none⟩) s.size cap] 22)) WB.heap.size 22 (.slice (some ⟨w.heap.size + 5, 0, none⟩) s.size cap) := Boxed.new _ _ _
  have hbA : Below WB.heap.size WB (WB.alloc (.cells #[.slice (some ⟨w.heap.size + 5, 0, none⟩) s.size cap] 22)) := (Below.refl _ _).alloc (Nat.le_refl _) _
  have hrow' : ∀ j, j < s.size → (WB.alloc (.cells #[.slice (some ⟨w.heap.size + 5, 0, none⟩) s.size cap] 22)).cell? ⟨w.heap.size + 5, 0 + j, none⟩ = some (.int .u8 ((s.data.toList.getD j 0).toNat : Int)) := by
    intro j hj
    rw [Nat.zero_add, hbA.cell (p := ⟨w.heap.size + 5, j, none⟩) (by show w.heap.size + 5 < WB.heap.size; rw [HZ.out]; omega)]
    exact hrow j hj
  have hok0 : FOk ⟨p, N, 0, 1, false, 0, 1, false⟩ s.size 0 := ⟨HN.out, by rw [← HN.out]; exact hp1, by simp, by simp, by simp, by simp⟩
  have HOK0 := Lib.hid hok0
  clear hok0
  refine wpIn_rangeFunc_ownF rfl (by decide) (gf := 129) (lb := #[.pointer (some ⟨WB.heap.size, 0, none⟩)]) rfl trivial (enters_of Try.func129 (by kernel_rfl) rfl)
    (back_stops Fence.wide 8 trivial rfl (by decide) WB.heap.size (w.heap.size + 5) (w.heap.size + 7) (w.heap.size + 5) 0 cap s.data.toList (by rw [hsl]; omega) _ (by have := HZ.out; omega) (by omega) (by have := HZ.out; simp; omega) hbx.cell hrow')
    (fun h k => h.trans k) (Iv.put (by have := HZ.out; simp; omega)) (Below.refl _ _) (fun _ => rfl)
    (fun pre W => BoxF W w.heap.size (Fo.go (pre.map (·.2)) ⟨p, N, 0, 1, false, 0, 1, false⟩) ∧ (Below w.heap.size w W ∧ w.heap.size + 7 ≤ W.heap.size))
    (fun _ _ _ => False)
    (OwnFrom.and (Go.Own.from (boxF_own w.heap.size (fun pre : List (Nat × UInt8) => Fo.go (pre.map (·.2)) ⟨p, N, 0, 1, false, 0, 1, false⟩)) _) (OwnFrom.and (ownFrom_below (Nat.le_refl _) (by have := HZ.out; simp; omega)) (ownFrom_size (w.heap.size + 7))))
    (fun _ _ _ _ _ hs _ _ => hs)
    ⟨hB1.below hbA (by have := HZ.out; omega), hL1.trans (hbA.mono (by have := HZ.out; omega)), by have := HZ.out; simp; omega⟩
    (fun x => { tmps := #[.string s, .int .i64 (p : Int), undef, .pointer (some ⟨w.heap.size, 0, none⟩), .pointer (some ⟨w.heap.size + 1, 0, none⟩), .pointer (some ⟨w.heap.size + 2, 0, none⟩), .pointer (some ⟨w.heap.size + 3, 0, none⟩), .pointer (some ⟨w.heap.size + 4, 0, none⟩), undef, .int .u8 (x.2.toNat : Int), undef, unf 0 1 false, unf 0 1 false, .string s, .int .i64 N, .string s, .slice (some ⟨w.heap.size + 5, 0, none⟩) s.size cap, .func (.func 129) #[] #[.pointer (some ⟨WB.heap.size, 0, none⟩)], .int .i64 (x.1 : Int), .int .u8 (x.2.toNat : Int), undef, undef, undef, undef, undef, undef, undef, undef, undef, undef, undef, undef, undef, undef, undef, undef, undef, undef, undef, undef, undef, undef, undef, undef, undef, undef, undef, undef, undef, undef, undef, undef, undef], defers := [] }) ?assign ?body ?done ?stop
  case assign =>
    intro l x W K hK
    gi_wp2
    exact hK
  case body =>
    rintro l pre x W ⟨hM, hB, hsz⟩ hlen
    rw [hsl] at hlen
    have hok := FOk.all (pre.map (·.2)) _ s.size 0 pre.length (by simp) (by omega) HOK0.out
    have hcat : Hid (Fo.go ((pre ++ [x]).map (·.2)) ⟨p, N, 0, 1, false, 0, 1, false⟩ = Fo.step (Fo.go (pre.map (·.2)) ⟨p, N, 0, 1, false, 0, 1, false⟩) x.2) := by
      unfold Fo.go
      rw [List.map_append, List.foldl_append]
      exact Lib.hid rfl
    refine wpIn_mono (Q := fun e _ W' => e = .normal ∧ KeepsOthers W W' ∧ Iv (w.heap.size + 5) (w.heap.size + 7) W W' ∧ BoxF W' w.heap.size (Fo.step (Fo.go (pre.map (·.2)) ⟨p, N, 0, 1, false, 0, 1, false⟩) x.2) ∧ Below w.heap.size w W' ∧ w.heap.size + 7 ≤ W'.heap.size) ?_ ?_
    rotate_left
    · rintro e a W' ⟨rfl, h1, h2, h3, h4, h5⟩
      exact ⟨h1, h2, by show BoxF _ _ _; rw [hcat.out]; exact h3, h4, h5⟩
    generalize Fo.go (pre.map (·.2)) ⟨p, N, 0, 1, false, 0, 1, false⟩ = m at hM hok hcat ⊢
    obtain ⟨nn, hnn⟩ : ∃ nn : Nat, nn = 2 ^ (s.size - pre.length - 1) := ⟨_, rfl⟩
    have e2 : 2 ^ (s.size - pre.length) = 2 * nn := by rw [hnn, show s.size - pre.length = (s.size - pre.length - 1) + 1 from by omega, Nat.pow_succ, Nat.mul_comm]; rfl
    have nn64 : nn ≤ 64 := by rw [hnn]; exact pow_le6' (by omega)
    have ww64 : 2 ^ (0 + pre.length) ≤ 64 := pow_le6' (by omega)
    obtain ⟨k, n, x0, wd, fx, y, h, fy⟩ := m
    obtain ⟨o1, o2, o3, o4, o5, o6⟩ := hok
    simp only at o1 o2 o3 o4 o5 o6
    rw [e2] at o1 o2
    have b1 : wd ≤ 64 := by omega
    have b2 : h ≤ 64 := by omega
    have HN2 : Hid (n / 2 = nn) := Lib.hid (by omega)
    obtain ⟨ni, hni⟩ : ∃ ni : Int, ni = (nn : Int) := ⟨_, rfl⟩
    obtain ⟨N2, hN2⟩ : ∃ N2 : Int, N2 = (n : Int) := ⟨_, rfl⟩
    obtain ⟨ki, hki⟩ : ∃ ki : Int, ki = (k : Int) := ⟨_, rfl⟩
    obtain ⟨xi, hxi⟩ : ∃ xi : Int, xi = (x0 : Int) := ⟨_, rfl⟩
    obtain ⟨wi, hwi⟩ : ∃ wi : Int, wi = (wd : Int) := ⟨_, rfl⟩
    obtain ⟨yi, hyi⟩ : ∃ yi : Int, yi = (y : Int) := ⟨_, rfl⟩
    obtain ⟨hi, hhi⟩ : ∃ hi : Int, hi = (h : Int) := ⟨_, rfl⟩
    have e1 : N2.tdiv 2 = ni := by rw [Int.tdiv_eq_ediv_of_nonneg (by omega)]; omega
    have e1' : N2 / 2 = ni := by omega
    have w1 : IntKind.i64.wrap ni = ni := IntWalk.i64_in _ (by omega)
    have hpb : ∀ W, Calls Try.prog 116 #[.int .i64 ki, .int .i64 ni] W fun e w' => e = .returned (.tuple #[.int .i64 ((Fo.kb k nn : Nat) : Int), .bool (decide (k < nn))]) ∧ W = w' := fun W => by
      have := placeBefore_any ki ni W (by omega) (by omega) (by omega)
      rw [hki, hni, kb_cast] at this
      rw [hki, hni]
      simpa using this
    obtain ⟨kn, hkn⟩ : ∃ kn : Int, kn = ((Fo.kb k nn : Nat) : Int) := ⟨_, rfl⟩
    obtain ⟨mv, hmv⟩ : ∃ mv : Bool, mv = decide (k < nn) := ⟨_, rfl⟩
    rw [← hkn, ← hmv] at hpb
    have HM := Lib.hid hM
    obtain ⟨m0, m1, m2, m3, m4⟩ := hM
    simp only at m0 m1 m2 m3 m4
    rw [← hki] at m0
    rw [← hxi, ← hwi] at m2
    rw [← hyi, ← hhi] at m3
    rw [← hN2] at m4
    have bf : ∀ (f : Bool) W, Calls Try.prog 117 #[unf xi wi fx, .bool mv, .bool f] W fun e w' => e = .returned (unf ((Fo.ab x0 wd mv f : Nat) : Int) ((2 * wd : Nat) : Int) (fx != mv)) ∧ Below W.heap.size W w' := fun f W => by
      have := before_any xi wi fx mv f W (by omega) (by omega) (by omega)
      rw [hxi, hwi, ab_cast _ _ _ _ o3] at this
      rw [hxi, hwi, show ((2 * wd : Nat) : Int) = (wd : Int) * 2 from by omega]
      exact this
    have bg : ∀ (f : Bool) W, Calls Try.prog 117 #[unf yi hi fy, .bool mv, .bool f] W fun e w' => e = .returned (unf ((Fo.ab y h mv f : Nat) : Int) ((2 * h : Nat) : Int) (fy != mv)) ∧ Below W.heap.size W w' := fun f W => by
      have := before_any yi hi fy mv f W (by omega) (by omega) (by omega)
      rw [hyi, hhi, ab_cast _ _ _ _ o5] at this
      rw [hyi, hhi, show ((2 * h : Nat) : Int) = (h : Int) * 2 from by omega]
      exact this
    have c0 := m0.cell 0 (v := .int .i64 ki) rfl
    have f0 := m0.free 0
    have c4 := m4.cell 0 (v := .int .i64 N2) rfl
    have f4 := m4.free 0
    have x0c := m2.cell 0 (v := .int .i64 xi) rfl
    have x1c := m2.cell 1 (v := .int .i64 wi) rfl
    have x2c := m2.cell 2 (v := .bool fx) rfl
    have y0c := m3.cell 0 (v := .int .i64 yi) rfl
    have y1c := m3.cell 1 (v := .int .i64 hi) rfl
    have y2c := m3.cell 2 (v := .bool fy) rfl
    obtain ⟨xi1, xb⟩ := x
    simp only at *
    have HK : Hid (ni = (nn : Int) ∧ kn = ((Fo.kb k nn : Nat) : Int) ∧ mv = decide (k < nn)) := Lib.hid ⟨hni, hkn, hmv⟩
    clear hni hkn hmv hN2 hki hxi hwi hyi hhi m0 m1 m2 m3 m4 o1 o2 o4 o6 e2 ww64 hnn hlen hcat b1 b2 nn64
    by_cases h76 : xb.toNat = 76
    · have HL : Hid (Fo.isX xb = true ∧ (xb == 76) = true) := by
        have : xb = 76 := UInt8.toNat_inj.mp h76
        subst this
        exact Lib.hid ⟨rfl, rfl⟩
      rw [h76]
      clear h76
      gi_wp2_with (refine ⟨trivial, ?_⟩; first
        | (gi_at_call 116; refine (CallsIn.inRound l (callsIn_wide.2 (hpb _))).mono ?_; rintro e _ ⟨rfl, rfl⟩)
        | (gi_at_call 117; refine (CallsIn.inRound l (callsIn_wide.2 (bf true _))).mono ?_; rintro e w5 ⟨rfl, hb5⟩; have hN5 := (((HM.out.setN nn).setK (Fo.kb k nn))); rw [← HK.out.1, ← HK.out.2.1] at hN5; have h5 := hN5.below hb5 (by simp; omega); have r0 := h5.2.2.1.cell 0 rfl; have r1 := h5.2.2.1.cell 1 rfl; have r2 := h5.2.2.1.cell 2 rfl; have q0 := h5.2.2.1.free 0; have q1 := h5.2.2.1.free 1; have q2 := h5.2.2.1.free 2))
      clear c0 f0 c4 f4 x0c x1c x2c y0c y1c y2c r0 r1 r2 q0 q1 q2
      have hs5 := hb5.size
      simp only [World.size_setCell] at hs5
      refine ⟨?_, ?_, ?_, ?_, ?_⟩
      · exact (((((KeepsOthers.refl W).trans (KeepsOthers.setCell _ _ _)).trans (KeepsOthers.setCell _ _ _)).trans (KeepsOthers.of_grownBy (below_grown' hb5) (fun _ _ h => by cases h))).trans (KeepsOthers.setCell _ _ _)).trans ((KeepsOthers.setCell _ _ _).trans (KeepsOthers.setCell _ _ _))
      · exact ((((((Iv.refl _ _ W).set (.inl (by dsimp only; omega)) _).set (.inl (by dsimp only; omega)) _).trans (Iv.of_below hb5 (by simp; omega))).set (.inl (by dsimp only; omega)) _).set (.inl (by dsimp only; omega)) _).set (.inl (by dsimp only; omega)) _
      · refine BoxF.eq_ (h5.setX _ _ _) ?_
        have h1 := HN2.out
        have h2 := HK.out.2.2
        simp [Fo.step, h1, h2, HL.out]
      · exact (((((hB.setCell (by dsimp only; omega) _).setCell (by dsimp only; omega) _).trans (hb5.mono (by simp; omega))).setCell (by dsimp only; omega) _).setCell (by dsimp only; omega) _).setCell (by dsimp only; omega) _
      · omega
    by_cases h82 : xb.toNat = 82
    · have HL : Hid (Fo.isX xb = true ∧ (xb == 76) = false) := by
        have : xb = 82 := UInt8.toNat_inj.mp h82
        subst this
        exact Lib.hid ⟨rfl, rfl⟩
      rw [h82]
      clear h82
      gi_wp2_with (refine ⟨trivial, ?_⟩; first
        | (gi_at_call 116; refine (CallsIn.inRound l (callsIn_wide.2 (hpb _))).mono ?_; rintro e _ ⟨rfl, rfl⟩)
        | (gi_at_call 117; refine (CallsIn.inRound l (callsIn_wide.2 (bf false _))).mono ?_; rintro e w5 ⟨rfl, hb5⟩; have hN5 := (((HM.out.setN nn).setK (Fo.kb k nn))); rw [← HK.out.1, ← HK.out.2.1] at hN5; have h5 := hN5.below hb5 (by simp; omega); have r0 := h5.2.2.1.cell 0 rfl; have r1 := h5.2.2.1.cell 1 rfl; have r2 := h5.2.2.1.cell 2 rfl; have q0 := h5.2.2.1.free 0; have q1 := h5.2.2.1.free 1; have q2 := h5.2.2.1.free 2))
      clear c0 f0 c4 f4 x0c x1c x2c y0c y1c y2c r0 r1 r2 q0 q1 q2
      have hs5 := hb5.size
      simp only [World.size_setCell] at hs5
      refine ⟨?_, ?_, ?_, ?_, ?_⟩
      · exact (((((KeepsOthers.refl W).trans (KeepsOthers.setCell _ _ _)).trans (KeepsOthers.setCell _ _ _)).trans (KeepsOthers.of_grownBy (below_grown' hb5) (fun _ _ h => by cases h))).trans (KeepsOthers.setCell _ _ _)).trans ((KeepsOthers.setCell _ _ _).trans (KeepsOthers.setCell _ _ _))
      · exact ((((((Iv.refl _ _ W).set (.inl (by dsimp only; omega)) _).set (.inl (by dsimp only; omega)) _).trans (Iv.of_below hb5 (by simp; omega))).set (.inl (by dsimp only; omega)) _).set (.inl (by dsimp only; omega)) _).set (.inl (by dsimp only; omega)) _
      · refine BoxF.eq_ (h5.setX _ _ _) ?_
        have h1 := HN2.out
        have h2 := HK.out.2.2
        simp [Fo.step, h1, h2, HL.out]
      · exact (((((hB.setCell (by dsimp only; omega) _).setCell (by dsimp only; omega) _).trans (hb5.mono (by simp; omega))).setCell (by dsimp only; omega) _).setCell (by dsimp only; omega) _).setCell (by dsimp only; omega) _
      · omega
    by_cases h84 : xb.toNat = 84
    · have HL : Hid (Fo.isX xb = false ∧ (xb == 84) = true) := by
        have : xb = 84 := UInt8.toNat_inj.mp h84
        subst this
        exact Lib.hid ⟨rfl, rfl⟩
      rw [h84]
      clear h84
      gi_wp2_with (refine ⟨trivial, ?_⟩; first
        | (gi_at_call 116; refine (CallsIn.inRound l (callsIn_wide.2 (hpb _))).mono ?_; rintro e _ ⟨rfl, rfl⟩)
        | (gi_at_call 117; refine (CallsIn.inRound l (callsIn_wide.2 (bg true _))).mono ?_; rintro e w5 ⟨rfl, hb5⟩; have hN5 := (((HM.out.setN nn).setK (Fo.kb k nn))); rw [← HK.out.1, ← HK.out.2.1] at hN5; have h5 := hN5.below hb5 (by simp; omega); have r0 := h5.2.2.2.1.cell 0 rfl; have r1 := h5.2.2.2.1.cell 1 rfl; have r2 := h5.2.2.2.1.cell 2 rfl; have q0 := h5.2.2.2.1.free 0; have q1 := h5.2.2.2.1.free 1; have q2 := h5.2.2.2.1.free 2))
      clear c0 f0 c4 f4 x0c x1c x2c y0c y1c y2c r0 r1 r2 q0 q1 q2
      have hs5 := hb5.size
      simp only [World.size_setCell] at hs5
      refine ⟨?_, ?_, ?_, ?_, ?_⟩
      · exact (((((KeepsOthers.refl W).trans (KeepsOthers.setCell _ _ _)).trans (KeepsOthers.setCell _ _ _)).trans (KeepsOthers.of_grownBy (below_grown' hb5) (fun _ _ h => by cases h))).trans (KeepsOthers.setCell _ _ _)).trans ((KeepsOthers.setCell _ _ _).trans (KeepsOthers.setCell _ _ _))
      · exact ((((((Iv.refl _ _ W).set (.inl (by dsimp only; omega)) _).set (.inl (by dsimp only; omega)) _).trans (Iv.of_below hb5 (by simp; omega))).set (.inl (by dsimp only; omega)) _).set (.inl (by dsimp only; omega)) _).set (.inl (by dsimp only; omega)) _
      · refine BoxF.eq_ (h5.setY _ _ _) ?_
        have h1 := HN2.out
        have h2 := HK.out.2.2
        simp [Fo.step, h1, h2, HL.out]
      · exact (((((hB.setCell (by dsimp only; omega) _).setCell (by dsimp only; omega) _).trans (hb5.mono (by simp; omega))).setCell (by dsimp only; omega) _).setCell (by dsimp only; omega) _).setCell (by dsimp only; omega) _
      · omega
    have HL : Hid (Fo.isX xb = false ∧ (xb == 84) = false) := by
      refine Lib.hid ⟨?_, ?_⟩
      · simp only [Fo.isX, Bool.or_eq_false_iff, beq_eq_false_iff_ne]
        exact ⟨fun h => h76 (by rw [h]; rfl), fun h => h82 (by rw [h]; rfl)⟩
      · rw [beq_eq_false_iff_ne]
        exact fun h => h84 (by rw [h]; rfl)
    have n1 : ¬ ((xb.toNat : Int) = 76) := by omega
    have n2 : ¬ ((xb.toNat : Int) = 82) := by omega
    have n3 : ¬ ((xb.toNat : Int) = 84) := by omega
    have n4 : ((xb.toNat : Int) == 76) = false := by simpa using n1
    have n5 : ((xb.toNat : Int) == 82) = false := by simpa using n2
    have n6 : ((xb.toNat : Int) == 84) = false := by simpa using n3
    clear h76 h82 h84
    gi_wp2_with (refine ⟨trivial, ?_⟩; first
      | (gi_at_call 116; refine (CallsIn.inRound l (callsIn_wide.2 (hpb _))).mono ?_; rintro e _ ⟨rfl, rfl⟩)
      | (gi_at_call 117; refine (CallsIn.inRound l (callsIn_wide.2 (bg false _))).mono ?_; rintro e w5 ⟨rfl, hb5⟩; have hN5 := (((HM.out.setN nn).setK (Fo.kb k nn))); rw [← HK.out.1, ← HK.out.2.1] at hN5; have h5 := hN5.below hb5 (by simp; omega); have r0 := h5.2.2.2.1.cell 0 rfl; have r1 := h5.2.2.2.1.cell 1 rfl; have r2 := h5.2.2.2.1.cell 2 rfl; have q0 := h5.2.2.2.1.free 0; have q1 := h5.2.2.2.1.free 1; have q2 := h5.2.2.2.1.free 2))
    clear c0 f0 c4 f4 x0c x1c x2c y0c y1c y2c r0 r1 r2 q0 q1 q2
    have hs5 := hb5.size
    simp only [World.size_setCell] at hs5
    refine ⟨?_, ?_, ?_, ?_, ?_⟩
    · exact (((((KeepsOthers.refl W).trans (KeepsOthers.setCell _ _ _)).trans (KeepsOthers.setCell _ _ _)).trans (KeepsOthers.of_grownBy (below_grown' hb5) (fun _ _ h => by cases h))).trans (KeepsOthers.setCell _ _ _)).trans ((KeepsOthers.setCell _ _ _).trans (KeepsOthers.setCell _ _ _))
    · exact ((((((Iv.refl _ _ W).set (.inl (by dsimp only; omega)) _).set (.inl (by dsimp only; omega)) _).trans (Iv.of_below hb5 (by simp; omega))).set (.inl (by dsimp only; omega)) _).set (.inl (by dsimp only; omega)) _).set (.inl (by dsimp only; omega)) _
    · refine BoxF.eq_ (h5.setY _ _ _) ?_
      have h1 := HN2.out
      have h2 := HK.out.2.2
      simp [Fo.step, h1, h2, HL.out]
    · exact (((((hB.setCell (by dsimp only; omega) _).setCell (by dsimp only; omega) _).trans (hb5.mono (by simp; omega))).setCell (by dsimp only; omega) _).setCell (by dsimp only; omega) _).setCell (by dsimp only; omega) _
    · omega
  case done =>
    rintro D ys W hD rfl ⟨hM, hB, hsz⟩ hK
    have hrun : (backTo s.data.toList s.data.toList.length).map (·.2) = s.data.toList.reverse := backTo_all _
    rw [hrun] at hM
    have HR : Hid (Fo.leaf s.data.toList.reverse 1 1 0 0 p = (Fo.go s.data.toList.reverse ⟨p, N, 0, 1, false, 0, 1, false⟩).lf) := by
      unfold Fo.leaf
      rw [List.length_reverse, hsl, ← HN.out]
      exact Lib.hid rfl
    generalize Fo.go s.data.toList.reverse ⟨p, N, 0, 1, false, 0, 1, false⟩ = m at hM HR
    obtain ⟨k, n, x, wd, fx, y, h, fy⟩ := m
    obtain ⟨m0, m1, m2, m3, m4⟩ := hM
    simp only at m2 m3
    have x0c := m2.cell 0 (v := .int .i64 (x : Int)) rfl
    have x2c := m2.cell 2 (v := .bool fx) rfl
    have y0c := m3.cell 0 (v := .int .i64 (y : Int)) rfl
    have y2c := m3.cell 2 (v := .bool fy) rfl
    have l0 := m1.cell 0 rfl
    have l1 := m1.cell 1 rfl
    have l2 := m1.cell 2 rfl
    have l3 := m1.cell 3 rfl
    have q0 := m1.free 0
    have q1 := m1.free 1
    have q2 := m1.free 2
    have q3 := m1.free 3
    have hDne : D ≠ w.heap.size + 1 := by have := HZ.out; simp at hD; omega
    have HBE := Lib.hid hB
    have HKD := Lib.hid hK
    have HM1 := Lib.hid m1
    clear hrun m0 m2 m3 m4
    gi_wp2
    have hK4 := fun u0 u1 u2 u3 => K_set (i := 3) (u := u3) (K_set (i := 2) (u := u2) (K_set (i := 1) (u := u1) (K_set (i := 0) (u := u0) HKD.out hDne) hDne) hDne) hDne
    refine ⟨by simp, .inl ⟨_, _, rfl, run_takeDeferred (hK4 _ _ _ _), ?_⟩⟩
    refine ⟨_, results_cell_row rfl _ _ (w.heap.size + 1) 100 #[.int .i64 (x : Int), .int .i64 (y : Int), .bool fx, .bool fy] (0, 0) _ rfl ((World.putObj_heap_other (fun e => hDne e.symm)).trans ((((HM1.out.set 0 _).set 1 _).set 2 _).set 3 _)) Try.underlying100 rfl (by kernel_rfl), by rw [HR.out]; rfl, ?_⟩
    exact ((((HBE.out.setCell (by dsimp only; omega) _).setCell (by dsimp only; omega) _).setCell (by dsimp only; omega) _).setCell (by dsimp only; omega) _).trans (belowK_b (w := w) (Nat.le_refl _) _ D _ (.deferred none) (by have := HZ.out; simp at hD; omega) (hK4 _ _ _ _) rfl rfl)
  case stop =>
    rintro D c pre W _ _ h _
    exact h.elim
end Go.Proofs.Ytfiefjbipjalpaa
