/- The contract of the program's mark at a place of a stack. -/
import Derived.Test.YtccajladopmbkaaGreatDoorStBack
import Derived.Test.YtccajladopmbkaaGreatDoorStr
import Derived.Test.YtccajladopmbkaaGreatDoorIn
import Derived.Test.YtccajladopmbkaaGreatDoorStMath
import Derived.Lib.ConvBytes
namespace Go.Proofs.YtccajladopmbkaaGreatDoor
open Go.RowKit Go.Shelf
attribute [local go_sem] Oper.semAt_some

theorem pow_le6' {k : Nat} (h : k ≤ 6) : 2 ^ k ≤ 64 := Nat.le_trans (Nat.pow_le_pow_right (by omega) h) (by decide)
theorem shl_one' (k : Nat) (h : k ≤ 6) : IntKind.i64.wrap (2 ^ k) = ((2 ^ k : Nat) : Int) := by
  obtain ⟨p, hp⟩ : ∃ p : Nat, p = 2 ^ k := ⟨_, rfl⟩
  have h1 : p ≤ 64 := by rw [hp]; exact pow_le6' h
  have h2 : ((2 : Int) ^ k) = (p : Int) := by rw [hp]; simp
  rw [h2, ← hp]
  exact IntWalk.i64_in _ (by omega)

set_option maxRecDepth 100000 in
theorem cellCount_any (s : ByteArray) (N : Nat) (w : World) (h6 : s.size ≤ 6) (hN : N = 2 ^ s.size) :
    Calls Tryz.prog 24 #[.string s] w fun e w' => e = .returned (.int .i64 (N : Int)) ∧ w = w' := by
  have hsh : IntKind.i64.wrap (2 ^ s.size) = (N : Int) := by rw [hN]; exact shl_one' _ h6
  clear hN
  go_enter Tryz.func24, Tryz.ntmps24
  go_wp2_with fail
  go_ret
  exact ⟨rfl, rfl⟩

theorem below_bytes (w : World) (e : TypeId) (s : ByteArray) : Below w.heap.size w (Lib.bytesWorld w e s) :=
  ⟨rfl, rfl, rfl, by rw [Lib.bytesWorld_size]; omega, fun k hk => Lib.bytesWorld_at_old w e s k hk⟩

/-- The five variables of the reckoning, in blocks g to g+4. -/
def BoxM (W : World) (g : Nat) (m : St.M) : Prop :=
  Boxed W g 2 (.int .i64 m.place) ∧ Boxed W (g + 1) 2 (.int .i64 m.height) ∧ Boxed W (g + 2) 2 (.int .i64 m.width) ∧ Boxed W (g + 3) 2 (.int .i64 m.column) ∧ Boxed W (g + 4) 4 (.bool m.down)

/-- The state after some letters. -/
structure MOk (m : St.M) (h w : Nat) : Prop where
  eh : m.height = (h : Int)
  ew : m.width = (w : Int)
  c0 : 0 ≤ m.column
  c1 : m.column < (w : Int)
  p0 : 0 ≤ m.place
  p1 : m.place < (h : Int)
theorem BoxM.eq_ {W : World} {g : Nat} {m m' : St.M} (h : BoxM W g m') (e : m = m') : BoxM W g m := by
  rw [e]
  exact h
theorem BoxM.setP {W : World} {g : Nat} {H Wd C P : Int} {d : Bool} (h : BoxM W g ⟨H, Wd, C, P, d⟩) (v : Int) : BoxM (W.setCell ⟨g, 0, none⟩ (.int .i64 v)) g ⟨H, Wd, C, v, d⟩ :=
  ⟨Boxed.set _ h.1, Boxed.other h.2.1 (by omega) _, Boxed.other h.2.2.1 (by omega) _, Boxed.other h.2.2.2.1 (by omega) _, Boxed.other h.2.2.2.2 (by omega) _⟩
theorem BoxM.setH {W : World} {g : Nat} {H Wd C P : Int} {d : Bool} (h : BoxM W g ⟨H, Wd, C, P, d⟩) (v : Int) : BoxM (W.setCell ⟨g + 1, 0, none⟩ (.int .i64 v)) g ⟨v, Wd, C, P, d⟩ :=
  ⟨Boxed.other h.1 (by omega) _, Boxed.set _ h.2.1, Boxed.other h.2.2.1 (by omega) _, Boxed.other h.2.2.2.1 (by omega) _, Boxed.other h.2.2.2.2 (by omega) _⟩
theorem BoxM.setW {W : World} {g : Nat} {H Wd C P : Int} {d : Bool} (h : BoxM W g ⟨H, Wd, C, P, d⟩) (v : Int) : BoxM (W.setCell ⟨g + 2, 0, none⟩ (.int .i64 v)) g ⟨H, v, C, P, d⟩ :=
  ⟨Boxed.other h.1 (by omega) _, Boxed.other h.2.1 (by omega) _, Boxed.set _ h.2.2.1, Boxed.other h.2.2.2.1 (by omega) _, Boxed.other h.2.2.2.2 (by omega) _⟩
theorem BoxM.setC {W : World} {g : Nat} {H Wd C P : Int} {d : Bool} (h : BoxM W g ⟨H, Wd, C, P, d⟩) (v : Int) : BoxM (W.setCell ⟨g + 3, 0, none⟩ (.int .i64 v)) g ⟨H, Wd, v, P, d⟩ :=
  ⟨Boxed.other h.1 (by omega) _, Boxed.other h.2.1 (by omega) _, Boxed.other h.2.2.1 (by omega) _, Boxed.set _ h.2.2.2.1, Boxed.other h.2.2.2.2 (by omega) _⟩
theorem BoxM.setD {W : World} {g : Nat} {H Wd C P : Int} {d : Bool} (h : BoxM W g ⟨H, Wd, C, P, d⟩) (v : Bool) : BoxM (W.setCell ⟨g + 4, 0, none⟩ (.bool v)) g ⟨H, Wd, C, P, v⟩ :=
  ⟨Boxed.other h.1 (by omega) _, Boxed.other h.2.1 (by omega) _, Boxed.other h.2.2.1 (by omega) _, Boxed.other h.2.2.2.1 (by omega) _, Boxed.set _ h.2.2.2.2⟩
theorem boxM_own {β : Type} (g : Nat) (f : β → St.M) : Go.Own (fun s W => BoxM W g (f s)) := fun s X Y row hs hg hrow =>
  ⟨boxed_own g _ (fun s => .int .i64 (f s).place) s X Y row hs.1 hg hrow, boxed_own (g + 1) _ (fun s => .int .i64 (f s).height) s X Y row hs.2.1 hg hrow, boxed_own (g + 2) _ (fun s => .int .i64 (f s).width) s X Y row hs.2.2.1 hg hrow, boxed_own (g + 3) _ (fun s => .int .i64 (f s).column) s X Y row hs.2.2.2.1 hg hrow, boxed_own (g + 4) _ (fun s => .bool (f s).down) s X Y row hs.2.2.2.2 hg hrow⟩
theorem Boxed.below {W W' : World} {B B' : Nat} {t : TypeId} {v : Value} (h : Boxed W B t v) (hb : Below B' W W') (hB : B < B') : Boxed W' B t v := (hb.block B hB).trans h
theorem BoxM.below {W W' : World} {g B' : Nat} {m : St.M} (h : BoxM W g m) (hb : Below B' W W') (hB : g + 4 < B') : BoxM W' g m :=
  ⟨Boxed.below h.1 hb (by omega), Boxed.below h.2.1 hb (by omega), Boxed.below h.2.2.1 hb (by omega), Boxed.below h.2.2.2.1 hb (by omega), Boxed.below h.2.2.2.2 hb (by omega)⟩
/-- The five variables, laid. -/
def fiveW (w : World) (p N : Int) : World := ((((w.alloc (.cells #[.int .i64 p] 2)).alloc (.cells #[.int .i64 N] 2)).alloc (.cells #[.int .i64 1] 2)).alloc (.cells #[.int .i64 0] 2)).alloc (.cells #[.bool false] 4)
theorem fiveW_size (w : World) (p N : Int) : (fiveW w p N).heap.size = w.heap.size + 5 := by simp [fiveW]
theorem fiveW_below (w : World) (p N : Int) : Below w.heap.size w (fiveW w p N) :=
  (((((Below.refl _ w).alloc (Nat.le_refl _) _).alloc (by simp) _).alloc (by simp; omega) _).alloc (by simp; omega) _).alloc (by simp; omega) _
theorem fiveW_box (w : World) (p N : Int) : BoxM (fiveW w p N) w.heap.size ⟨N, 1, 0, p, false⟩ := by
  have b0 := Boxed.new w 2 (.int .i64 p)
  have b1 := Boxed.new (w.alloc (.cells #[.int .i64 p] 2)) 2 (.int .i64 N)
  have b2 := Boxed.new ((w.alloc (.cells #[.int .i64 p] 2)).alloc (.cells #[.int .i64 N] 2)) 2 (.int .i64 1)
  have b3 := Boxed.new (((w.alloc (.cells #[.int .i64 p] 2)).alloc (.cells #[.int .i64 N] 2)).alloc (.cells #[.int .i64 1] 2)) 2 (.int .i64 0)
  have b4 := Boxed.new ((((w.alloc (.cells #[.int .i64 p] 2)).alloc (.cells #[.int .i64 N] 2)).alloc (.cells #[.int .i64 1] 2)).alloc (.cells #[.int .i64 0] 2)) 4 (.bool false)
  simp only [World.size_alloc] at b1 b2 b3 b4
  exact ⟨(((b0.alloc _).alloc _).alloc _).alloc _, ((b1.alloc _).alloc _).alloc _, (b2.alloc _).alloc _, b3.alloc _, b4⟩
theorem MOk.step {m : St.M} {h w : Nat} (k : MOk m (2 * h) w) (b : UInt8) : MOk (St.mstep m b) h (2 * w) := by
  obtain ⟨h1, h2, h3, h4, h5, h6⟩ := k
  have hd : m.height / 2 = (h : Int) := by rw [h1]; omega
  refine ⟨by simp [St.mstep, hd], by simp [St.mstep, h2], ?_, ?_, ?_, ?_⟩ <;>
  · simp only [St.mstep, hd]
    repeat' split
    all_goals simp only [decide_eq_true_eq] at *
    all_goals omega
theorem MOk.all (l : List UInt8) (m : St.M) (k j : Nat) (hj : l.length = j) (hjk : j ≤ k) (h : MOk m (2 ^ k) 1) : MOk (l.foldl St.mstep m) (2 ^ (k - j)) (2 ^ j) := by
  induction j generalizing l with
  | zero =>
    obtain rfl := List.eq_nil_of_length_eq_zero hj
    exact h
  | succ i ih =>
    obtain ⟨l', b, rfl⟩ : ∃ l' b, l = l' ++ [b] := by
      rcases List.eq_nil_or_concat l with rfl | ⟨l', b, rfl⟩
      · simp at hj
      · exact ⟨l', b, by simp⟩
    rw [List.foldl_append]
    have h := ih l' (by simp at hj; exact hj) (by omega)
    rw [show k - i = (k - (i + 1)) + 1 from by omega, Nat.pow_succ, Nat.mul_comm] at h
    have := h.step b
    rw [Nat.pow_succ, Nat.mul_comm (2 ^ i)]
    exact this

set_option maxRecDepth 100000 in
set_option maxHeartbeats 4000000 in
theorem markAt_any (s : ByteArray) (p : Int) (w : World) (h6 : s.size ≤ 6) (hp0 : 0 ≤ p) (hp1 : p < ((2 ^ s.size : Nat) : Int)) :
    Calls Tryz.prog 37 #[.string s, .int .i64 p] w fun e w' => e = .returned (.int .i64 (St.mark s.data.toList p)) ∧ Below w.heap.size w w' := by
  have hcv : ∀ W, (convert 9 22 (.string s)).run Tryz.prog W = .ok (.slice (some ⟨W.heap.size, 0, none⟩) s.size (grownCap W s.size 0 5)) (Lib.bytesWorld W 5 s) := fun W => Lib.run_convert_string_bytes W _ _ _ s Tryz.underlying9 Tryz.underlying22 Tryz.underlying5
  obtain ⟨N, hN⟩ : ∃ N : Nat, N = 2 ^ s.size := ⟨_, rfl⟩
  rw [← hN] at hp1
  have HN := Lib.hid hN
  clear hN
  refine (callsIn_wide (n := 9)).1 ?_
  refine callsIn_of_wp_marks Tryz.func37 rfl trivial ?_ rfl
  simp only [Tryz.ntmps37, List.size_toArray, List.length_cons, List.length_nil, Nat.reduceAdd, Nat.reduceSub, Array.replicate_succ, Array.replicate_zero, List.push_toArray, List.append_toArray, List.nil_append, List.cons_append]
  gi_wp2_with (refine ⟨trivial, ?_⟩; first
    | (gi_at_call 24; refine (callsIn_wide.2 (cellCount_any s N _ h6 HN.out)).mono ?_; rintro e _ ⟨rfl, rfl⟩)
    | (gi_at_call 53; refine (callsIn_wide.2 (back_any _ _ _ _)).mono ?_; rintro e w7 ⟨rfl, hw7⟩))
  have hsl : s.data.toList.length = s.size := toList_len s
  have hB0 : BoxM (fiveW w p N) w.heap.size ⟨(N : Int), 1, 0, p, false⟩ := fiveW_box w p N
  have hz0 : (fiveW w p N).heap.size = w.heap.size + 5 := fiveW_size w p N
  have hL0 := fiveW_below w p N
  change Code.wpIn _ _ _ _ _ _ ((Lib.bytesWorld (fiveW w p N) 5 s).alloc (.cells #[.slice (some ⟨w.heap.size + 5, 0, none⟩) s.size (grownCap (fiveW w p N) s.size 0 5)] 22))
  change Code.wpIn _ _ _ _ _ { tmps := #[.string s, .int .i64 p, undef, .pointer (some ⟨w.heap.size, 0, none⟩), .int .i64 0, .pointer (some ⟨w.heap.size + 1, 0, none⟩), .pointer (some ⟨w.heap.size + 2, 0, none⟩), .pointer (some ⟨w.heap.size + 3, 0, none⟩), .pointer (some ⟨w.heap.size + 4, 0, none⟩), undef, undef, undef, .string s, .int .i64 N, .string s, .slice (some ⟨w.heap.size + 5, 0, none⟩) s.size (grownCap (fiveW w p N) s.size 0 5), .func (.func 64) #[] #[.pointer (some ⟨(Lib.bytesWorld (fiveW w p N) 5 s).heap.size, 0, none⟩)], undef, undef, undef, undef, undef, undef, undef, undef, undef, undef, undef, undef, undef, undef, undef, undef, undef, undef, undef, undef, undef, undef, undef, undef, undef, undef, undef, undef, undef, undef, undef, undef, undef, undef, undef, undef], defers := [] } _
  have hzB : (Lib.bytesWorld (fiveW w p N) 5 s).heap.size = w.heap.size + 6 := by rw [Lib.bytesWorld_size, hz0]
  have hbB := below_bytes (fiveW w p N) 5 s
  have hB1 := hB0.below hbB (by omega)
  have hL1 := hL0.trans (hbB.mono (by omega))
  have hrow : ∀ j, j < s.size → (Lib.bytesWorld (fiveW w p N) 5 s).cell? ⟨w.heap.size + 5, j, none⟩ = some (.int .u8 ((s.data.toList.getD j 0).toNat : Int)) := by
    intro j hj
    have := Lib.bytesWorld_cell (fiveW w p N) 5 s j hj
    rwa [hz0] at this
  generalize grownCap (fiveW w p N) s.size 0 5 = cap
  generalize Lib.bytesWorld (fiveW w p N) 5 s = WB at hzB hbB hB1 hL1 hrow ⊢
  have HZ := Lib.hid hzB
  clear hbB hL0 hz0 hB0 hw7 hcv hzB
  have hbx : Boxed (WB.alloc (.cells #[.slice (some ⟨w.heap.size + 5, 0, none⟩) s.size cap] 22)) WB.heap.size 22 (.slice (some ⟨w.heap.size + 5, 0, none⟩) s.size cap) := Boxed.new _ _ _
  have hbA : Below WB.heap.size WB (WB.alloc (.cells #[.slice (some ⟨w.heap.size + 5, 0, none⟩) s.size cap] 22)) := (Below.refl _ _).alloc (Nat.le_refl _) _
  have hrow' : ∀ j, j < s.size → (WB.alloc (.cells #[.slice (some ⟨w.heap.size + 5, 0, none⟩) s.size cap] 22)).cell? ⟨w.heap.size + 5, 0 + j, none⟩ = some (.int .u8 ((s.data.toList.getD j 0).toNat : Int)) := by
    intro j hj
    rw [Nat.zero_add, hbA.cell (p := ⟨w.heap.size + 5, j, none⟩) (by show w.heap.size + 5 < WB.heap.size; rw [HZ.out]; omega)]
    exact hrow j hj
  refine wpIn_rangeFunc_ownF rfl (by decide) (gf := 64) (lb := #[.pointer (some ⟨WB.heap.size, 0, none⟩)]) rfl trivial (enters_of Tryz.func64 (by kernel_rfl) rfl)
    (back_stops Fence.wide 8 trivial rfl (by decide) WB.heap.size (w.heap.size + 5) (w.heap.size + 7) (w.heap.size + 5) 0 cap s.data.toList (by rw [hsl]; omega) _ (by have := HZ.out; omega) (by omega) (by have := HZ.out; simp; omega) hbx.cell hrow')
    (fun h k => h.trans k) (Iv.put (by have := HZ.out; simp; omega)) (Below.refl _ _) (fun _ => rfl)
    (fun pre W => BoxM W w.heap.size ((pre.map (·.2)).foldl St.mstep ⟨(N : Int), 1, 0, p, false⟩) ∧ Below w.heap.size w W)
    (fun _ _ _ => False)
    (OwnFrom.and (Go.Own.from (boxM_own w.heap.size (fun pre : List (Nat × UInt8) => (pre.map (·.2)).foldl St.mstep ⟨(N : Int), 1, 0, p, false⟩)) _) (ownFrom_below (Nat.le_refl _) (by have := HZ.out; simp; omega)))
    (fun _ _ _ _ _ hs _ _ => hs)
    ⟨hB1.below hbA (by have := HZ.out; omega), hL1.trans (hbA.mono (by have := HZ.out; omega))⟩
    (fun x => { tmps := #[.string s, .int .i64 p, undef, .pointer (some ⟨w.heap.size, 0, none⟩), .int .i64 0, .pointer (some ⟨w.heap.size + 1, 0, none⟩), .pointer (some ⟨w.heap.size + 2, 0, none⟩), .pointer (some ⟨w.heap.size + 3, 0, none⟩), .pointer (some ⟨w.heap.size + 4, 0, none⟩), undef, .int .u8 (x.2.toNat : Int), undef, .string s, .int .i64 N, .string s, .slice (some ⟨w.heap.size + 5, 0, none⟩) s.size cap, .func (.func 64) #[] #[.pointer (some ⟨WB.heap.size, 0, none⟩)], .int .i64 (x.1 : Int), .int .u8 (x.2.toNat : Int), undef, undef, undef, undef, undef, undef, undef, undef, undef, undef, undef, undef, undef, undef, undef, undef, undef, undef, undef, undef, undef, undef, undef, undef, undef, undef, undef, undef, undef, undef, undef, undef, undef, undef], defers := [] }) ?assign ?body ?done ?stop
  case assign =>
    intro l x W K hK
    gi_wp2
    exact hK
  case body =>
    rintro l pre x W ⟨hM, hB⟩ hlen
    rw [hsl] at hlen
    have hok0 : MOk ⟨(N : Int), 1, 0, p, false⟩ (2 ^ s.size) 1 := ⟨by rw [← HN.out], rfl, by simp, by simp, hp0, by rw [← HN.out]; exact hp1⟩
    have hok := MOk.all (pre.map (·.2)) _ s.size pre.length (by simp) (by omega) hok0
    have hcat : Hid (((pre ++ [x]).map (·.2)).foldl St.mstep ⟨(N : Int), 1, 0, p, false⟩ = St.mstep ((pre.map (·.2)).foldl St.mstep ⟨(N : Int), 1, 0, p, false⟩) x.2) := by
      rw [List.map_append, List.foldl_append]
      exact Lib.hid rfl
    refine wpIn_mono (Q := fun e _ W' => e = .normal ∧ KeepsOthers W W' ∧ Iv (w.heap.size + 5) (w.heap.size + 7) W W' ∧ BoxM W' w.heap.size (St.mstep ((pre.map (·.2)).foldl St.mstep ⟨(N : Int), 1, 0, p, false⟩) x.2) ∧ Below w.heap.size w W') ?_ ?_
    rotate_left
    · rintro e a W' ⟨rfl, h1, h2, h3, h4⟩
      exact ⟨h1, h2, by show BoxM _ _ _; rw [hcat.out]; exact h3, h4⟩
    generalize (pre.map (·.2)).foldl St.mstep ⟨(N : Int), 1, 0, p, false⟩ = m at hM hok hcat ⊢
    obtain ⟨hh, hhe⟩ : ∃ hh : Nat, hh = 2 ^ (s.size - pre.length - 1) := ⟨_, rfl⟩
    obtain ⟨ww, hwe⟩ : ∃ ww : Nat, ww = 2 ^ pre.length := ⟨_, rfl⟩
    have e2 : 2 ^ (s.size - pre.length) = 2 * hh := by rw [hhe, show s.size - pre.length = (s.size - pre.length - 1) + 1 from by omega, Nat.pow_succ, Nat.mul_comm]; rfl
    have hh64 : hh ≤ 64 := by rw [hhe]; exact pow_le6' (by omega)
    have ww64 : ww ≤ 64 := by rw [hwe]; exact pow_le6' (by omega)
    rw [e2, ← hwe] at hok
    clear e2 hhe hwe hcat hok0 hlen
    obtain ⟨H, Wd, C, P, d⟩ := m
    obtain ⟨hH, hW, hC0, hC1, hP0, hP1⟩ := hok
    simp only at hH hW hC0 hC1 hP0 hP1
    obtain ⟨hi, hhi⟩ : ∃ hi : Int, hi = (hh : Int) := ⟨_, rfl⟩
    have b1 : 0 ≤ hi ∧ hi ≤ 64 := by omega
    have b2 : 0 ≤ Wd ∧ Wd ≤ 64 := by omega
    have b3 : C < Wd := by omega
    have b4 : P < 2 * hi := by omega
    have b5 : H = 2 * hi := by omega
    have e1 : H.tdiv 2 = hi := by rw [Int.tdiv_eq_ediv_of_nonneg (by omega)]; omega
    have e1' : H / 2 = hi := by omega
    have w1 : IntKind.i64.wrap hi = hi := IntWalk.i64_in _ (by omega)
    have w2 : IntKind.i64.wrap (hi - 1) = hi - 1 := IntWalk.i64_in _ (by omega)
    have w3 : IntKind.i64.wrap (hi - 1 - P) = hi - 1 - P := IntWalk.i64_in _ (by omega)
    have w4 : IntKind.i64.wrap (Wd - 1) = Wd - 1 := IntWalk.i64_in _ (by omega)
    have w5 : IntKind.i64.wrap (Wd - 1 - C) = Wd - 1 - C := IntWalk.i64_in _ (by omega)
    have w6 : IntKind.i64.wrap (P - hi) = P - hi := IntWalk.i64_in _ (by omega)
    have w7 : IntKind.i64.wrap (C + Wd) = C + Wd := IntWalk.i64_in _ (by omega)
    have w8 : IntKind.i64.wrap (Wd - 1 - C + Wd) = Wd - 1 - C + Wd := IntWalk.i64_in _ (by omega)
    have w9 : IntKind.i64.wrap (Wd * 2) = Wd * 2 := IntWalk.i64_in _ (by omega)
    have HM := Lib.hid hM
    obtain ⟨m0, m1, m2, m3, m4⟩ := hM
    simp only at m0 m1 m2 m3 m4
    have c0 := m0.cell
    have c1 := m1.cell
    have c2 := m2.cell
    have c3 := m3.cell
    have c4 := m4.cell
    have f0 := m0.frozen
    have f1 := m1.frozen
    have f2 := m2.frozen
    have f3 := m3.frozen
    have f4 := m4.frozen
    obtain ⟨xi, xb⟩ := x
    simp only at *
    have HE1 := Lib.hid e1'
    clear hhi hH hW hP1 hC1 b5 e1' m0 m1 m2 m3 m4 hh64 ww64
    by_cases hL : xb.toNat = 76
    · have HL : Hid ((xb != 76) = false) := by
        have : xb = 76 := UInt8.toNat_inj.mp hL
        subst this
        exact Lib.hid rfl
      rw [hL]
      clear hL
      by_cases hlt : P < hi
      · gi_wp2
        clear c0 c1 c2 c3 c4 f0 f1 f2 f3 f4
        refine ⟨?_, ?_, ?_, ?_⟩
        · exact ((((((KeepsOthers.refl W).trans (KeepsOthers.setCell _ _ _)).trans (KeepsOthers.setCell _ _ _)).trans (KeepsOthers.setCell _ _ _)).trans (KeepsOthers.setCell _ _ _)).trans (KeepsOthers.setCell _ _ _))
        · exact ((((((Iv.refl _ _ W).set (.inl (by dsimp only; omega)) _).set (.inl (by dsimp only; omega)) _).set (.inl (by dsimp only; omega)) _).set (.inl (by dsimp only; omega)) _).set (.inl (by dsimp only; omega)) _)
        · refine BoxM.eq_ (((((HM.out.setH _).setP _).setC _).setD _).setW _) ?_
          have h1 := HE1.out
          have h2 := HL.out
          simp [St.mstep, h1, h2, hlt] <;> try omega
        · exact (((((hB.setCell (by dsimp only; omega) _).setCell (by dsimp only; omega) _).setCell (by dsimp only; omega) _).setCell (by dsimp only; omega) _).setCell (by dsimp only; omega) _)
      · gi_wp2
        clear c0 c1 c2 c3 c4 f0 f1 f2 f3 f4
        refine ⟨?_, ?_, ?_, ?_⟩
        · exact (((((KeepsOthers.refl W).trans (KeepsOthers.setCell _ _ _)).trans (KeepsOthers.setCell _ _ _)).trans (KeepsOthers.setCell _ _ _)).trans (KeepsOthers.setCell _ _ _))
        · exact (((((Iv.refl _ _ W).set (.inl (by dsimp only; omega)) _).set (.inl (by dsimp only; omega)) _).set (.inl (by dsimp only; omega)) _).set (.inl (by dsimp only; omega)) _)
        · refine BoxM.eq_ ((((HM.out.setH _).setP _).setC _).setW _) ?_
          have h1 := HE1.out
          have h2 := HL.out
          simp [St.mstep, h1, h2, hlt] <;> try omega
        · exact ((((hB.setCell (by dsimp only; omega) _).setCell (by dsimp only; omega) _).setCell (by dsimp only; omega) _).setCell (by dsimp only; omega) _)
    · have HL : Hid ((xb != 76) = true) := by
        refine Lib.hid ?_
        rw [bne_iff_ne]
        exact fun h => hL (by rw [h]; rfl)
      have n1 : ¬ ((xb.toNat : Int) = 76) := by omega
      have n2 : ((xb.toNat : Int) == 76) = false := by simpa using n1
      have n3 : (!((xb.toNat : Int) == 76)) = true := by rw [n2]; rfl
      clear hL
      by_cases hlt : P < hi
      · gi_wp2
        clear c0 c1 c2 c3 c4 f0 f1 f2 f3 f4
        refine ⟨?_, ?_, ?_, ?_⟩
        · exact (((((((KeepsOthers.refl W).trans (KeepsOthers.setCell _ _ _)).trans (KeepsOthers.setCell _ _ _)).trans (KeepsOthers.setCell _ _ _)).trans (KeepsOthers.setCell _ _ _)).trans (KeepsOthers.setCell _ _ _)).trans (KeepsOthers.setCell _ _ _))
        · exact (((((((Iv.refl _ _ W).set (.inl (by dsimp only; omega)) _).set (.inl (by dsimp only; omega)) _).set (.inl (by dsimp only; omega)) _).set (.inl (by dsimp only; omega)) _).set (.inl (by dsimp only; omega)) _).set (.inl (by dsimp only; omega)) _)
        · refine BoxM.eq_ ((((((HM.out.setH _).setP _).setC _).setD _).setC _).setW _) ?_
          have h1 := HE1.out
          have h2 := HL.out
          simp [St.mstep, h1, h2, hlt] <;> try omega
        · exact ((((((hB.setCell (by dsimp only; omega) _).setCell (by dsimp only; omega) _).setCell (by dsimp only; omega) _).setCell (by dsimp only; omega) _).setCell (by dsimp only; omega) _).setCell (by dsimp only; omega) _)
      · gi_wp2
        clear c0 c1 c2 c3 c4 f0 f1 f2 f3 f4
        refine ⟨?_, ?_, ?_, ?_⟩
        · exact ((((KeepsOthers.refl W).trans (KeepsOthers.setCell _ _ _)).trans (KeepsOthers.setCell _ _ _)).trans (KeepsOthers.setCell _ _ _))
        · exact ((((Iv.refl _ _ W).set (.inl (by dsimp only; omega)) _).set (.inl (by dsimp only; omega)) _).set (.inl (by dsimp only; omega)) _)
        · refine BoxM.eq_ (((HM.out.setH _).setP _).setW _) ?_
          have h1 := HE1.out
          have h2 := HL.out
          simp [St.mstep, h1, h2, hlt] <;> try omega
        · exact (((hB.setCell (by dsimp only; omega) _).setCell (by dsimp only; omega) _).setCell (by dsimp only; omega) _)
  case done =>
    rintro D ys W hD rfl ⟨hM, hB⟩ hK
    have hrun : (backTo s.data.toList s.data.toList.length).map (·.2) = s.data.toList.reverse := backTo_all _
    rw [hrun] at hM
    have HR : Hid (St.mark s.data.toList p = if (s.data.toList.reverse.foldl St.mstep ⟨(N : Int), 1, 0, p, false⟩).down then -((s.data.toList.reverse.foldl St.mstep ⟨(N : Int), 1, 0, p, false⟩).column + 1) else (s.data.toList.reverse.foldl St.mstep ⟨(N : Int), 1, 0, p, false⟩).column + 1) := by
      unfold St.mark St.mrun
      rw [hsl, ← HN.out]
      exact Lib.hid rfl
    have hok0 : MOk ⟨(N : Int), 1, 0, p, false⟩ (2 ^ s.size) 1 := ⟨by rw [← HN.out], rfl, by simp, by simp, hp0, by rw [← HN.out]; exact hp1⟩
    have hok := MOk.all s.data.toList.reverse _ s.size s.size (by rw [List.length_reverse, hsl]) (Nat.le_refl _) hok0
    generalize s.data.toList.reverse.foldl St.mstep ⟨(N : Int), 1, 0, p, false⟩ = m at hM hok HR
    obtain ⟨H, Wd, C, P, d⟩ := m
    obtain ⟨hH, hW, hC0, hC1, hP0, hP1⟩ := hok
    simp only at hH hW hC0 hC1 hP0 hP1 HR
    have h64 := pow_le6' h6
    have hC64 : C < 64 := by omega
    obtain ⟨m0, m1, m2, m3, m4⟩ := hM
    simp only at m3 m4
    have c3 := m3.cell
    have c4 := m4.cell
    have w1 : IntKind.i64.wrap (C + 1) = C + 1 := IntWalk.i64_in _ (by omega)
    have w2 : IntKind.i64.wrap (-(C + 1)) = -(C + 1) := IntWalk.i64_in _ (by omega)
    clear hH hW hC1 hP0 hP1 hrun hok0 m0 m1 m2 m3 m4 h64
    have hbel := Lib.hid (hB.trans (belowK_b (w := w) (Nat.le_refl _) W D _ (.deferred none) (by have := HZ.out; simp at hD; omega) hK rfl rfl))
    cases d with
    | true =>
      gi_wp2
      refine ⟨by simp, .inl ⟨_, _, rfl, run_takeDeferred hK, ?_⟩⟩
      exact ⟨_, results_tmp rfl _ _ _, by rw [HR.out]; rfl, hbel.out⟩
    | false =>
      gi_wp2
      refine ⟨by simp, .inl ⟨_, _, rfl, run_takeDeferred hK, ?_⟩⟩
      exact ⟨_, results_tmp rfl _ _ _, by rw [HR.out]; rfl, hbel.out⟩
  case stop =>
    rintro D c pre W _ _ h _
    exact h.elim
end Go.Proofs.YtccajladopmbkaaGreatDoor
