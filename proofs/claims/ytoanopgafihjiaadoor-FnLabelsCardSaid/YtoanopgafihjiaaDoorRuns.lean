/- Contracts of the program's runs of the chapters. -/
import Derived.Test.YtoanopgafihjiaaDoorStarts
import Derived.Laws.OwnMore
namespace Go.Proofs.YtoanopgafihjiaaDoor
open Go.RowKit Pg

/-- Block g holds the pairs of numbers l, one behind the other. -/
def Row2 (w : World) (g : Nat) (l : List Int) : Prop := Blk w g (l.map I).toArray 57
theorem Row2.lt {w : World} {g : Nat} {l : List Int} (h : Row2 w g l) : g < w.heap.size := Blk.lt h
theorem Row2.below {w w' : World} {B g : Nat} {l : List Int} (h : Row2 w g l) (hb : Below B w w') (hg : g < B) : Row2 w' g l := Blk.below h hb hg
theorem Row2.q {w w' : World} {g : Nat} {l : List Int} (h : Row2 w g l) (hq : Q w w') : Row2 w' g l := Blk.q h hq
theorem Row2.only {w w' : World} {lo hi g : Nat} {l : List Int} (h : Row2 w g l) (ho : Only lo hi w w') (hg : g < lo ∨ hi ≤ g) : Row2 w' g l := Blk.only h ho hg
theorem Row2.cell {w : World} {g j : Nat} {l : List Int} {x : Int} (h : Row2 w g l) (hx : l[j]? = some x) : w.cell? ⟨g, j, none⟩ = some (.int .i64 x) :=
  Blk.cell h j (by simp [hx])
theorem Row2.free {w : World} {g : Nat} {l : List Int} (h : Row2 w g l) (j : Nat) : w.frozen? ⟨g, j, none⟩ = false := Blk.free h j
theorem Row2.set {w : World} {g : Nat} {l : List Int} (h : Row2 w g l) (j : Nat) (x : Int) : Row2 (w.setCell ⟨g, j, none⟩ (.int .i64 x)) g (l.set j x) := by
  have := Blk.set h j (I x)
  unfold Row2
  rw [List.map_set]
  simpa using this
theorem info2 : (Tryd.prog.info? 57).map (fun i => (i.zero, i.size, i.bytes)) = some (some (.agg #[.int .i64 0, .int .i64 0]), 2, 16) := by kernel_rfl
theorem made2 (n : Nat) : (madeCells (Value.agg #[.int .i64 0, .int .i64 0]).cells (n * 2)).toList = (List.replicate (2 * n) 0).map I := by
  apply List.ext_getElem?
  intro j
  have hc : (Value.agg #[.int .i64 0, .int .i64 0]).cells = #[.int .i64 0, .int .i64 0] := rfl
  rw [hc]
  by_cases hj : j < n * 2
  · have h2 : j % 2 = 0 ∨ j % 2 = 1 := by omega
    have hj' : j < 2 * n := by omega
    rcases h2 with h2 | h2 <;> simp [madeCells, hj, hj', h2]
  · have hj' : ¬ j < 2 * n := by omega
    simp [madeCells, hj, hj']
theorem row2_of_own {w : World} {g n base : Nat} {l : List Int} (h : w.ownsRow base 57 2 (.slice (some ⟨g, 0, none⟩) n n) n (l.map I)) : Row2 w g l := by
  obtain ⟨hlen, h | ⟨g', cap, cur, hv, hb, hg, h1, h2, h3, h4⟩⟩ := h
  · cases h.1
  · injection hv with e1 e2 e3
    injection e1 with e1
    injection e1 with e1
    subst e1 e3
    have : cur = (l.map I).toArray := by
      rw [← h4, List.take_of_length_le (by simp; omega)]
    unfold Row2 Blk
    rw [hg, this]

theorem runs_step (r : Bool) (q m x : Int) (l : List Int) (k n : Nat) (hl : l.length = n) (hx : l[k]? = some x) (hk : k < n) (hm : stop r q (l.take k) = m) :
    ((runs r q (l.take k) ++ List.replicate (2 * (n - k)) 0).set (k * 2) (up r m)).set (k * 2 + 1) (up r m + x - 1) = runs r q (l.take (k + 1)) ++ List.replicate (2 * (n - (k + 1))) 0 := by
  have hlen : (runs r q (l.take k)).length = 2 * k := by rw [runs_len, List.length_take]; omega
  rw [Pg.take_snoc l k x hx, runs_snoc, hm, show 2 * (n - k) = 2 * (n - (k + 1)) + 1 + 1 from by omega, List.replicate_succ, List.replicate_succ]
  rw [List.set_append_right _ _ (by omega), List.set_append_right _ _ (by omega), hlen, show k * 2 - 2 * k = 0 from by omega, show k * 2 + 1 - 2 * k = 1 from by omega]
  simp
theorem runs_room (r : Bool) (q : Int) (l : List Int) (k n j : Nat) (hl : l.length = n) (hk : k < n) (hj : j < 2 * n) : ∃ y, (runs r q (l.take k) ++ List.replicate (2 * (n - k)) 0)[j]? = some y := by
  have hlen : (runs r q (l.take k)).length = 2 * k := by rw [runs_len, List.length_take]; omega
  exact ⟨_, List.getElem?_eq_getElem (by simp; omega)⟩

set_option maxRecDepth 100000 in
set_option maxHeartbeats 2000000 in
theorem chapterRuns_any (f : Int) (A : Option Addr) (n c B : Nat) (r : Bool) (l : List Int) (w : World) (h : Rd I w B A n l) (hB : B ≤ w.heap.size) (hmi : mild f l) :
    Calls Tryd.prog 53 #[BK f A n c r] w fun e w' => ∃ g, e = .returned (.slice (some ⟨g, 0, none⟩) n n) ∧ w.heap.size ≤ g ∧ Row2 w' g (runs r (f + 1) l) ∧ Below w.heap.size w w' := by
  have HL : Hid (l.length = n) := h.1
  have HM := Lib.hid hmi
  have hf0 := hmi.1
  have hf1 := hmi.2.1
  have hn : n ≤ 1000 := by have h1 := HL.out; have := hmi.2.2.1; omega
  obtain ⟨i0, hi0, hz0, hz1, hz2⟩ := info_parts info2
  clear hmi
  have HB2 : i0.bytes * n ≤ 281474976710656 := by rw [hz2]; omega
  have HN2 : n ≤ maxLen := by unfold maxLen; omega
  go_enter Tryd.func53, Tryd.ntmps53
  go_wp2_with (at_make; refine wpList_make_full _ rfl _ _ 90 rfl (w.heap.size + 1) 57 i0 _ 2 Tryd.underlying90 hi0 hz0 hz1 .i64 .i64 _ _ n rfl rfl rfl rfl HB2 HN2 (by simp) ?_; intro w1 hown1 hg1; have hbl1 := (Blk.new (w := w) (BC f A n c r) 26 rfl).below ((Below.refl _ _).grown hg1 (Nat.le_refl _) (by simp)) (by simp); have c0 := hbl1.cell 0 (v := .int .i64 f) rfl; have c1 := hbl1.cell 1 (v := .slice A n c) rfl)
  rw [made2] at hown1
  have hr1 := row2_of_own hown1
  have hb1 : Below w.heap.size w w1 := ((Below.refl w.heap.size w).alloc (Nat.le_refl _) _).trans ((Below.refl _ _).grown hg1 (by simp) (by simp))
  clear hown1 hg1
  simp only [World.size_alloc] at hr1
  go_loopw [4, 17] (fun m i wr => ∃ k : Nat, k ≤ n ∧ i = .int .i64 k ∧ m = .int .i64 (stop r (f + 1) (l.take k) - 1) ∧ Row2 wr (w.heap.size + 1) (runs r (f + 1) (l.take k) ++ List.replicate (2 * (n - k)) 0) ∧ Below w.heap.size w wr ∧ Blk wr w.heap.size (BC f A n c r) 26) (fun _ i _ => n - (intOf i).toNat)
  case atStart => 
    exact ⟨0, Nat.zero_le _, rfl, by simp [stop], by simpa [runs] using hr1, hb1, hbl1⟩
  case round =>
    clear hr1 hb1 hbl1 c0 c1
    obtain ⟨k, hk, rfl, rfl, ho, hb, hbl⟩ := hrel
    have c0 := hbl.cell 0 (v := .int .i64 f) rfl
    have c1 := hbl.cell 1 (v := .slice A n c) rfl
    have c2 := hbl.cell 2 (v := .bool r) rfl
    have hsz := ho.lt
    have hbd := mild_take HM.out r k
    obtain ⟨m, hm⟩ : ∃ m, stop r (f + 1) (l.take k) = m := ⟨_, rfl⟩
    rw [hm] at hbd ⊢
    obtain ⟨m0, m1⟩ := hbd
    by_cases hlt : k < n
    · obtain ⟨b, o, x, rfl, hbB, hx, hc⟩ := (h.below hb hB).at_ hlt
      have hx' := HM.out.2.2.2 x (List.mem_of_getElem? hx)
      obtain ⟨x0, x1⟩ := hx'
      have HX : Hid (∀ u, up r m = u → ((runs r (f + 1) (l.take k) ++ List.replicate (2 * (n - k)) 0).set (k * 2) u).set (k * 2 + 1) (u + x - 1) = runs r (f + 1) (l.take (k + 1)) ++ List.replicate (2 * (n - (k + 1))) 0 ∧ stop r (f + 1) (l.take (k + 1)) = u + x) := by
        intro u hu
        subst hu
        refine ⟨runs_step r _ m x l k n HL.out hx hlt hm, ?_⟩
        rw [Pg.take_snoc l k x hx, stop_snoc, hm]
      have p0 := ho.free (k * 2)
      have p1 := ho.free (k * 2 + 1)
      obtain ⟨y0, hy0⟩ := runs_room r (f + 1) l k n (k * 2) HL.out hlt (by omega)
      obtain ⟨y1, hy1⟩ := runs_room r (f + 1) l k n (k * 2 + 1) HL.out hlt (by omega)
      have q0 := ho.cell hy0
      have q1 := ho.cell hy1
      clear hx hm hy0 hy1
      rcases up_cases r m with ⟨hr, hu⟩ | ⟨hr, h2, hu⟩ | ⟨hr, h2, hu⟩
      all_goals
        have HX2 := Lib.hid (HX.out _ hu)
        subst hr
        clear hu HX
        go_wp2_with fail
        go_roundw
        case rel =>
          obtain ⟨g1, g2⟩ := HX2.out
          refine ⟨k + 1, by omega, by go_num, ?_, ?_, (hb.setCell (by simp) _).setCell (by simp) _, (hbl.other _ _ (by simp)).other _ _ (by simp)⟩
          · rw [g2]
          · rw [← g1]
            exact (ho.set _ _).set _ _
        case measure => simp [intOf]; omega
    · obtain rfl : k = n := by omega
      have HT : Hid (l.take k = l) := List.take_of_length_le (Nat.le_of_eq HL.out)
      rw [HT.out] at ho
      clear hm
      go_wp2
      go_ret
      exact ⟨_, rfl, Nat.le_succ _, by simpa using ho, hb⟩
end Go.Proofs.YtoanopgafihjiaaDoor
