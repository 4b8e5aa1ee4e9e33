/- Contract of the program's emptyForm. -/
import Derived.Test.YtgplciodddfpbaaFmRd
namespace Go.Proofs.Ytgplciodddfpbaa
open Go.RowKit

/-- A form without a print, with blocks of its own. -/
def EmR (w : World) (a b : Int) (N : Nat) (e : Ending) (w' : World) : Prop :=
  ∃ g1 g2 g3, e = .returned (Fv.v ⟨a, b, some ⟨g1, 0, none⟩, N, N, some ⟨g2, 0, none⟩, N, N, some ⟨g3, 0, none⟩, N, N⟩) ∧
    OF w' w.heap.size w'.heap.size ⟨a, b, some ⟨g1, 0, none⟩, N, N, some ⟨g2, 0, none⟩, N, N, some ⟨g3, 0, none⟩, N, N⟩ (List.replicate N 0) (List.replicate N 0) (List.replicate N 0) ∧ Below w.heap.size w w'
abbrev sl0 : Value := .slice none 0 0
abbrev slN (g N : Nat) : Value := .slice (some ⟨g, 0, none⟩) N N
theorem slN_one (g N : Nat) : (slN g N).oneCell' = true := rfl
/-- The form so far: k of its lists are made. -/
structure EmI (w : World) (a b : Int) (N k : Nat) (wr : World) : Prop where
  res : Blk wr w.heap.size (Fv.cs fv0) 28
  bel : Below w.heap.size w wr
  sz : w.heap.size + 2 ≤ wr.heap.size
  ex : ∃ g1 g2 g3 m1 m2, Blk wr (w.heap.size + 1) #[.int .i64 a, .int .i64 b, if 0 < k then slN g1 N else sl0, if 1 < k then slN g2 N else sl0, if 2 < k then slN g3 N else sl0] 28 ∧
    (0 < k → w.heap.size + 2 ≤ m1 ∧ m1 ≤ wr.heap.size ∧ Own I wr (w.heap.size + 2) m1 2 (slN g1 N) (List.replicate N 0)) ∧
    (1 < k → m1 ≤ m2 ∧ m2 ≤ wr.heap.size ∧ Own I wr m1 m2 2 (slN g2 N) (List.replicate N 0)) ∧
    (2 < k → Own I wr m2 wr.heap.size 2 (slN g3 N) (List.replicate N 0))
/-- One more list is made. -/
theorem EmI.next {w wr w' : World} {a b : Int} {N k g : Nat} (h : EmI w a b N k wr) (hk : k < 3) (ho : Own I w' wr.heap.size w'.heap.size 2 (slN g N) (List.replicate N 0)) (hb : Below wr.heap.size wr w') :
    EmI w a b N (k + 1) (w'.setCell ⟨w.heap.size + 1, k + 2, none⟩ (slN g N)) := by
  obtain ⟨r, bl, sz, g1, g2, g3, m1, m2, hB, h1, h2, h3⟩ := h
  have z := hb.size
  have hB' := (hB.below hb (by omega)).set (k + 2) (slN g N)
  have r' := (r.below hb (by omega)).other ⟨w.heap.size + 1, k + 2, none⟩ (slN g N) (by show w.heap.size ≠ w.heap.size + 1; omega)
  have bl' : Below w.heap.size w (w'.setCell ⟨w.heap.size + 1, k + 2, none⟩ (slN g N)) := (bl.trans (hb.mono (by omega))).setCell (by show w.heap.size ≤ w.heap.size + 1; omega) _
  have ho' := ho.put (slN g N) (g := w.heap.size + 1) (i := k + 2) (.inl (by omega))
  obtain rfl | rfl | rfl : k = 0 ∨ k = 1 ∨ k = 2 := by omega
  · refine ⟨r', bl', by simp; omega, g, g2, g3, w'.heap.size, m2, by simpa using hB', fun _ => ⟨by omega, by simp, ho'.mono (by omega) (Nat.le_refl _)⟩, by omega, by omega⟩
  · obtain ⟨q1, q2, q3⟩ := h1 (by omega)
    refine ⟨r', bl', by simp; omega, g1, g, g3, m1, w'.heap.size, by simpa using hB', fun _ => ⟨q1, by simp; omega, (q3.below hb q2).put _ (.inl (by omega))⟩, fun _ => ⟨by omega, by simp, ho'.mono q2 (Nat.le_refl _)⟩, by omega⟩
  · obtain ⟨q1, q2, q3⟩ := h1 (by omega)
    obtain ⟨p1, p2, p3⟩ := h2 (by omega)
    refine ⟨r', bl', by simp; omega, g1, g2, g, m1, m2, by simpa using hB', fun _ => ⟨q1, by simp; omega, (q3.below hb q2).put _ (.inl (by omega))⟩, fun _ => ⟨p1, by simp; omega, (p3.below hb p2).put _ (.inl (by omega))⟩, fun _ => ho'.mono p2 (by simp)⟩
set_option maxRecDepth 100000 in
set_option maxHeartbeats 2000000 in
theorem emptyForm_any (a b : Int) (N : Nat) (w : World) (hN : a * b = (N : Int)) (h64 : N ≤ 64) :
    Calls Try.prog 47 #[.int .i64 a, .int .i64 b] w fun e w' => EmR w a b N e w' := by
  obtain ⟨i0, hi0, hz0, hz1, hz2⟩ := info_parts infoI
  have wN : IntKind.i64.wrap (N : Int) = (N : Int) := IntWalk.i64_in _ (by omega)
  have x0 : ∀ W : World, (Instr.index 107 (.agg #[.pointer (some ⟨w.heap.size + 1, 2, none⟩), .pointer (some ⟨w.heap.size + 1, 3, none⟩), .pointer (some ⟨w.heap.size + 1, 4, none⟩)]) (.int .i64 0)).run Try.prog W = .ok (.pointer (some ⟨w.heap.size + 1, 2, none⟩)) W := fun _ => by kernel_rfl
  have x1 : ∀ W : World, (Instr.index 107 (.agg #[.pointer (some ⟨w.heap.size + 1, 2, none⟩), .pointer (some ⟨w.heap.size + 1, 3, none⟩), .pointer (some ⟨w.heap.size + 1, 4, none⟩)]) (.int .i64 1)).run Try.prog W = .ok (.pointer (some ⟨w.heap.size + 1, 3, none⟩)) W := fun _ => by kernel_rfl
  have x2 : ∀ W : World, (Instr.index 107 (.agg #[.pointer (some ⟨w.heap.size + 1, 2, none⟩), .pointer (some ⟨w.heap.size + 1, 3, none⟩), .pointer (some ⟨w.heap.size + 1, 4, none⟩)]) (.int .i64 2)).run Try.prog W = .ok (.pointer (some ⟨w.heap.size + 1, 4, none⟩)) W := fun _ => by kernel_rfl
  go_enter Try.func47, Try.ntmps47
  go_wp2_with fail
  generalize hV : (w.alloc (.cells (Fv.cs fv0) 28)).alloc (.cells (Fv.cs ⟨a, b, none, 0, 0, none, 0, 0, none, 0, 0⟩) 28) = W0
  have hE0 : EmI w a b N 0 W0 := by
    rw [← hV]
    exact ⟨(Blk.new _ _ rfl).alloc _, ((Below.refl _ _).alloc (Nat.le_refl _) _).alloc (by simp) _, by simp, 0, 0, 0, 0, 0, Blk.new _ _ (by simp), by omega, by omega, by omega⟩
  clear hV
  go_loopw [7, 15] (fun _ i wr => ∃ k : Nat, k ≤ 3 ∧ i = .int .i64 k ∧ Hid (EmI w a b N k wr)) (fun _ i _ => 3 - (intOf i).toNat)
  case atStart => exact ⟨0, Nat.zero_le _, rfl, Lib.hid hE0⟩
  case round =>
    clear hE0
    obtain ⟨k, hk, rfl, HE⟩ := hrel
    obtain rfl | rfl | rfl | rfl : k = 0 ∨ k = 1 ∨ k = 2 ∨ k = 3 := by omega
    · obtain ⟨r, bl, sz, g1, g2, g3, m1, m2, hB, h1, h2, h3⟩ := HE.out
      have c0 := hB.cell 2 (v := sl0) rfl
      have f0 := hB.free 2
      clear r bl hB h1 h2 h3
      go_wp2_with (at_make; refine wp_fresh _ rfl _ _ 26 rfl 2 i0 (0 : Int) 8 Try.underlying26 hi0 hz0 hz1 hz2 rfl .i64 .i64 _ _ N rfl rfl rfl rfl (by omega) (by omega) ?_; intro gr w2 ho2 hb2; have c1 := (hb2.cell (p := ⟨w.heap.size + 1, 2, none⟩) (by show w.heap.size + 1 < _; omega)).trans c0; have f1 : w2.frozen? ⟨w.heap.size + 1, 2, none⟩ = false := ((HE.out.ex).elim fun g1 h => h.elim fun g2 h => h.elim fun g3 h => h.elim fun m1 h => h.elim fun m2 h => (h.1.below hb2 (by omega)).free 2); have HN := Lib.hid (HE.out.next (by omega) ho2 hb2); clear c0 f0)
      go_roundw
      case rel => exact ⟨1, by omega, by go_num, HN⟩
      case measure => simp [intOf]
    · obtain ⟨r, bl, sz, g1, g2, g3, m1, m2, hB, h1, h2, h3⟩ := HE.out
      have c0 := hB.cell 3 (v := sl0) rfl
      have f0 := hB.free 3
      clear r bl hB h1 h2 h3
      go_wp2_with (at_make; refine wp_fresh _ rfl _ _ 26 rfl 2 i0 (0 : Int) 8 Try.underlying26 hi0 hz0 hz1 hz2 rfl .i64 .i64 _ _ N rfl rfl rfl rfl (by omega) (by omega) ?_; intro gr w2 ho2 hb2; have c1 := (hb2.cell (p := ⟨w.heap.size + 1, 3, none⟩) (by show w.heap.size + 1 < _; omega)).trans c0; have f1 : w2.frozen? ⟨w.heap.size + 1, 3, none⟩ = false := ((HE.out.ex).elim fun g1 h => h.elim fun g2 h => h.elim fun g3 h => h.elim fun m1 h => h.elim fun m2 h => (h.1.below hb2 (by omega)).free 3); have HN := Lib.hid (HE.out.next (by omega) ho2 hb2); clear c0 f0)
      go_roundw
      case rel => exact ⟨2, by omega, by go_num, HN⟩
      case measure => simp [intOf]
    · obtain ⟨r, bl, sz, g1, g2, g3, m1, m2, hB, h1, h2, h3⟩ := HE.out
      have c0 := hB.cell 4 (v := sl0) rfl
      have f0 := hB.free 4
      clear r bl hB h1 h2 h3
      go_wp2_with (at_make; refine wp_fresh _ rfl _ _ 26 rfl 2 i0 (0 : Int) 8 Try.underlying26 hi0 hz0 hz1 hz2 rfl .i64 .i64 _ _ N rfl rfl rfl rfl (by omega) (by omega) ?_; intro gr w2 ho2 hb2; have c1 := (hb2.cell (p := ⟨w.heap.size + 1, 4, none⟩) (by show w.heap.size + 1 < _; omega)).trans c0; have f1 : w2.frozen? ⟨w.heap.size + 1, 4, none⟩ = false := ((HE.out.ex).elim fun g1 h => h.elim fun g2 h => h.elim fun g3 h => h.elim fun m1 h => h.elim fun m2 h => (h.1.below hb2 (by omega)).free 4); have HN := Lib.hid (HE.out.next (by omega) ho2 hb2); clear c0 f0)
      go_roundw
      case rel => exact ⟨3, by omega, by go_num, HN⟩
      case measure => simp [intOf]
    · obtain ⟨r, bl, sz, g1, g2, g3, m1, m2, hB, h1, h2, h3⟩ := HE.out
      obtain ⟨q1, q2, q3⟩ := h1 (by omega)
      obtain ⟨p1, p2, p3⟩ := h2 (by omega)
      have o3 := h3 (by omega)
      have d0 := hB.cell 0 (v := .int .i64 a) rfl
      have d1 := hB.cell 1 (v := .int .i64 b) rfl
      have d2 := hB.cell 2 (v := slN g1 N) rfl
      have d3 := hB.cell 3 (v := slN g2 N) rfl
      have d4 := hB.cell 4 (v := slN g3 N) rfl
      have u0 := r.cell 0 (v := .int .i64 0) rfl
      have u1 := r.cell 1 (v := .int .i64 0) rfl
      have u2 := r.cell 2 (v := .slice none 0 0) rfl
      have u3 := r.cell 3 (v := .slice none 0 0) rfl
      have u4 := r.cell 4 (v := .slice none 0 0) rfl
      have t0 := r.free 0
      have t1 := r.free 1
      have t2 := r.free 2
      have t3 := r.free 3
      have t4 := r.free 4
      have s4 := (((((r.set 0 (.int .i64 a)).set 1 (.int .i64 b)).set 2 (slN g1 N)).set 3 (slN g2 N)).set 4 (slN g3 N))
      have HS4 := Lib.hid s4
      have HBL := Lib.hid bl
      have HO1 := Lib.hid q3
      have HO2 := Lib.hid p3
      have HO3 := Lib.hid o3
      clear r bl hB h1 h2 h3 q3 p3 o3 s4
      go_wp2_with fail
      have e0 := HS4.out.cell 0 (v := .int .i64 a) rfl
      have e1 := HS4.out.cell 1 (v := .int .i64 b) rfl
      have e2 := HS4.out.cell 2 (v := slN g1 N) rfl
      have e3 := HS4.out.cell 3 (v := slN g2 N) rfl
      have e4 := HS4.out.cell 4 (v := slN g3 N) rfl
      have HS : ∀ {v : Value} {l : List Int} {lo hi : Nat}, Own I wr lo hi 2 v l → w.heap.size < lo → Own I (((((wr.setCell ⟨w.heap.size, 0, none⟩ (.int .i64 a)).setCell ⟨w.heap.size, 1, none⟩ (.int .i64 b)).setCell ⟨w.heap.size, 2, none⟩ (slN g1 N)).setCell ⟨w.heap.size, 3, none⟩ (slN g2 N)).setCell ⟨w.heap.size, 4, none⟩ (slN g3 N)) lo hi 2 v l := fun ho hlt =>
        ((((ho.put _ (.inl (by omega))).put _ (.inl (by omega))).put _ (.inl (by omega))).put _ (.inl (by omega))).put _ (.inl (by omega))
      refine bodyPost_ret (v := Fv.v ⟨a, b, some ⟨g1, 0, none⟩, N, N, some ⟨g2, 0, none⟩, N, N, some ⟨g3, 0, none⟩, N, N⟩) (by simp [results, Try.results47, go_sem, e0, e1, e2, e3, e4]) rfl ⟨g1, g2, g3, rfl, ⟨⟨m1, m2, by omega, by omega, by simp; omega, ?_, ?_, ?_⟩⟩, ?_⟩
      · exact (HS HO1.out (by omega)).mono (by omega) (Nat.le_refl _)
      · exact HS HO2.out (by omega)
      · exact (HS HO3.out (by omega)).mono (Nat.le_refl _) (by simp)
      · exact ((((HBL.out.setCell (Nat.le_refl _) _).setCell (Nat.le_refl _) _).setCell (Nat.le_refl _) _).setCell (Nat.le_refl _) _).setCell (Nat.le_refl _) _
end Go.Proofs.Ytgplciodddfpbaa
