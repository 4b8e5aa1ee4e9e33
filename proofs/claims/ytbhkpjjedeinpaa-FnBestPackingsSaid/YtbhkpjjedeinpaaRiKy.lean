/- Contracts of slices.Sort over an array of twelve numbers, and of the program's key of spares. -/
import Derived.Test.YtbhkpjjedeinpaaRiKs
import Derived.Laws.CopyOwn
namespace Go.Proofs.Ytbhkpjjedeinpaa
open Go.RowKit
set_option linter.unusedVariables false

set_option maxRecDepth 100000 in
theorem len64_any (w : World) :
    Calls Try.prog 95 #[.int .u64 12] w fun e w' => e = .returned (.int .i64 4) ∧ w = w' := by
  go_enter Try.func95, Try.ntmps95
  go_wp2_with fail
  go_ret
  exact ⟨ret_i (by kernel_rfl), rfl⟩
set_option maxRecDepth 100000 in
theorem len_any (w : World) :
    Calls Try.prog 83 #[.int .u64 12] w fun e w' => e = .returned (.int .i64 4) ∧ w = w' := by
  have hl := fun W => len64_any W
  go_enter Try.func83, Try.ntmps83
  go_wp2_with fail
  refine (hl _).mono ?_
  rintro e _ ⟨rfl, rfl⟩
  go_wp2_with fail
  go_ret
  exact ⟨rfl, rfl⟩
set_option maxRecDepth 100000 in
theorem pdq_any (g : Nat) (l : List Int) (w : World) (h : Ar w g l) :
    Calls Try.prog 82 #[.slice (some ⟨g, 0, none⟩) 12 12, .int .i64 0, .int .i64 12, .int .i64 4] w fun e w' => e = .returned (.tuple #[]) ∧ ∃ l', Ar w' g l' ∧ l'.Perm l ∧ Only g (g + 1) w w' := by
  have hi := insOrd_any g l w h
  go_enter Try.func82, Try.ntmps82
  go_wp2_with fail
  refine wp_loop_rounds 1 ?_
  rw [rounds_succ]
  go_wp2_with fail
  refine hi.mono ?_
  rintro e w1 ⟨rfl, h1⟩
  go_wp2_with fail
  refine bodyPost_ret (results_none rfl _ _ _) rfl ?_
  exact ⟨rfl, h1⟩
set_option maxRecDepth 100000 in
theorem sort_any (g : Nat) (l : List Int) (w : World) (h : Ar w g l) :
    Calls Try.prog 78 #[.slice (some ⟨g, 0, none⟩) 12 12] w fun e w' => e = .returned (.tuple #[]) ∧ ∃ l', Ar w' g l' ∧ l'.Perm l ∧ Only g (g + 1) w w' := by
  have hi := pdq_any g l w h
  have hl := fun W => len_any W
  go_enter Try.func78, Try.ntmps78
  go_wp2_with fail
  refine (hl _).mono ?_
  rintro e _ ⟨rfl, rfl⟩
  go_wp2_with fail
  refine hi.mono ?_
  rintro e w1 ⟨rfl, h1⟩
  go_wp2_with fail
  go_end0
  exact ⟨rfl, h1⟩
theorem sizeIr : (Try.prog.info? 2).map (·.size) = some 1 := by kernel_rfl
theorem wp_copyAr {w : World} {ops : Array Oper} {rest : List Oper} {o : Oper} {a : Act} {Q : Exit → Act → World → Prop} (hgd : o.guard = none) (d s : Operand) (t : TypeId)
    (ho : o.op = .call { callee := .builtin .copy, args := #[d, s], argTypes := #[t, t] }) (hu : Try.prog.underlying t = some (.slice 2))
    (g n B : Nat) (A : Option Addr) (c : Nat) (L : List Int) (hd : a.eval d = .slice (some ⟨g, 0, none⟩) 12 12) (hs : a.eval s = .slice A n c)
    (ha : Ar w g (List.replicate 12 0)) (hr : Rd I w B A n L) (hn : n ≤ 12)
    (h : ∀ w', Ar w' g (L ++ List.replicate (12 - n) 0) → Only g (g + 1) w w' → wpList Try.prog ops Q rest (a.put o.dst (.int .i64 (n : Int))) w') : wpList Try.prog ops Q (o :: rest) a w := by
  have hL : L.length = n := hr.1
  rcases Nat.eq_zero_or_pos n with h0 | hp
  · subst h0
    obtain rfl := List.eq_nil_of_length_eq_zero hL
    refine wpList_copy_nothing hgd d s t t ho 2 hu sizeIr _ A 12 12 0 c hd hs (by simp) ?_
    exact h w ha (Only.refl _ _ _)
  · obtain ⟨b, off, rfl, hb, hc⟩ := hr.2 hp
    refine wpList_copy_own hgd d s t t ho 2 hu sizeIr g 0 12 12 ⟨b, off, none⟩ n c hd hs _ 74 ha.2 (L.map I) (by rw [List.length_map, hL]; exact (Nat.min_eq_left hn).symm) (fun j v hj => ?_) (by simp [hL]; omega) (fun v hv => by obtain ⟨x, _, rfl⟩ := List.mem_map.1 hv; rfl) ?_
    · rw [List.getElem?_map] at hj
      obtain ⟨x, hx, rfl⟩ := Option.map_eq_some_iff.1 hj
      rw [addr_plain]
      exact hc j x hx
    · have hrow : ((((List.replicate 12 (0 : Int)).map I).toArray).toList.take 0 ++ (L.map I ++ (((List.replicate 12 (0 : Int)).map I).toArray).toList.drop (0 + (L.map I).length))).toArray = ((L ++ List.replicate (12 - n) 0).map I).toArray := by
        rw [List.take_zero, List.nil_append, List.length_map, hL, Nat.zero_add, List.map_append, List.map_replicate, List.map_replicate, List.drop_replicate]
      rw [hrow, List.length_map, hL]
      exact h _ ⟨by simp [hL]; omega, setRow_heap w g _ _ _ _ ha.2⟩ ⟨rfl, rfl, rfl, by simp [World.setRow], fun k _ hk => setRow_other w g k _ (by omega)⟩
theorem ArB.new {w : World} {g : Nat} (hg : g = w.heap.size) : Ar (w.alloc (.cells #[.int .i64 0, .int .i64 0, .int .i64 0, .int .i64 0, .int .i64 0, .int .i64 0, .int .i64 0, .int .i64 0, .int .i64 0, .int .i64 0, .int .i64 0, .int .i64 0] 74)) g (List.replicate 12 0) := ⟨rfl, Blk.new _ _ hg⟩
set_option maxRecDepth 100000 in
set_option maxHeartbeats 4000000 in
theorem key_any (A : Option Addr) (n c B : Nat) (L : List Int) (w : World) (h : Rd I w B A n L) (hB : B ≤ w.heap.size) (hn : n ≤ 12) :
    Calls Try.prog 74 #[.slice A n c] w fun e w' => ∃ l' : List Int, e = .returned (.agg (l'.map I).toArray) ∧ l'.length = 12 ∧ l'.Perm (L ++ List.replicate (12 - n) 0) ∧ Below w.heap.size w w' := by
  have hA2 := ArB.new (w := w.alloc (.cells #[.int .i64 0, .int .i64 0, .int .i64 0, .int .i64 0, .int .i64 0, .int .i64 0, .int .i64 0, .int .i64 0, .int .i64 0, .int .i64 0, .int .i64 0, .int .i64 0] 74)) (g := w.heap.size + 1) (by simp)
  have hA1 := (ArB.new (w := w) (g := w.heap.size) rfl).2.alloc (.cells #[.int .i64 0, .int .i64 0, .int .i64 0, .int .i64 0, .int .i64 0, .int .i64 0, .int .i64 0, .int .i64 0, .int .i64 0, .int .i64 0, .int .i64 0, .int .i64 0] 74)
  have hr2 := (h.alloc hB (.cells #[.int .i64 0, .int .i64 0, .int .i64 0, .int .i64 0, .int .i64 0, .int .i64 0, .int .i64 0, .int .i64 0, .int .i64 0, .int .i64 0, .int .i64 0, .int .i64 0] 74)).alloc (by simp; omega) (.cells #[.int .i64 0, .int .i64 0, .int .i64 0, .int .i64 0, .int .i64 0, .int .i64 0, .int .i64 0, .int .i64 0, .int .i64 0, .int .i64 0, .int .i64 0, .int .i64 0] 74)
  have hb2 := ((below_newR w (.cells #[.int .i64 0, .int .i64 0, .int .i64 0, .int .i64 0, .int .i64 0, .int .i64 0, .int .i64 0, .int .i64 0, .int .i64 0, .int .i64 0, .int .i64 0, .int .i64 0] 74)).alloc (by simp) (.cells #[.int .i64 0, .int .i64 0, .int .i64 0, .int .i64 0, .int .i64 0, .int .i64 0, .int .i64 0, .int .i64 0, .int .i64 0, .int .i64 0, .int .i64 0, .int .i64 0] 74))
  go_enter Try.func74, Try.ntmps74
  go_wp2_with (with_reducible refine wp_copyAr rfl (.tmp 4) (.tmp 5) 24 rfl Try.underlying24 (w.heap.size + 1) n B A c L rfl rfl hA2 hr2 hn ?_; intro w3 ha3 hm3)
  have hb3 := hb2.trans (hm3.below (by omega) (by simp; omega))
  have hA3 : Blk w3 w.heap.size _ _ := Blk.only hA1 hm3 (.inl (by omega))
  clear hA1 hA2 hr2 hm3 hb2
  refine (sort_any _ _ _ ha3).mono ?_
  rintro e w4 ⟨rfl, l', ha4, hp4, hm4⟩
  have hb4 := hb3.trans (hm4.below (by omega) hb3.size)
  have hA4 : Blk w4 w.heap.size _ _ := Blk.only hA3 hm4 (.inl (by omega))
  have hlen := ha4.1
  obtain ⟨x0, x1, x2, x3, x4, x5, x6, x7, x8, x9, x10, x11, rfl⟩ : ∃ x0 x1 x2 x3 x4 x5 x6 x7 x8 x9 x10 x11, l' = [x0, x1, x2, x3, x4, x5, x6, x7, x8, x9, x10, x11] := by
    match l', hlen with
    | [x0, x1, x2, x3, x4, x5, x6, x7, x8, x9, x10, x11], _ => exact ⟨x0, x1, x2, x3, x4, x5, x6, x7, x8, x9, x10, x11, rfl⟩
  have HP := Lib.hid hp4
  have HB := Lib.hid hb4
  have c0 := ha4.2.cell 0 (v := .int .i64 x0) rfl
  have c1 := ha4.2.cell 1 (v := .int .i64 x1) rfl
  have c2 := ha4.2.cell 2 (v := .int .i64 x2) rfl
  have c3 := ha4.2.cell 3 (v := .int .i64 x3) rfl
  have c4 := ha4.2.cell 4 (v := .int .i64 x4) rfl
  have c5 := ha4.2.cell 5 (v := .int .i64 x5) rfl
  have c6 := ha4.2.cell 6 (v := .int .i64 x6) rfl
  have c7 := ha4.2.cell 7 (v := .int .i64 x7) rfl
  have c8 := ha4.2.cell 8 (v := .int .i64 x8) rfl
  have c9 := ha4.2.cell 9 (v := .int .i64 x9) rfl
  have c10 := ha4.2.cell 10 (v := .int .i64 x10) rfl
  have c11 := ha4.2.cell 11 (v := .int .i64 x11) rfl
  have f0 := hA4.free 0
  have f1 := hA4.free 1
  have f2 := hA4.free 2
  have f3 := hA4.free 3
  have f4 := hA4.free 4
  have f5 := hA4.free 5
  have f6 := hA4.free 6
  have f7 := hA4.free 7
  have f8 := hA4.free 8
  have f9 := hA4.free 9
  have f10 := hA4.free 10
  have f11 := hA4.free 11
  have d0 := hA4.cell 0 (v := .int .i64 0) rfl
  have d1 := hA4.cell 1 (v := .int .i64 0) rfl
  have d2 := hA4.cell 2 (v := .int .i64 0) rfl
  have d3 := hA4.cell 3 (v := .int .i64 0) rfl
  have d4 := hA4.cell 4 (v := .int .i64 0) rfl
  have d5 := hA4.cell 5 (v := .int .i64 0) rfl
  have d6 := hA4.cell 6 (v := .int .i64 0) rfl
  have d7 := hA4.cell 7 (v := .int .i64 0) rfl
  have d8 := hA4.cell 8 (v := .int .i64 0) rfl
  have d9 := hA4.cell 9 (v := .int .i64 0) rfl
  have d10 := hA4.cell 10 (v := .int .i64 0) rfl
  have d11 := hA4.cell 11 (v := .int .i64 0) rfl
  have hlt4 := hA4.lt
  clear ha3 hb3 hA3 hp4 hm4 hb4 hlen
  go_wp2_with fail
  have HA5 : Ar w4 w.heap.size (List.replicate 12 0) := ⟨rfl, hA4⟩
  have hA6 := ((((((((((((HA5.set_ 0 x0).set_ 1 x1).set_ 2 x2).set_ 3 x3).set_ 4 x4).set_ 5 x5).set_ 6 x6).set_ 7 x7).set_ 8 x8).set_ 9 x9).set_ 10 x10).set_ 11 x11)
  have hB6 : Below w.heap.size w ((((((((((((w4.setCell ⟨w.heap.size, 0, none⟩ (.int .i64 x0)).setCell ⟨w.heap.size, 1, none⟩ (.int .i64 x1)).setCell ⟨w.heap.size, 2, none⟩ (.int .i64 x2)).setCell ⟨w.heap.size, 3, none⟩ (.int .i64 x3)).setCell ⟨w.heap.size, 4, none⟩ (.int .i64 x4)).setCell ⟨w.heap.size, 5, none⟩ (.int .i64 x5)).setCell ⟨w.heap.size, 6, none⟩ (.int .i64 x6)).setCell ⟨w.heap.size, 7, none⟩ (.int .i64 x7)).setCell ⟨w.heap.size, 8, none⟩ (.int .i64 x8)).setCell ⟨w.heap.size, 9, none⟩ (.int .i64 x9)).setCell ⟨w.heap.size, 10, none⟩ (.int .i64 x10)).setCell ⟨w.heap.size, 11, none⟩ (.int .i64 x11)) := ((((((((((((HB.out.setCell (p := ⟨w.heap.size, 0, none⟩) (Nat.le_refl _) (.int .i64 x0)).setCell (p := ⟨w.heap.size, 1, none⟩) (Nat.le_refl _) (.int .i64 x1)).setCell (p := ⟨w.heap.size, 2, none⟩) (Nat.le_refl _) (.int .i64 x2)).setCell (p := ⟨w.heap.size, 3, none⟩) (Nat.le_refl _) (.int .i64 x3)).setCell (p := ⟨w.heap.size, 4, none⟩) (Nat.le_refl _) (.int .i64 x4)).setCell (p := ⟨w.heap.size, 5, none⟩) (Nat.le_refl _) (.int .i64 x5)).setCell (p := ⟨w.heap.size, 6, none⟩) (Nat.le_refl _) (.int .i64 x6)).setCell (p := ⟨w.heap.size, 7, none⟩) (Nat.le_refl _) (.int .i64 x7)).setCell (p := ⟨w.heap.size, 8, none⟩) (Nat.le_refl _) (.int .i64 x8)).setCell (p := ⟨w.heap.size, 9, none⟩) (Nat.le_refl _) (.int .i64 x9)).setCell (p := ⟨w.heap.size, 10, none⟩) (Nat.le_refl _) (.int .i64 x10)).setCell (p := ⟨w.heap.size, 11, none⟩) (Nat.le_refl _) (.int .i64 x11))
  simp only [List.set_cons_zero, List.set_cons_succ, List.replicate] at hA6
  clear c0 f0 d0 c1 f1 d1 c2 f2 d2 c3 f3 d3 c4 f4 d4 c5 f5 d5 c6 f6 d6 c7 f7 d7 c8 f8 d8 c9 f9 d9 c10 f10 d10 c11 f11 d11 HA5 ha4
  generalize ((((((((((((w4.setCell ⟨w.heap.size, 0, none⟩ (.int .i64 x0)).setCell ⟨w.heap.size, 1, none⟩ (.int .i64 x1)).setCell ⟨w.heap.size, 2, none⟩ (.int .i64 x2)).setCell ⟨w.heap.size, 3, none⟩ (.int .i64 x3)).setCell ⟨w.heap.size, 4, none⟩ (.int .i64 x4)).setCell ⟨w.heap.size, 5, none⟩ (.int .i64 x5)).setCell ⟨w.heap.size, 6, none⟩ (.int .i64 x6)).setCell ⟨w.heap.size, 7, none⟩ (.int .i64 x7)).setCell ⟨w.heap.size, 8, none⟩ (.int .i64 x8)).setCell ⟨w.heap.size, 9, none⟩ (.int .i64 x9)).setCell ⟨w.heap.size, 10, none⟩ (.int .i64 x10)).setCell ⟨w.heap.size, 11, none⟩ (.int .i64 x11)) = W5 at hA6 hB6 ⊢
  have c0 := hA6.2.cell 0 (v := .int .i64 x0) rfl
  have c1 := hA6.2.cell 1 (v := .int .i64 x1) rfl
  have c2 := hA6.2.cell 2 (v := .int .i64 x2) rfl
  have c3 := hA6.2.cell 3 (v := .int .i64 x3) rfl
  have c4 := hA6.2.cell 4 (v := .int .i64 x4) rfl
  have c5 := hA6.2.cell 5 (v := .int .i64 x5) rfl
  have c6 := hA6.2.cell 6 (v := .int .i64 x6) rfl
  have c7 := hA6.2.cell 7 (v := .int .i64 x7) rfl
  have c8 := hA6.2.cell 8 (v := .int .i64 x8) rfl
  have c9 := hA6.2.cell 9 (v := .int .i64 x9) rfl
  have c10 := hA6.2.cell 10 (v := .int .i64 x10) rfl
  have c11 := hA6.2.cell 11 (v := .int .i64 x11) rfl
  have HEND := Lib.hid (And.intro HP.out hB6)
  clear hB6 hA6
  refine bodyPost_ret (v := .agg #[.int .i64 x0, .int .i64 x1, .int .i64 x2, .int .i64 x3, .int .i64 x4, .int .i64 x5, .int .i64 x6, .int .i64 x7, .int .i64 x8, .int .i64 x9, .int .i64 x10, .int .i64 x11]) (by simp [results, Try.results74, go_sem, c0, c1, c2, c3, c4, c5, c6, c7, c8, c9, c10, c11]) rfl ⟨[x0, x1, x2, x3, x4, x5, x6, x7, x8, x9, x10, x11], rfl, rfl, HEND.out.1, HEND.out.2⟩
end Go.Proofs.Ytbhkpjjedeinpaa
