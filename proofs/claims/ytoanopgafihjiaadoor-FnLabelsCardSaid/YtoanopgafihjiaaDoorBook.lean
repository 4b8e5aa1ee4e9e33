/- Contracts of the helpers of the exact laws at a book: a copy of a book, its size, two equal books, marks in its list; whether a book is valid, the model's and the program's. -/
import Derived.Test.YtoanopgafihjiaaDoorIn
import Derived.Test.YtoanopgafihjiaaDoorPgMath
namespace Go.Proofs.YtoanopgafihjiaaDoor
open Go.RowKit

/-- A book as a value. -/
abbrev BK (f : Int) (A : Option Addr) (n c : Nat) (r : Bool) : Value := .agg #[.int .i64 f, .slice A n c, .bool r]

theorem szInt64S_any (A : Option Addr) (n c : Nat) (q : Int) (w : World) (hq : 0 ≤ q ∧ q ≤ 1048576) (hn : n ≤ 9223372036854775807) :
    Calls Tryd.prog 48 #[.slice A n c, .int .i64 q] w fun e w' => e = .returned (.int .i64 (if (n : Int) ≤ q then q - n else -1)) ∧ w = w' := by
  by_cases h : (n : Int) ≤ q
  · have HI : Hid ((if (n : Int) ≤ q then q - n else -1) = q - n) := if_pos h
    rw [HI.out]
    go_enter Tryd.func48, Tryd.ntmps48
    go_wp2
    go_ret
    exact ⟨rfl, rfl⟩
  · have HI : Hid ((if (n : Int) ≤ q then q - n else -1) = -1) := if_neg h
    rw [HI.out]
    have h' : q < n := by omega
    clear h
    go_enter Tryd.func48, Tryd.ntmps48
    go_wp2
    go_ret
    exact ⟨rfl, rfl⟩

theorem szBook_any (f : Int) (A : Option Addr) (n c : Nat) (r : Bool) (w : World) (hn : n ≤ 9223372036854775807) (q : Int) (hq : (if (n : Int) ≤ 1048576 then 1048576 - (n : Int) else -1) = q) :
    Calls Tryd.prog 25 #[BK f A n c r, .int .i64 1048576] w fun e w' => e = .returned (.int .i64 q) ∧ Below w.heap.size w w' := by
  have hq2 : -1 ≤ q ∧ q ≤ 1048576 := by subst hq; split <;> omega
  have HQ := Lib.hid hq
  clear hq
  by_cases h0 : q < 0
  · have h1 : q = -1 := by omega
    subst h1
    go_enter Tryd.func25, Tryd.ntmps25
    go_wp2_with fail
    refine (szInt64S_any _ _ _ _ _ (by omega) hn).mono ?_
    rintro e _ ⟨rfl, rfl⟩
    rw [HQ.out]
    go_wp2_with fail
    go_ret
    exact ⟨rfl, (Below.refl _ _).alloc (Nat.le_refl _) _⟩
  · have h1 : 0 ≤ q := by omega
    go_enter Tryd.func25, Tryd.ntmps25
    go_wp2_with fail
    refine (szInt64S_any _ _ _ _ _ (by omega) hn).mono ?_
    rintro e _ ⟨rfl, rfl⟩
    rw [HQ.out]
    go_wp2_with fail
    go_ret
    exact ⟨rfl, (Below.refl _ _).alloc (Nat.le_refl _) _⟩

set_option maxHeartbeats 1000000 in
theorem toBook_any (f : Int) (A : Option Addr) (n c B : Nat) (r : Bool) (l : List Int) (w : World) (h : Rd I w B A n l) (hB : B ≤ w.heap.size) (hn : n ≤ 1048576) :
    Calls Tryd.prog 26 #[BK f A n c r] w fun e w' => ∃ g, e = .returned (BK f (some ⟨g, 0, none⟩) n n r) ∧ Own I w' w.heap.size w'.heap.size 2 (.slice (some ⟨g, 0, none⟩) n n) l ∧ Below w.heap.size w w' := by
  go_enter Tryd.func26, Tryd.ntmps26
  go_wp2_with fail
  refine (toInt64S_any A n c B l _ ((h.alloc hB _).alloc (by simp; omega) _ |>.alloc (by simp; omega) _) (by simp; omega) hn).mono ?_
  rintro e w1 ⟨g, rfl, ho, hb⟩
  have b2 := (Blk.new (w := (w.alloc (Obj.cells #[Value.int IntKind.i64 f, Value.slice A n c, Value.bool r] 42)).alloc (Obj.cells #[Value.int IntKind.i64 0, Value.slice none 0 0, Value.bool false] 26)) (g := w.heap.size + 1 + 1) #[.int .i64 f, .slice none 0 0, .bool false] 26 (by simp)).below hb (by simp)
  have b1 := ((Blk.new (w := w.alloc (Obj.cells #[Value.int IntKind.i64 f, Value.slice A n c, Value.bool r] 42)) (g := w.heap.size + 1) #[.int .i64 0, .slice none 0 0, .bool false] 26 (by simp)).alloc (Obj.cells #[.int .i64 f, .slice none 0 0, .bool false] 26)).below hb (by simp)
  have b0 := (((Blk.new (w := w) (g := w.heap.size) #[.int .i64 f, .slice A n c, .bool r] 42 rfl).alloc (Obj.cells #[.int .i64 0, .slice none 0 0, .bool false] 26)).alloc (Obj.cells #[.int .i64 f, .slice none 0 0, .bool false] 26)).below hb (by simp; omega)
  have c20 := b2.cell 0 rfl
  have c21 := b2.cell 1 rfl
  have c22 := b2.cell 2 rfl
  have p21 := b2.free 1
  have p22 := b2.free 2
  have c10 := b1.cell 0 rfl
  have c11 := b1.cell 1 rfl
  have c12 := b1.cell 2 rfl
  have p10 := b1.free 0
  have p11 := b1.free 1
  have p12 := b1.free 2
  have c02 := b0.cell 2 rfl
  have hz := hb.size
  simp only [World.size_alloc] at hz
  go_wp2_with fail
  have s0 := ((b1.other ⟨w.heap.size + 1 + 1, 1, none⟩ (.slice (some ⟨g, 0, none⟩) n n) (by simp)).other ⟨w.heap.size + 1 + 1, 2, none⟩ (.bool r) (by simp)).set 0 (.int .i64 f)
  have s1 := s0.set 1 (.slice (some ⟨g, 0, none⟩) n n)
  have d0 := s0.cell 0 (v := .int .i64 f) rfl
  have d1 := s1.cell 1 (v := .slice (some ⟨g, 0, none⟩) n n) rfl
  have d2 := (s1.set 2 (.bool r)).cell 2 (v := .bool r) rfl
  refine bodyPost_ret (v := BK f (some ⟨g, 0, none⟩) n n r) (by simp [results, Tryd.results26, go_sem, d0, d1, d2]) rfl ⟨g, rfl, ?_, ?_⟩
  · have hO := only_set (only_set (only_set (only_set (only_set (Only.refl w.heap.size (w.heap.size + 1 + 1 + 1) w1) (i := 1) (.slice (some ⟨g, 0, none⟩) n n) (g := w.heap.size + 1 + 1) (by omega) (by omega)) (i := 2) (.bool r) (g := w.heap.size + 1 + 1) (by omega) (by omega)) (i := 0) (.int .i64 f) (g := w.heap.size + 1) (by omega) (by omega)) (i := 1) (.slice (some ⟨g, 0, none⟩) n n) (g := w.heap.size + 1) (by omega) (by omega)) (i := 2) (.bool r) (g := w.heap.size + 1) (by omega) (by omega)
    exact (ho.only hO (.inr (by simp))).mono (by simp; omega) (by simp)
  · exact (((((((((Below.refl w.heap.size w).alloc (Nat.le_refl _) _).alloc (by simp) _).alloc (by simp; omega) _).trans (hb.mono (by simp; omega))).setCell (by simp; omega) _).setCell (by simp; omega) _).setCell (by simp) _).setCell (by simp) _).setCell (by simp) _

set_option maxHeartbeats 1000000 in
theorem eqBook_true (f : Int) (A A' : Option Addr) (n c c' B B' : Nat) (r : Bool) (l : List Int) (w : World) (h : Rd I w B A n l) (h' : Rd I w B' A' n l) (hB : B ≤ w.heap.size) (hB' : B' ≤ w.heap.size) (hn : n ≤ 1048576) :
    Calls Tryd.prog 27 #[BK f A n c r, BK f A' n c' r] w fun e w' => e = .returned (.bool true) ∧ Below w.heap.size w w' := by
  go_enter Tryd.func27, Tryd.ntmps27
  go_wp2_with fail
  refine (eqInt64S_true _ _ _ _ _ _ _ _ _ ((h.alloc hB _).alloc (by simp; omega) _) ((h'.alloc hB' _).alloc (by simp; omega) _) hn).mono ?_
  rintro e w1 ⟨rfl, m, rfl⟩
  go_wp2_with fail
  go_ret
  exact ⟨rfl, below_drewN' (((Below.refl w.heap.size w).alloc (Nat.le_refl _) _).alloc (by simp) _) _⟩

/-- A book is valid. -/
def okP (f : Int) (l : List Int) : Prop := (0 ≤ f ∧ f ≤ 40) ∧ (1 ≤ l.length ∧ l.length ≤ 20) ∧ ∀ c ∈ l, 1 ≤ c ∧ c ≤ 200
instance (f : Int) (l : List Int) : Decidable (okP f l) := by unfold okP; infer_instance
def okB (f : Int) (l : List Int) : Bool := decide (okP f l)
theorem okB_yes {f : Int} {l : List Int} (h : okP f l) : okB f l = true := decide_eq_true h
theorem okB_no {f : Int} {l : List Int} (h : ¬ okP f l) : okB f l = false := decide_eq_false h

set_option maxHeartbeats 1000000 in
theorem implIsBook_any (f : Int) (A : Option Addr) (n c B : Nat) (r : Bool) (l : List Int) (w : World) (h : Rd I w B A n l) (hB : B ≤ w.heap.size) (hn : n ≤ 1048576) (hf : -9223372036854775808 ≤ f ∧ f ≤ 9223372036854775807) :
    Calls Tryd.prog 38 #[BK f A n c r] w fun e w' => e = .returned (.bool (okB f l)) ∧ Below w.heap.size w w' := by
  have HL : Hid (l.length = n) := h.1
  by_cases hg : (0 ≤ f ∧ f ≤ 40) ∧ (1 ≤ n ∧ n ≤ 20)
  · obtain ⟨⟨f0, f1⟩, n0, n1⟩ := hg
    go_enter Tryd.func38, Tryd.ntmps38
    go_wp2_with fail
    go_loop [28] (fun i => ∃ k : Nat, k ≤ n ∧ i = .int .i64 k ∧ ∀ c ∈ l.take k, 1 ≤ c ∧ c ≤ 200) (fun i => n - (intOf i).toNat)
    case atStart => exact ⟨0, Nat.zero_le _, rfl, by simp⟩
    case round =>
      obtain ⟨k, hk, rfl, hall⟩ := hrel
      have HA := Lib.hid hall
      clear hall
      by_cases hlt : k < n
      · obtain ⟨b, o, x, rfl, hbB, hx, hc⟩ := (h.alloc hB (Obj.cells #[.int .i64 f, .slice A n c, .bool r] 26)).at_ hlt
        have HX := Lib.hid hx
        clear hx
        by_cases hok : 1 ≤ x ∧ x ≤ 200
        · obtain ⟨x0, x1⟩ := hok
          go_wp2_with fail
          go_round
          case rel => 
            refine ⟨k + 1, by omega, by go_num, ?_⟩
            rw [take_next l k x HX.out]
            intro y hy
            rcases List.mem_append.1 hy with hy | hy
            · exact HA.out y hy
            · simp at hy; subst hy; exact ⟨x0, x1⟩
          case measure => simp [intOf]; omega
        · have HN : Hid (okB f l = false) := okB_no (fun hp => hok (hp.2.2 x (List.mem_of_getElem? HX.out)))
          by_cases h1 : x < 1
          all_goals
            go_wp2_with fail
            go_ret
            exact ⟨ret_b HN.out.symm, (Below.refl _ _).alloc (Nat.le_refl _) _⟩
      · obtain rfl : k = n := by omega
        have HN : Hid (okB f l = true) := okB_yes ⟨⟨f0, f1⟩, by rw [HL.out]; exact ⟨n0, n1⟩, fun y hy => HA.out y (by rw [List.take_of_length_le (Nat.le_of_eq HL.out)]; exact hy)⟩
        go_wp2_with fail
        go_ret
        exact ⟨ret_b HN.out.symm, (Below.refl _ _).alloc (Nat.le_refl _) _⟩
  · have HN : Hid (okB f l = false) := okB_no (fun hp => hg ⟨hp.1, by rw [← HL.out]; exact hp.2.1⟩)
    rw [HN.out]
    have hcase : f < 0 ∨ (0 ≤ f ∧ 40 < f) ∨ (0 ≤ f ∧ f ≤ 40 ∧ (n : Int) < 1) ∨ (0 ≤ f ∧ f ≤ 40 ∧ 1 ≤ (n : Int) ∧ 20 < (n : Int)) := by omega
    clear hg
    rcases hcase with h1 | ⟨h0, h1⟩ | ⟨h0, h1, h2⟩ | ⟨h0, h1, h2, h3⟩
    all_goals
      go_enter Tryd.func38, Tryd.ntmps38
      go_wp2_with fail
      go_ret
      exact ⟨rfl, (Below.refl _ _).alloc (Nat.le_refl _) _⟩
end Go.Proofs.YtoanopgafihjiaaDoor
