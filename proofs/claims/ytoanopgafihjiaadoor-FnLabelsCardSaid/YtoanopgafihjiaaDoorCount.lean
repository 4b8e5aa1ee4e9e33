/- Contracts of the program's PageCount, and words for the answers. -/
import Derived.Test.YtoanopgafihjiaaDoorRuns
namespace Go.Proofs.YtoanopgafihjiaaDoor
open Go.RowKit Pg

theorem implIsBook_is (f : Int) (A : Option Addr) (n c B : Nat) (r b : Bool) (l : List Int) (w : World) (h : Rd I w B A n l) (hB : B ≤ w.heap.size) (hn : n ≤ 1048576) (hf : -9223372036854775808 ≤ f ∧ f ≤ 9223372036854775807) (hb : okB f l = b) :
    Calls Tryd.prog 38 #[BK f A n c r] w fun e w' => e = .returned (.bool b) ∧ Below w.heap.size w w' := by
  subst hb
  exact implIsBook_any f A n c B r l w h hB hn hf
theorem specIsBook_is (f : Int) (A : Option Addr) (n c B : Nat) (r b : Bool) (l : List Int) (w : World) (h : Rd I w B A n l) (hB : B ≤ w.heap.size) (hn : n ≤ 1048576) (hb : okB f l = b) :
    Calls Tryd.prog 39 #[BK f A n c r] w fun e w' => e = .returned (.bool b) ∧ Below w.heap.size w w' := by
  subst hb
  exact specIsBook_any f A n c B r l w h hB hn
theorem Row2.kept {w w' : World} {g : Nat} {l : List Int} (h : Row2 w g l) (hk : w'.heap[g]? = w.heap[g]?) : Row2 w' g l := hk.trans h
theorem Row2.alloc {w : World} {g : Nat} {l : List Int} (h : Row2 w g l) (o : Obj) : Row2 (w.alloc o) g l := Blk.alloc h o

def bkC (f : Int) (l : List Int) : Int := if okB f l = true then 0 else 1
def csR (r : Bool) (f : Int) (l : List Int) : List Int := if okB f l = true then starts r (f + 1) l else []
def pcR (r : Bool) (f : Int) (l : List Int) : Int := if okB f l = true then stop r (f + 1) l - 1 else 0

theorem tup_ii {a b c d : Int} (h : a = b) (h' : c = d) : Ending.returned (.tuple #[.int .i64 a, .int .i64 c]) = .returned (.tuple #[.int .i64 b, .int .i64 d]) := by rw [h, h']

set_option maxRecDepth 100000 in
set_option maxHeartbeats 2000000 in
theorem implCount_any (f : Int) (A : Option Addr) (n c B : Nat) (r : Bool) (l : List Int) (w : World) (h : Rd I w B A n l) (hB : B ≤ w.heap.size) (hn : n ≤ 1048576) (hf : -9223372036854775808 ≤ f ∧ f ≤ 9223372036854775807) :
    Calls Tryd.prog 52 #[BK f A n c r] w fun e w' => e = .returned (.tuple #[.int .i64 (pcR r f l), .int .i64 (bkC f l)]) ∧ Below w.heap.size w w' := by
  have hR0 := h.alloc hB (.cells (BC f A n c r) 26)
  have HL : Hid (l.length = n) := h.1
  by_cases ho : okP f l
  · have HO := Lib.hid (okB_yes ho)
    have HR : Hid (pcR r f l = stop r (f + 1) l - 1) := if_pos HO.out
    have HC : Hid (bkC f l = 0) := if_pos HO.out
    have HM : Hid (mild f l) := mild_ok ho
    have hn2 : n ≤ 20 := by have := ho.2.1.2; have := HL.out; omega
    obtain ⟨j, rfl⟩ : ∃ j, n = j + 1 := ⟨n - 1, by have := ho.2.1.1; have := HL.out; omega⟩
    obtain ⟨x, hx⟩ : ∃ x, l[j]? = some x := ⟨_, List.getElem?_eq_getElem (by rw [HL.out]; omega)⟩
    have hlast : l = l.take j ++ [x] := by
      rw [← Pg.take_snoc l j x hx, List.take_of_length_le (Nat.le_of_eq HL.out)]
    have hc1 := (runs_at r (f + 1) l j x hx).2
    rw [← stop_snoc, ← hlast, Nat.mul_comm 2 j] at hc1
    have HC1 := Lib.hid hc1
    clear ho hlast hx hc1
    go_enter Tryd.func52, Tryd.ntmps52
    go_wp2_with fail
    refine (implIsBook_is _ _ _ _ _ _ _ _ _ hR0 (by simp; omega) hn hf HO.out).mono ?_
    rintro e w1 ⟨rfl, hb1⟩
    have a1 := (Blk.new (w := w) (g := w.heap.size) (BC f A (j + 1) c r) 26 rfl).below hb1 (by simp)
    have a10 := a1.cell 0 (v := .int .i64 f) rfl
    have a11 := a1.cell 1 (v := .slice A (j + 1) c) rfl
    have a12 := a1.cell 2 (v := .bool r) rfl
    have hB1 : Below w.heap.size w w1 := ((Below.refl w.heap.size w).alloc (Nat.le_refl _) _).trans (hb1.mono (by simp))
    have hz1 := hB1.size
    go_wp2_with fail
    refine (chapterRuns_any _ _ _ _ _ _ _ _ (h.below hB1 hB) (by omega) HM.out).mono ?_
    rintro e w3 ⟨g, rfl, hg, hr3, hb3⟩
    have q1 := hr3.cell HC1.out
    go_wp2_with fail
    go_ret2
    exact ⟨tup_ii HR.out.symm HC.out.symm, hB1.trans (hb3.mono hz1)⟩
  · have HO := Lib.hid (okB_no ho)
    have HR : Hid (pcR r f l = 0) := if_neg (by rw [HO.out]; simp)
    have HC : Hid (bkC f l = 1) := if_neg (by rw [HO.out]; simp)
    clear ho
    go_enter Tryd.func52, Tryd.ntmps52
    go_wp2_with fail
    refine (implIsBook_is _ _ _ _ _ _ _ _ _ hR0 (by simp; omega) hn hf HO.out).mono ?_
    rintro e w1 ⟨rfl, hb1⟩
    have hB1 : Below w.heap.size w w1 := ((Below.refl w.heap.size w).alloc (Nat.le_refl _) _).trans (hb1.mono (by simp))
    go_wp2_with fail
    go_ret2
    exact ⟨tup_ii HR.out.symm HC.out.symm, hB1⟩
end Go.Proofs.YtoanopgafihjiaaDoor
