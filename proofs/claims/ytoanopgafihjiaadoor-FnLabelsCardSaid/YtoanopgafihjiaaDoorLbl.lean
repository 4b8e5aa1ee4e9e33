/- Contracts of the labels: the runs with their functions, and the label of a page. -/
import Derived.Test.YtoanopgafihjiaaDoorDecs
import Derived.Test.YtoanopgafihjiaaDoorRoImpl
import Derived.Test.YtoanopgafihjiaaDoorCheck
namespace Go.Proofs.YtoanopgafihjiaaDoor
open Go.RowKit Pg Ro

/-- The functions that write the labels, as values. -/
abbrev fRom : Value := .func (.func 17) #[] #[]
abbrev fDec : Value := .func (.func 54) #[] #[]
/-- The cells of the two labelled runs: the body begins on page s, and e is behind the last page. -/
def LR (s e : Int) : Array Value := #[.int .i64 1, .int .i64 (s - 1), fRom, .int .i64 s, .int .i64 (e - 1), fDec]
/-- Run k of the two. -/
def RunAt (s e : Int) (k : Nat) (a b : Int) (F : Value) : Prop := (k = 0 ∧ a = 1 ∧ b = s - 1 ∧ F = fRom) ∨ (k = 1 ∧ a = s ∧ b = e - 1 ∧ F = fDec)
theorem LR_at (s e : Int) (k : Nat) (h : k < 2) : ∃ a b F, RunAt s e k a b F ∧ (LR s e)[k * 3]? = some (.int .i64 a) ∧ (LR s e)[k * 3 + 1]? = some (.int .i64 b) ∧ (LR s e)[k * 3 + 2]? = some F := by
  have hc : k = 0 ∨ k = 1 := by omega
  rcases hc with rfl | rfl
  · exact ⟨_, _, _, .inl ⟨rfl, rfl, rfl, rfl⟩, rfl, rfl, rfl⟩
  · exact ⟨_, _, _, .inr ⟨rfl, rfl, rfl, rfl⟩, rfl, rfl, rfl⟩

/-- The tables that the labels need lie in memory. -/
def Env (w : World) : Prop := Sg w ∧ Lib.TabIs Tryd.prog w "internal/strconv.uint64pow10" .u64 Lib.pow10Tab
theorem Env.below {w w' : World} (h : Env w) (hb : Below w.heap.size w w') : Env w' :=
  ⟨h.1.below hb h.1.lt, tabIs_below h.2 hb gPow (tabIs_lt h.2 gPow)⟩
theorem Env.alloc {w : World} (h : Env w) (o : Obj) : Env (w.alloc o) := h.below ((Below.refl _ _).alloc (Nat.le_refl _) o)

/-- The label of a page, where the body begins on page s. -/
def labB (s p : Int) : ByteArray := if p < s then St (romI p) else dec (p - s + 1).toNat

set_option maxRecDepth 100000 in
set_option maxHeartbeats 2000000 in
theorem labelledRuns_any (f : Int) (A : Option Addr) (n c B : Nat) (r : Bool) (l : List Int) (w : World) (h : Rd I w B A n l) (hB : B ≤ w.heap.size) (hmi : mild f l) (hn1 : 1 ≤ n) :
    Calls Tryd.prog 31 #[BK f A n c r] w fun e w' => ∃ g, e = .returned (.slice (some ⟨g, 0, none⟩) 2 2) ∧ Blk w' g (LR (up r (f + 1)) (stop r (f + 1) l)) 59 ∧ Below w.heap.size w w' := by
  have HM := Lib.hid hmi
  have HL : Hid (l.length = n) := h.1
  have hbd := mild_take HM.out r l.length
  rw [List.take_length] at hbd
  obtain ⟨m0, m1⟩ := hbd
  have hf0 := hmi.1
  have hf1 := hmi.2.1
  have hn : n ≤ 1000 := by have h1 := HL.out; have := hmi.2.2.1; omega
  obtain ⟨j, rfl⟩ : ∃ j, n = j + 1 := ⟨n - 1, by omega⟩
  obtain ⟨x, hx⟩ : ∃ x, l[j]? = some x := ⟨_, List.getElem?_eq_getElem (by rw [HL.out]; omega)⟩
  have hlast : l = l.take j ++ [x] := by
    rw [← Pg.take_snoc l j x hx, List.take_of_length_le (Nat.le_of_eq HL.out)]
  have hc1 := (runs_at r (f + 1) l j x hx).2
  rw [← stop_snoc, ← hlast, Nat.mul_comm 2 j] at hc1
  obtain ⟨y, hy⟩ : ∃ y, l[0]? = some y := ⟨_, List.getElem?_eq_getElem (by rw [HL.out]; omega)⟩
  have hc0 := (runs_at r (f + 1) l 0 y hy).1
  have HC1 := Lib.hid hc1
  have HC0 : Hid ((runs r (f + 1) l)[0]? = some (up r (f + 1))) := hc0
  have hu := up_ge r (f + 1)
  clear hmi hlast hx hc1 hc0 hy
  go_enter Tryd.func31, Tryd.ntmps31
  go_wp2_with fail
  refine (chapterRuns_any _ _ _ _ _ _ _ _ (h.alloc hB _) (by simp; omega) HM.out).mono ?_
  rintro e w1 ⟨g, rfl, hg, hr1, hb1⟩
  have q1 := hr1.cell HC1.out
  have q0 := hr1.cell HC0.out
  go_wp2_with fail
  exact bodyPost_ret (v := .slice (some ⟨w1.heap.size, 0, none⟩) 2 2) (by simp [results, Tryd.results31, go_sem]) rfl ⟨_, rfl, Blk.new _ _ rfl, (((Below.refl w.heap.size w).alloc (Nat.le_refl _) _).trans (hb1.mono (by simp))).alloc (by have := hb1.size; simp at this; omega) _⟩

set_option maxRecDepth 100000 in
theorem dec54_any (x : Int) (w : World) (h0 : 0 ≤ x) (h1 : x ≤ 1000000000) (he : Env w) :
    Calls Tryd.prog 54 #[.int .i64 x] w fun e w' => e = .returned (.string (dec x.toNat)) ∧ Below w.heap.size w w' := by
  have HE := Lib.hid he.2
  clear he
  go_enter Tryd.func54, Tryd.ntmps54
  go_wp2_with fail
  refine (fmt_int _ _ h0 h1 HE.out).mono ?_
  rintro e w1 ⟨rfl, hb1⟩
  go_wp2_with fail
  go_ret
  exact ⟨rfl, hb1⟩

set_option maxRecDepth 100000 in
theorem label_rom (b p : Int) (w : World) (h0 : -1000000 ≤ p) (h1 : p ≤ 2000000) (he : Env w) :
    Calls Tryd.prog 33 #[.agg #[.int .i64 1, .int .i64 b, fRom], .int .i64 p] w fun e w' => e = .returned (.string (St (romI p))) ∧ Below w.heap.size w w' := by
  have HE := Lib.hid (he.alloc (.cells #[.int .i64 1, .int .i64 b, fRom] 59)).1
  have e1 : p - 1 + 1 = p := by omega
  clear he
  go_enter Tryd.func33, Tryd.ntmps33
  go_wp2_with fail
  refine (implRoman_any _ _ HE.out).mono ?_
  rintro e w1 ⟨rfl, hb1⟩
  go_wp2_with fail
  go_ret
  exact ⟨rfl, ((Below.refl w.heap.size w).alloc (Nat.le_refl _) _).trans (hb1.mono (by simp))⟩

set_option maxRecDepth 100000 in
theorem label_dec (s b p : Int) (w : World) (hs0 : -1000000 ≤ s) (hs1 : s ≤ 2000000) (h0 : s ≤ p) (h1 : p ≤ 2000000) (he : Env w) :
    Calls Tryd.prog 33 #[.agg #[.int .i64 s, .int .i64 b, fDec], .int .i64 p] w fun e w' => e = .returned (.string (dec (p - s + 1).toNat)) ∧ Below w.heap.size w w' := by
  have HE := Lib.hid (he.alloc (.cells #[.int .i64 s, .int .i64 b, fDec] 59))
  clear he
  go_enter Tryd.func33, Tryd.ntmps33
  go_wp2_with fail
  refine (dec54_any _ _ (by omega) (by omega) HE.out).mono ?_
  rintro e w1 ⟨rfl, hb1⟩
  go_wp2_with fail
  go_ret
  exact ⟨rfl, ((Below.refl w.heap.size w).alloc (Nat.le_refl _) _).trans (hb1.mono (by simp))⟩

theorem label_run (s e : Int) (k : Nat) (a b p : Int) (F : Value) (t : ByteArray) (w : World) (hr : RunAt s e k a b F) (hs0 : -1000000 ≤ s) (hs1 : s ≤ 1000000) (he1 : e ≤ 1500000) (h0 : a ≤ p) (h1 : p ≤ b) (ht : labB s p = t) (he : Env w) :
    Calls Tryd.prog 33 #[.agg #[.int .i64 a, .int .i64 b, F], .int .i64 p] w fun e w' => e = .returned (.string t) ∧ Below w.heap.size w w' := by
  subst ht
  unfold labB
  rcases hr with ⟨_, rfl, rfl, rfl⟩ | ⟨_, rfl, rfl, rfl⟩
  · rw [if_pos (by omega)]
    exact label_rom _ p w (by omega) (by omega) he
  · rw [if_neg (by omega)]
    exact label_dec a _ p w hs0 (by omega) h0 (by omega) he
end Go.Proofs.YtoanopgafihjiaaDoor
