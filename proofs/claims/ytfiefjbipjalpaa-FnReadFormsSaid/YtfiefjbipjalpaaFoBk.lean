/- Contracts of the program's way back through the folds: one fold, and the leaf at a place of the pile. -/
import Derived.Test.YtfiefjbipjalpaaStBack
import Derived.Test.YtfiefjbipjalpaaStr
import Derived.Test.YtfiefjbipjalpaaIn
import Derived.Test.YtfiefjbipjalpaaLf
import Derived.Lib.ConvBytes
namespace Go.Proofs.Ytfiefjbipjalpaa
open Go.RowKit Go.Shelf
attribute [local go_sem] Oper.semAt_some

/-- What an unfolding is as a value. -/
abbrev unf (a s : Int) (t : Bool) : Value := .agg #[.int .i64 a, .int .i64 s, .bool t]
def abI (a s : Int) (m f : Bool) : Int := (if m then s - 1 - a else a) + (if m != f then s else 0)
def kbI (k n : Int) : Int := if k < n then n - 1 - k else k - n
theorem ab_cast (a s : Nat) (m f : Bool) (h : a < s) : abI (a : Int) (s : Int) m f = ((Fo.ab a s m f : Nat) : Int) := by
  have e : ((s - 1 - a : Nat) : Int) = (s : Int) - 1 - a := by omega
  unfold abI Fo.ab
  cases m <;> cases f <;> simp [e]
theorem kb_cast (k n : Nat) : kbI (k : Int) (n : Int) = ((Fo.kb k n : Nat) : Int) := by
  unfold kbI Fo.kb
  by_cases h1 : k < n
  · rw [if_pos (by omega), if_pos h1]; omega
  · rw [if_neg (by omega), if_neg h1]; omega

set_option maxRecDepth 100000 in
theorem placeBefore_any (k n : Int) (w : World) (h0 : 0 ≤ k) (h1 : k < 2 * n) (h2 : n ≤ 64) :
    Calls Try.prog 116 #[.int .i64 k, .int .i64 n] w fun e w' => e = .returned (.tuple #[.int .i64 (kbI k n), .bool (decide (k < n))]) ∧ w = w' := by
  by_cases hk : k < n
  · have HR : Hid (kbI k n = n - 1 - k ∧ decide (k < n) = true) := Lib.hid ⟨by unfold kbI; rw [if_pos hk], by simpa using hk⟩
    go_enter Try.func116, Try.ntmps116
    go_wp2
    go_ret2
    rw [HR.out.1, HR.out.2]
    exact ⟨rfl, rfl⟩
  · have HR : Hid (kbI k n = k - n ∧ decide (k < n) = false) := Lib.hid ⟨by unfold kbI; rw [if_neg hk], by simpa using hk⟩
    go_enter Try.func116, Try.ntmps116
    go_wp2
    go_ret2
    rw [HR.out.1, HR.out.2]
    exact ⟨rfl, rfl⟩

set_option maxRecDepth 100000 in
set_option maxHeartbeats 1000000 in
theorem before_any (a s : Int) (t m f : Bool) (w : World) (h0 : 0 ≤ a) (h1 : a < s) (h2 : s ≤ 64) :
    Calls Try.prog 117 #[unf a s t, .bool m, .bool f] w fun e w' => e = .returned (unf (abI a s m f) (s * 2) (t != m)) ∧ Below w.heap.size w w' := by
  have e1 : IntKind.i64.wrap (s - 1) = s - 1 := IntWalk.i64_in _ (by omega)
  have e2 : IntKind.i64.wrap (s - 1 - a) = s - 1 - a := IntWalk.i64_in _ (by omega)
  have e3 : IntKind.i64.wrap (a + s) = a + s := IntWalk.i64_in _ (by omega)
  have e4 : IntKind.i64.wrap (s - 1 - a + s) = s - 1 - a + s := IntWalk.i64_in _ (by omega)
  have e5 : IntKind.i64.wrap (s * 2) = s * 2 := IntWalk.i64_in _ (by omega)
  cases m <;> cases f
  · go_enter Try.func117, Try.ntmps117
    go_wp2
    exact bodyPost_ret (v := unf (abI a s false false) (s * 2) (t != false)) (by simp [results, Try.results117, go_sem, abI]) rfl ⟨rfl, ((Below.refl _ w).alloc (Nat.le_refl _) _).alloc (by simp) _⟩
  · go_enter Try.func117, Try.ntmps117
    go_wp2
    exact bodyPost_ret (v := unf (abI a s false true) (s * 2) (t != false)) (by simp [results, Try.results117, go_sem, abI]) rfl ⟨rfl, ((Below.refl _ w).alloc (Nat.le_refl _) _).alloc (by simp) _⟩
  · go_enter Try.func117, Try.ntmps117
    go_wp2
    exact bodyPost_ret (v := unf (abI a s true false) (s * 2) (t != true)) (by simp [results, Try.results117, go_sem, abI]) rfl ⟨rfl, ((Below.refl _ w).alloc (Nat.le_refl _) _).alloc (by simp) _⟩
  · go_enter Try.func117, Try.ntmps117
    go_wp2
    exact bodyPost_ret (v := unf (abI a s true true) (s * 2) (t != true)) (by simp [results, Try.results117, go_sem, abI]) rfl ⟨rfl, ((Below.refl _ w).alloc (Nat.le_refl _) _).alloc (by simp) _⟩
end Go.Proofs.Ytfiefjbipjalpaa
