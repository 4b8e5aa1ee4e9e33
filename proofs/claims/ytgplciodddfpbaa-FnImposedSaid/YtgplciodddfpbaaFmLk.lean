/- Two lists of numbers, or two forms, that read alike are alike. -/
import Derived.Test.YtgplciodddfpbaaFmLaw
import Derived.Deep.QuietTactic
import Derived.BigQuiet
import Derived.WalkKit
namespace Go.Proofs.Ytgplciodddfpbaa
open Go.RowKit

set_option maxHeartbeats 1000000 in
theorem likeInts_true (A A' : Option Addr) (n c c' B B' : Nat) (l : List Int) (w : World) (h : Rd I w B A n l) (h' : Rd I w B' A' n l) (hn : n ≤ 1048576) :
    Calls Try.prog 27 #[.slice A n c, .slice A' n c'] w fun e w' => e = .returned (.bool true) ∧ Q w w' := by
  go_enter Try.func27, Try.ntmps27
  go_wp2
  go_loopw [5] (fun i wr => ∃ k : Nat, k ≤ n ∧ i = .int .i64 k ∧ Q w wr) (fun i _ => n - (intOf i).toNat)
  case atStart => exact ⟨0, Nat.zero_le _, rfl, Q.refl _⟩
  case round =>
    obtain ⟨k, hk, rfl, hq⟩ := hrel
    have h := h.q hq
    have h' := h'.q hq
    by_cases hlt : k < n
    · obtain ⟨b, o, x, rfl, hbB, hx, hc⟩ := h.at_ hlt
      obtain ⟨b', o', x', rfl, hbB', hx', hc'⟩ := h'.at_ hlt
      obtain rfl : x = x' := by rw [hx] at hx'; injection hx'
      clear hx hx'
      go_wp2
      go_quiet (fail)
      go_wp2
      go_roundw
      case rel => exact ⟨k + 1, by omega, by go_num, hq.more _⟩
      case measure => simp [intOf]; omega
    · obtain rfl : k = n := by omega
      go_wp2
      go_ret
      exact ⟨rfl, hq⟩


set_option maxRecDepth 100000 in
set_option maxHeartbeats 4000000 in
theorem likeForms_true (f f' : Fv) (ha : f.a = f'.a) (hb : f.b = f'.b) (h1 : f.n1 = f'.n1) (h2 : f.n2 = f'.n2) (h3 : f.n3 = f'.n3) (B B' : Nat) (F G H : List Int) (w : World) (h : RF w B f F G H) (h' : RF w B' f' F G H) (hB : B ≤ w.heap.size) (hB' : B' ≤ w.heap.size) (hn : f.le 1048576) :
    Calls Try.prog 16 #[f.v, f'.v] w fun e w' => e = .returned (.bool true) ∧ Below w.heap.size w w' := by
  obtain ⟨a, b, A1, n1, c1, A2, n2, c2, A3, n3, c3⟩ := f
  obtain ⟨a', b', A1', n1', c1', A2', n2', c2', A3', n3', c3'⟩ := f'
  simp only at ha hb h1 h2 h3
  subst ha hb h1 h2 h3
  obtain ⟨l1, l2, l3⟩ := hn
  simp only at l1 l2 l3
  go_enter Try.func16, Try.ntmps16
  generalize hW : (w.alloc (.cells (Fv.cs ⟨a, b, A1, n1, c1, A2, n2, c2, A3, n3, c3⟩) 28)).alloc (.cells (Fv.cs ⟨a, b, A1', n1, c1', A2', n2, c2', A3', n3, c3'⟩) 28) = W0
  have bF : FBx W0 w.heap.size ⟨a, b, A1, n1, c1, A2, n2, c2, A3, n3, c3⟩ := by rw [← hW]; exact (Blk.new _ _ rfl).alloc _
  have bG : FBx W0 (w.heap.size + 1) ⟨a, b, A1', n1, c1', A2', n2, c2', A3', n3, c3'⟩ := by rw [← hW]; exact Blk.new _ _ (by simp)
  have hb0 : Below w.heap.size w W0 := by rw [← hW]; exact (below_alloc _ _).alloc (by simp) _
  have hr := h.below hb0 hB
  have hr' := h'.below hb0 hB'
  obtain ⟨j0, j1, j2, j3, j4⟩ := bF.lcell
  obtain ⟨q0, q1, q2, q3, q4⟩ := bG.lcell
  simp only at j0 j1 j2 j3 j4 q0 q1 q2 q3 q4
  have HX : ∀ V, Q W0 V → FBx V w.heap.size ⟨a, b, A1, n1, c1, A2, n2, c2, A3, n3, c3⟩ ∧ FBx V (w.heap.size + 1) ⟨a, b, A1', n1, c1', A2', n2, c2', A3', n3, c3'⟩ := fun V hq => ⟨bF.q hq, bG.q hq⟩
  have HL1 : ∀ V, Q W0 V → Calls Try.prog 27 #[.slice A1 n1 c1, .slice A1' n1 c1'] V fun e w' => e = .returned (.bool true) ∧ Q V w' := fun V hq => likeInts_true A1 A1' n1 c1 c1' B B' F V (hr.q hq).r1 (hr'.q hq).r1 l1
  have HL2 : ∀ V, Q W0 V → Calls Try.prog 27 #[.slice A2 n2 c2, .slice A2' n2 c2'] V fun e w' => e = .returned (.bool true) ∧ Q V w' := fun V hq => likeInts_true A2 A2' n2 c2 c2' B B' G V (hr.q hq).r2 (hr'.q hq).r2 l2
  have HL3 : ∀ V, Q W0 V → Calls Try.prog 27 #[.slice A3 n3 c3, .slice A3' n3 c3'] V fun e w' => e = .returned (.bool true) ∧ Q V w' := fun V hq => likeInts_true A3 A3' n3 c3 c3' B B' H V (hr.q hq).r3 (hr'.q hq).r3 l3
  have hq0 : Q W0 W0 := Q.refl _
  have hz0 : W0.heap.size = w.heap.size + 2 := by rw [← hW]; simp
  have HB := Lib.hid hb0
  clear hr hr' h h' hb0
  have hcls : ∀ V, Q W0 V → Below w.heap.size w V := fun V hq => HB.out.trans ((hq.below W0.heap.size).mono (by omega))
  clear HB hz0 bF bG
  subst hW
  go_wp2_with (first
    | (go_at_call 27; with_reducible refine (HL3 _ hq2).mono ?_; rintro e v3 ⟨rfl, hr3⟩; have hq3 := hq2.trans hr3)
    | (go_at_call 27; with_reducible refine (HL2 _ hq1).mono ?_; rintro e v2 ⟨rfl, hr2⟩; have hq2 := hq1.trans hr2; obtain ⟨kb0, kb1, kb2, kb3, kb4⟩ := (HX _ hq2).1.lcell; obtain ⟨mb0, mb1, mb2, mb3, mb4⟩ := (HX _ hq2).2.lcell; simp only at kb0 kb1 kb2 kb3 kb4 mb0 mb1 mb2 mb3 mb4)
    | (go_at_call 27; with_reducible refine (HL1 _ hq0).mono ?_; rintro e v1 ⟨rfl, hq1⟩; obtain ⟨ka0, ka1, ka2, ka3, ka4⟩ := (HX _ hq1).1.lcell; obtain ⟨ma0, ma1, ma2, ma3, ma4⟩ := (HX _ hq1).2.lcell; simp only at ka0 ka1 ka2 ka3 ka4 ma0 ma1 ma2 ma3 ma4))
  go_ret
  exact ⟨rfl, hcls _ hq3⟩
end Go.Proofs.Ytgplciodddfpbaa
