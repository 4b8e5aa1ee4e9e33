/- The laws' own comparisons of two lists of leaves and of two lists of texts, for lists that are one. -/
import Derived.Test.YtcagljdebplmcaaFoDt
import Derived.Test.YtcagljdebplmcaaFoTx
import Derived.Test.YtcagljdebplmcaaFoFn
namespace Go.Proofs.Ytcagljdebplmcaa
open Go.RowKit

set_option maxRecDepth 100000 in
set_option maxHeartbeats 1000000 in
theorem likeLeaves_true (A A' : Option Addr) (n c c' B B' : Nat) (l : List Lv) (w : World) (h : RdV w B A n l) (h' : RdV w B' A' n l) (hn : n ≤ 1048576) :
    Calls Try.prog 23 #[.slice A n c, .slice A' n c'] w fun e w' => e = .returned (.bool true) ∧ Q w w' := by
  go_enter Try.func23, Try.ntmps23
  go_wp2
  go_loopw [5] (fun i wr => ∃ k : Nat, k ≤ n ∧ i = .int .i64 k ∧ Q w wr) (fun i _ => n - (intOf i).toNat)
  case atStart => exact ⟨0, Nat.zero_le _, rfl, Q.refl _⟩
  case round =>
    obtain ⟨k, hk, rfl, hq⟩ := hrel
    by_cases hlt : k < n
    · obtain ⟨b, o, x, rfl, hbB, hx, c0, c1, c2, c3⟩ := (h.q hq).at_ hlt
      obtain ⟨b', o', x', rfl, hbB', hx', d0, d1, d2, d3⟩ := (h'.q hq).at_ hlt
      obtain rfl : x = x' := by rw [hx] at hx'; injection hx'
      have hneq : ∀ W, (binOp .neq 37 x.agg x.agg).run Try.prog W = .ok (.bool false) W := fun W => by
        rw [neLf, (Lv.eqv_iff x x).2 rfl]; rfl
      clear hx hx'
      go_wp2
      go_quiet (fail)
      go_wp2
      go_roundw
      case rel => exact ⟨k + 1, by omega, by go_num, hq.more _⟩
      case measure => simp [intOf]; omega
    · obtain rfl : k = n := by omega
      go_wp2
      go_ret
      exact ⟨rfl, hq⟩

set_option maxRecDepth 100000 in
set_option maxHeartbeats 1000000 in
theorem likeTexts_true (A A' : Option Addr) (n c c' B B' : Nat) (l : List (List UInt8)) (w : World) (h : Rd Tv w B A n l) (h' : Rd Tv w B' A' n l) (hn : n ≤ 1048576) :
    Calls Try.prog 35 #[.slice A n c, .slice A' n c'] w fun e w' => e = .returned (.bool true) ∧ Q w w' := by
  go_enter Try.func35, Try.ntmps35
  go_wp2
  go_loopw [5] (fun i wr => ∃ k : Nat, k ≤ n ∧ i = .int .i64 k ∧ Q w wr) (fun i _ => n - (intOf i).toNat)
  case atStart => exact ⟨0, Nat.zero_le _, rfl, Q.refl _⟩
  case round =>
    obtain ⟨k, hk, rfl, hq⟩ := hrel
    have h := h.q hq
    have h' := h'.q hq
    by_cases hlt : k < n
    · obtain ⟨b, o, x, rfl, hbB, hx, hc⟩ := h.at_ hlt
      obtain ⟨b', o', x', rfl, hbB', hx', hc'⟩ := h'.at_ hlt
      obtain rfl : x = x' := by rw [hx] at hx'; injection hx'
      obtain ⟨s, hs⟩ : ∃ s : ByteArray, s = ⟨x.toArray⟩ := ⟨_, rfl⟩
      replace hc : wr.cell? ⟨b, o + k, none⟩ = some (.string s) := by rw [hs]; exact hc
      replace hc' : wr.cell? ⟨b', o' + k, none⟩ = some (.string s) := by rw [hs]; exact hc'
      clear hx hx' hs
      go_wp2
      go_quiet (fail)
      go_wp2
      go_roundw
      case rel => exact ⟨k + 1, by omega, by go_num, hq.more _⟩
      case measure => simp [intOf]; omega
    · obtain rfl : k = n := by omega
      go_wp2
      go_ret
      exact ⟨rfl, hq⟩
end Go.Proofs.Ytcagljdebplmcaa
