/- For the law FnSetups: two equal set-ups are told alike, pieces are compared, the way back. -/
import Derived.Test.YtnfnmdeiaihgnaaSxVt
import Derived.Test.YtnfnmdeiaihgnaaSxFz
import Derived.Test.YtnfnmdeiaihgnaaSuLw
import Derived.Test.YtnfnmdeiaihgnaaSuCg
import Derived.Test.YtnfnmdeiaihgnaaSuDf
import Derived.Test.YtnfnmdeiaihgnaaSuDy
import Derived.Test.YtnfnmdeiaihgnaaSum
namespace Go.Proofs.Ytnfnmdeiaihgnaa
open Go.RowKit
set_option linter.unusedVariables false

theorem OwnS.capU {w : World} {lo hi n c : Nat} {A : Option Addr} {l : List Un} (h : OwnS Un.S w lo hi (.slice A n c) l) : n ≤ c := by
  obtain ⟨A', c', e, h2⟩ := h.form
  injection e with _ e1 e2
  omega
theorem q_bL {P : Program} {f : FuncId} {args : Array Value} {w : World} {v : Ending} (h : Calls P f args w fun e w' => e = v ∧ Q w w') : Calls P f args w fun e w' => e = v ∧ Below w.heap.size w w' := h.mono fun _ _ ⟨a, b⟩ => ⟨a, b.below _⟩
set_option maxRecDepth 100000 in
theorem pcEq (x : Pc) (W : World) : (Op.equalIn 10000 25 x.agg x.agg).run Try.prog W = .ok true W := by
  have hf : Try.prog.underlying 25 = some (.struct (Try.prog.fieldsOf 25)) := by kernel_rfl
  have hp : Try.prog.stoodInHeld 25 = false := by kernel_rfl
  rw [run_equalIn_struct W 9999 _ _ _ hf hp]
  have hu := Try.underlying25
  rw [hf] at hu
  injection hu with hu
  injection hu with hu
  rw [hu]
  simp [Op.eqFields, go_sem, Try.underlying2]
theorem pcEql (x : Pc) (W : World) : (binOp .eql 25 x.agg x.agg).run Try.prog W = .ok (.bool true) W := by
  rw [run_eql_struct, pcEq]
  rfl
theorem pcNeq (x : Pc) (W : World) : (binOp .neq 25 x.agg x.agg).run Try.prog W = .ok (.bool false) W := by
  rw [run_neq_struct, pcEq]
  rfl
set_option maxRecDepth 100000 in
theorem likeUn9_b (A A' : Option Addr) (n n' c c' B B' : Nat) (l : List Un) (w : World) (h : RdS Un.S w B A n l) (h' : RdS Un.S w B' A' n' l) (hn : n ≤ 1048576) :
    Calls Try.prog 25 #[.slice A n c, .slice A' n' c'] w fun e w' => e = .returned (.bool true) ∧ Below w.heap.size w w' := by
  obtain rfl : n = n' := h.1.symm.trans h'.1
  go_enter Try.func25, Try.ntmps25
  go_wp2_with fail
  go_loopw [5] (fun i wr => ∃ k : Nat, k ≤ n ∧ i = .int .i64 k ∧ Q w wr) (fun i _ => n - (intOf i).toNat)
  case atStart => exact ⟨0, Nat.zero_le _, rfl, Q.refl _⟩
  case round =>
    obtain ⟨k, hk, rfl, hq⟩ := hrel
    by_cases hlt : k < n
    · obtain ⟨b1, o1, x, rfl, _, hx, cx0, cx1, cx2⟩ := (h.q hq).at_Un hlt
      obtain ⟨b2, o2, y, rfl, _, hy, cy0, cy1, cy2⟩ := (h'.q hq).at_Un hlt
      obtain rfl : x = y := by rw [hx] at hy; injection hy
      have hneq := neUn x x
      rw [(Un.eqv_iff x x).2 rfl] at hneq
      clear hx hy
      go_wp2_with fail
      go_quiet (fail)
      go_wp2_with fail
      go_roundw
      case rel => exact ⟨k + 1, by omega, by go_num, hq.more _⟩
      case measure => simp [intOf]; omega
    · obtain rfl : k = n := by omega
      go_wp2_with fail
      go_ret
      exact ⟨rfl, hq.below _⟩
namespace Su
theorem fz_last {w h : Int} {c : Pc} {s : ByteArray} (hc : code w h c s.data.toList = 0) : fzC w h c s.data.toList (s.size : Int) = 0 ∧ fzR w h c s.data.toList (s.size : Int) = c := by
  have e1 : fzC w h c s.data.toList (s.size : Int) = 0 := by
    unfold fzC
    rw [if_pos hc, if_pos ⟨by omega, by rw [Array.length_toList]; exact Int.le_refl _⟩]
  refine ⟨e1, ?_⟩
  unfold fzR
  rw [if_pos e1]
  have := sz_last hc
  rw [Array.length_toList] at this
  exact this
theorem la_all {w h : Int} {c : Pc} {s : ByteArray} {L : List Un} {n : Nat} (hc : code w h c s.data.toList = 0) (hL : suR w h c s.data.toList = L) (hn : L.length = n) : laC L n = 0 ∧ laR L n = w * h := by
  obtain ⟨h1, h2, h3⟩ := su_back hc
  rw [hL] at h1 h3
  have hi : 0 ≤ (n : Int) ∧ (n : Int) ≤ (L.length : Int) := by omega
  refine ⟨by unfold laC; rw [if_pos h1, if_pos hi], ?_⟩
  unfold laR
  rw [if_pos h1, if_pos hi, Int.toNat_natCast, ← layers hc, ← h3, hn]
theorem sc_back {w h : Int} {c : Pc} {s : ByteArray} {L : List Un} (hc : code w h c s.data.toList = 0) (hL : suR w h c s.data.toList = L) : scC L = 0 ∧ s.data.toList = scR L := by
  obtain ⟨h1, h2, _⟩ := su_back hc
  rw [hL] at h1 h2
  exact ⟨by unfold scC; rw [if_pos h1], by unfold scR; rw [if_pos h1, h2]⟩
end Su
end Go.Proofs.Ytnfnmdeiaihgnaa
