/- Contract of the model's CountChanges. -/
import Derived.Test.YtnfnmdeiaihgnaaSuSc
import Derived.Test.YtnfnmdeiaihgnaaSuEm
import Derived.Laws.StructEq
import Derived.Deep.RegionLaw
import Derived.BigQuiet
import Derived.Deep.QuietTactic
namespace Go.Proofs.Ytnfnmdeiaihgnaa
open Go.RowKit
set_option linter.unusedVariables false

/-- Are two units one? -/
def Un.eqv (x y : Un) : Bool := x.a == y.a && x.g == y.g && x.o == y.o
theorem Un.eqv_iff (x y : Un) : x.eqv y = true ↔ x = y := by
  obtain ⟨a, b, c⟩ := x
  obtain ⟨a', b', c'⟩ := y
  simp [Un.eqv, and_assoc]
set_option maxRecDepth 100000 in
theorem neUn (x y : Un) (W : World) : (binOp .neq 83 x.agg y.agg).run Try.prog W = .ok (.bool (!x.eqv y)) W := by
  have hf : Try.prog.underlying 83 = some (.struct (Try.prog.fieldsOf 83)) := by kernel_rfl
  have hp : Try.prog.stoodInHeld 83 = false := by kernel_rfl
  rw [run_neq_struct, run_equalIn_struct W 9999 _ _ _ hf hp]
  have hu := Try.underlying83
  rw [hf] at hu
  injection hu with hu
  injection hu with hu
  rw [hu]
  simp [Op.eqFields, go_sem, Try.underlying2, Try.underlying4]
  unfold Un.eqv
  by_cases h1 : x.a = y.a <;> by_cases h2 : x.g = y.g <;> by_cases h3 : x.o = y.o <;> simp [h1, h2, h3]
set_option maxRecDepth 100000 in
set_option maxHeartbeats 40000000 in
theorem specCg_any (A A2 : Option Addr) (n c B n2 c2 B2 : Nat) (l m : List Un) (R : Int) (w : World) (h : RdS Un.S w B A n l) (h2 : RdS Un.S w B2 A2 n2 m) (hn : n ≤ 1048577) (hn2 : n2 ≤ 1048577) (hR : Su.chR l m = R) :
    Calls Try.prog 81 #[.slice A n c, .slice A2 n2 c2] w fun e w' => e = .returned (.int .i64 R) ∧ Q w w' := by
  have HL := Lib.hid h.1
  have HL2 := Lib.hid h2.1
  have HR := Lib.hid hR
  have hne := neUn
  clear hR
  go_enter Try.func81, Try.ntmps81
  go_wp2_with fail
  go_loopw [5, 6] (fun t i wr => ∃ (k : Nat) (v : Int), (k ≤ n ∨ k ≤ n2) ∧ i = .int .i64 k ∧ t = .int .i64 v ∧ (0 ≤ v ∧ v ≤ k) ∧ Hid (Su.chT l m k = v) ∧ Q w wr) (fun _ i _ => max n n2 - (intOf i).toNat)
  case atStart => exact ⟨0, 0, .inl (Nat.zero_le _), rfl, rfl, by omega, Lib.hid rfl, Q.refl _⟩
  case round =>
    obtain ⟨k, v, hk, rfl, rfl, hv, HV, hq⟩ := hrel
    have e1 : IntKind.i64.wrap (v + 1) = v + 1 := IntWalk.i64_in _ (by omega)
    by_cases hlt : k < n
    · have hltI : (k : Int) < (n : Int) := by omega
      have d_hltI : decide ((k : Int) < (n : Int)) = true := decide_eq_true (by omega)
      have hltG : ¬ ((n : Int) ≤ (k : Int)) := by omega
      have d_hltG : decide ((n : Int) ≤ (k : Int)) = false := decide_eq_false (by omega)
      by_cases hlt2 : k < n2
      · have hlt2I : (k : Int) < (n2 : Int) := by omega
        have d_hlt2I : decide ((k : Int) < (n2 : Int)) = true := decide_eq_true (by omega)
        have hlt2G : ¬ ((n2 : Int) ≤ (k : Int)) := by omega
        have d_hlt2G : decide ((n2 : Int) ≤ (k : Int)) = false := decide_eq_false (by omega)
        obtain ⟨b1, o1, x, rfl, _, hx, cx0, cx1, cx2⟩ := (h.q hq).at_Un hlt
        obtain ⟨b2, o2, y, rfl, _, hy, cy0, cy1, cy2⟩ := (h2.q hq).at_Un hlt2
        have hneq := hne x y
        cases he : x.eqv y
        · rw [he] at hneq
          have HN : Hid (Su.chT l m (k + 1) = v + 1) := Lib.hid (by
            rw [Su.chT_diff (by rw [hx, hy]; intro e; injection e with e; rw [(Un.eqv_iff x y).2 e] at he; cases he), HV.out])
          clear hx hy he hne
          go_wp2_with fail
          go_quiet (fail)
          go_wp2_with fail
          go_roundw
          case rel => exact ⟨k + 1, v + 1, by omega, by go_num, rfl, by omega, HN, hq.more _⟩
          case measure => simp [intOf]; omega
        · rw [he] at hneq
          have HN : Hid (Su.chT l m (k + 1) = v) := Lib.hid (by
            rw [Su.chT_same (by rw [hx, hy, (Un.eqv_iff x y).1 he]), HV.out])
          clear hx hy he hne
          go_wp2_with fail
          go_quiet (fail)
          go_wp2_with fail
          go_roundw
          case rel => exact ⟨k + 1, v, by omega, by go_num, rfl, by omega, HN, hq.more _⟩
          case measure => simp [intOf]; omega
      · have hlt2I : ¬ ((k : Int) < (n2 : Int)) := by omega
        have d_hlt2I : decide ((k : Int) < (n2 : Int)) = false := decide_eq_false (by omega)
        have hlt2G : (n2 : Int) ≤ (k : Int) := by omega
        have d_hlt2G : decide ((n2 : Int) ≤ (k : Int)) = true := decide_eq_true (by omega)
        have HN : Hid (Su.chT l m (k + 1) = v + 1) := Lib.hid (by
          rw [Su.chT_diff (by rw [List.getElem?_eq_getElem (show k < l.length by rw [HL.out]; exact hlt), List.getElem?_eq_none (by have := HL2.out; omega)]; intro e; cases e), HV.out])
        clear hne
        go_wp2_with fail
        refine wp_region_any (by kernel_rfl) ?_
        change wpAny _ _ _ _ _ _ _ (World.drew _)
        refine wpAny_take (i := 0) (oi := ⟨some 19, _, _, _, _, _⟩) (v := ?_) rfl (by kernel_rfl) (by kernel_rfl) (by kernel_rfl) (fun _ _ _ h => h) (Or.inl ⟨by kernel_rfl, ?_⟩) ?_
        rotate_left
        · (intro w; go_simp; first | done | with_reducible rfl)
        refine wpAny_take (i := 1) (oi := ⟨some 20, _, _, _, _, _⟩) (v := ?_) rfl (by kernel_rfl) (by kernel_rfl) (by kernel_rfl) (fun _ _ _ h => h) (Or.inl ⟨by kernel_rfl, ?_⟩) ?_
        rotate_left
        · (intro w; go_simp; first | done | with_reducible rfl)
        refine wpAny_take (i := 2) (oi := ⟨some 21, _, _, _, _, _⟩) (v := ?_) rfl (by kernel_rfl) (by kernel_rfl) (by kernel_rfl) (fun _ _ _ h => h) (Or.inl ⟨by kernel_rfl, ?_⟩) ?_
        rotate_left
        · (intro w; go_simp; first | done | with_reducible rfl)
        refine wpAny_take (i := 3) (oi := ⟨some 22, _, _, _, _, _⟩) (v := .bool false) rfl (by kernel_rfl) (by kernel_rfl) (by kernel_rfl) (fun _ _ _ h => h) (Or.inl ⟨by kernel_rfl, ?_⟩) ?_
        · (intro w; go_simp; first | done | with_reducible rfl | simp [d_hltG, d_hlt2G] | simp [hltG, hlt2G])
        refine wpAny_take (i := 4) (oi := ⟨some 23, _, _, _, _, _⟩) (v := ?_) rfl (by kernel_rfl) (by kernel_rfl) (by kernel_rfl) (fun _ _ _ h => h) (Or.inl ⟨by kernel_rfl, ?_⟩) ?_
        rotate_left
        · (intro w; go_simp; first | done | with_reducible rfl)
        refine wpAny_take (i := 5) (oi := ⟨some 24, _, _, _, _, _⟩) (v := ?_) rfl (by kernel_rfl) (by kernel_rfl) (by kernel_rfl) (fun _ _ _ h => h) (Or.inl ⟨by kernel_rfl, ?_⟩) ?_
        rotate_left
        · (intro w; go_simp; first | done | with_reducible rfl)
        refine wpAny_take (i := 6) (oi := ⟨some 25, _, _, _, _, _⟩) (v := ?_) rfl (by kernel_rfl) (by kernel_rfl) (by kernel_rfl) (fun _ _ _ h => h) (Or.inl ⟨by kernel_rfl, ?_⟩) ?_
        rotate_left
        · (intro w; go_simp; first | done | with_reducible rfl)
        refine wpAny_take (i := 7) (oi := ⟨some 26, _, _, _, _, _⟩) (v := ?_) rfl (by kernel_rfl) (by kernel_rfl) (by kernel_rfl) (fun _ _ _ h => h) (Or.inl ⟨by kernel_rfl, ?_⟩) ?_
        rotate_left
        · (intro w; go_simp; first | done | with_reducible rfl)
        refine wpAny_take (i := 8) (oi := ⟨some 27, _, _, _, _, _⟩) (v := .bool true) rfl (by kernel_rfl) (by kernel_rfl) (by kernel_rfl) (fun _ _ _ h => h) (Or.inl ⟨by kernel_rfl, ?_⟩) ?_
        · (intro w; go_simp; first | done | with_reducible rfl | simp [d_hltG, d_hlt2G] | simp [hltG, hlt2G])
        refine wpAny_take (i := 9) (oi := ⟨some 28, _, _, _, _, _⟩) (v := ?_) rfl (by kernel_rfl) (by kernel_rfl) (by kernel_rfl) (fun _ _ _ h => h) (Or.inl ⟨by kernel_rfl, ?_⟩) ?_
        rotate_left
        · (intro w; go_simp; first | done | with_reducible rfl)
        refine wpAny_take (i := 10) (oi := ⟨some 29, _, _, _, _, _⟩) (v := ?_) rfl (by kernel_rfl) (by kernel_rfl) (by kernel_rfl) (fun _ _ _ h => h) (Or.inl ⟨by kernel_rfl, ?_⟩) ?_
        rotate_left
        · (intro w; go_simp; first | done | with_reducible rfl)
        refine wpAny_take (i := 11) (oi := ⟨some 30, _, _, _, _, _⟩) (v := undef) rfl (by kernel_rfl) (by kernel_rfl) (by kernel_rfl) (fun _ _ _ h => h) (Or.inr ⟨by kernel_rfl, rfl⟩) ?_
        refine wpAny_take (i := 12) (oi := ⟨some 31, _, _, _, _, _⟩) (v := undef) rfl (by kernel_rfl) (by kernel_rfl) (by kernel_rfl) (fun _ _ _ h => h) (Or.inr ⟨by kernel_rfl, rfl⟩) ?_
        refine wpAny_take (i := 13) (oi := ⟨some 32, _, _, _, _, _⟩) (v := undef) rfl (by kernel_rfl) (by kernel_rfl) (by kernel_rfl) (fun _ _ _ h => h) (Or.inr ⟨by kernel_rfl, rfl⟩) ?_
        refine wpAny_take (i := 14) (oi := ⟨some 33, _, _, _, _, _⟩) (v := undef) rfl (by kernel_rfl) (by kernel_rfl) (by kernel_rfl) (fun _ _ _ h => h) (Or.inr ⟨by kernel_rfl, rfl⟩) ?_
        refine wpAny_take (i := 15) (oi := ⟨some 34, _, _, _, _, _⟩) (v := undef) rfl (by kernel_rfl) (by kernel_rfl) (by kernel_rfl) (fun _ _ _ h => h) (Or.inr ⟨by kernel_rfl, rfl⟩) ?_
        refine wpAny_take (i := 16) (oi := ⟨some 35, _, _, _, _, _⟩) (v := undef) rfl (by kernel_rfl) (by kernel_rfl) (by kernel_rfl) (fun _ _ _ h => h) (Or.inr ⟨by kernel_rfl, rfl⟩) ?_
        refine wpAny_take (i := 17) (oi := ⟨some 36, _, _, _, _, _⟩) (v := undef) rfl (by kernel_rfl) (by kernel_rfl) (by kernel_rfl) (fun _ _ _ h => h) (Or.inr ⟨by kernel_rfl, rfl⟩) ?_
        refine wpAny_take (i := 18) (oi := ⟨some 37, _, _, _, _, _⟩) (v := undef) rfl (by kernel_rfl) (by kernel_rfl) (by kernel_rfl) (fun _ _ _ h => h) (Or.inr ⟨by kernel_rfl, rfl⟩) ?_
        refine wpAny_take (i := 19) (oi := ⟨some 38, _, _, _, _, _⟩) (v := undef) rfl (by kernel_rfl) (by kernel_rfl) (by kernel_rfl) (fun _ _ _ h => h) (Or.inr ⟨by kernel_rfl, rfl⟩) ?_
        refine wpAny_take (i := 20) (oi := ⟨some 39, _, _, _, _, _⟩) (v := ?_) rfl (by kernel_rfl) (by kernel_rfl) (by kernel_rfl) (fun _ _ _ h => h) (Or.inl ⟨by kernel_rfl, ?_⟩) ?_
        rotate_left
        · (intro w; go_simp; first | done | with_reducible rfl)
        refine wpAny_done (by kernel_rfl) ?_ _
        dsimp only
        simp only [Exit.then, go_sem, List.setIfInBounds_toArray, List.set_cons_succ, List.set_cons_zero]
        go_wp2_with fail
        go_roundw
        case rel => exact ⟨k + 1, v + 1, by omega, by go_num, rfl, by omega, HN, hq.more _⟩
        case measure => simp [intOf]; omega
    · have hltI : ¬ ((k : Int) < (n : Int)) := by omega
      have d_hltI : decide ((k : Int) < (n : Int)) = false := decide_eq_false (by omega)
      have hltG : (n : Int) ≤ (k : Int) := by omega
      have d_hltG : decide ((n : Int) ≤ (k : Int)) = true := decide_eq_true (by omega)
      by_cases hlt2 : k < n2
      · have hlt2I : (k : Int) < (n2 : Int) := by omega
        have d_hlt2I : decide ((k : Int) < (n2 : Int)) = true := decide_eq_true (by omega)
        have hlt2G : ¬ ((n2 : Int) ≤ (k : Int)) := by omega
        have d_hlt2G : decide ((n2 : Int) ≤ (k : Int)) = false := decide_eq_false (by omega)
        obtain ⟨b2, o2, y, rfl, _, hy, cy0, cy1, cy2⟩ := (h2.q hq).at_Un hlt2
        have HN : Hid (Su.chT l m (k + 1) = v + 1) := Lib.hid (by
          rw [Su.chT_diff (by rw [hy, List.getElem?_eq_none (by have := HL.out; omega)]; intro e; cases e), HV.out])
        clear hy hne
        go_wp2_with fail
        go_quiet (fail)
        go_wp2_with fail
        go_roundw
        case rel => exact ⟨k + 1, v + 1, by omega, by go_num, rfl, by omega, HN, hq.more _⟩
        case measure => simp [intOf]; omega
      · have hlt2I : ¬ ((k : Int) < (n2 : Int)) := by omega
        have d_hlt2I : decide ((k : Int) < (n2 : Int)) = false := decide_eq_false (by omega)
        have HE : Hid (v = R) := Lib.hid (by
          rw [← HR.out, ← HV.out]
          unfold Su.chR
          rw [show max l.length m.length = k from by rw [HL.out, HL2.out]; omega])
        clear hne
        go_wp2_with fail
        go_ret
        exact ⟨ret_i HE.out, hq⟩
set_option maxRecDepth 100000 in
theorem specCcU_any (A A2 : Option Addr) (n c B n2 c2 B2 : Nat) (l m : List Un) (R C : Int) (w : World) (h : RdS Un.S w B A n l) (h2 : RdS Un.S w B2 A2 n2 m) (hn : n ≤ 1048577) (hn2 : n2 ≤ 1048577) (hR : Su.ccR l m = R) (hC : Su.ccC l m = C) :
    Calls Try.prog 33 #[.slice A n c, .slice A2 n2 c2] w fun e w' => e = .returned (.tuple #[.int .i64 R, .int .i64 C]) ∧ Q w w' := by
  obtain ⟨b, hb⟩ : ∃ b, Su.okU l = b := ⟨_, rfl⟩
  obtain ⟨d, hd⟩ : ∃ d, Su.okU m = d := ⟨_, rfl⟩
  have hu := fun W (hW : RdS Un.S W B A n l) => specUn_any A n c B l b W hW hn hb
  have hu2 := fun W (hW : RdS Un.S W B2 A2 n2 m) => specUn_any A2 n2 c2 B2 m d W hW hn2 hd
  unfold Su.ccR at hR
  unfold Su.ccC at hC
  rw [hb, hd] at hR hC
  have HR := Lib.hid hR
  have HC := Lib.hid hC
  clear hR hC hb hd
  go_enter Try.func33, Try.ntmps33
  go_wp2_with fail
  refine (hu _ h).mono ?_
  rintro e w1 ⟨rfl, hq1⟩
  have hr1 := h.q hq1
  have hr2 := h2.q hq1
  cases b
  · go_wp2_with fail
    go_ret2
    exact ⟨ret2U HR.out HC.out, hq1⟩
  · go_wp2_with fail
    refine (hu2 _ hr2).mono ?_
    rintro e w2 ⟨rfl, hq2⟩
    have hr3 := hr1.q hq2
    have hr4 := hr2.q hq2
    have hq := hq1.trans hq2
    cases d
    · go_wp2_with fail
      go_ret2
      exact ⟨ret2U HR.out HC.out, hq⟩
    · have hcg := fun W (hW : RdS Un.S W B A n l) (hW2 : RdS Un.S W B2 A2 n2 m) => specCg_any A A2 n c B n2 c2 B2 l m R W hW hW2 hn hn2 HR.out
      go_wp2_with fail
      refine (hcg _ hr3 hr4).mono ?_
      rintro e w3 ⟨rfl, hq3⟩
      go_wp2_with fail
      go_ret2
      exact ⟨ret2U rfl HC.out, hq.trans hq3⟩
end Go.Proofs.Ytnfnmdeiaihgnaa
