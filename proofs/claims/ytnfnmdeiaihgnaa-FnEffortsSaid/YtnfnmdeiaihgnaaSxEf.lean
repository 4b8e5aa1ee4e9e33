/- The program's contracts of CountChanges, EffortOf and BestJobOrder. -/
import Derived.Test.YtnfnmdeiaihgnaaSxVt
import Derived.Test.YtnfnmdeiaihgnaaSuEo
namespace Go.Proofs.Ytnfnmdeiaihgnaa
open Go.RowKit
set_option linter.unusedVariables false

namespace Su
/-- Behind the shorter set-up each index is a change. -/
theorem chT_tail (a b : List Un) (s : Nat) (hs : min a.length b.length = s) : ∀ d, s + d ≤ max a.length b.length → chT a b (s + d) = chT a b s + d
  | 0, _ => by simp
  | d + 1, h => by
    have ih := chT_tail a b s hs d (by omega)
    rw [show s + (d + 1) = (s + d) + 1 from rfl, chT_diff, ih]
    · omega
    · intro e
      rcases Nat.lt_or_ge a.length b.length with hl | hl
      · rw [List.getElem?_eq_none (show a.length ≤ s + d by omega), List.getElem?_eq_getElem (show s + d < b.length by omega)] at e
        cases e
      · rw [List.getElem?_eq_none (show b.length ≤ s + d by omega), List.getElem?_eq_getElem (show s + d < a.length by omega)] at e
        cases e
theorem chR_min (a b : List Un) (s m : Nat) (hs : min a.length b.length = s) (hm : max a.length b.length = m) : chR a b = chT a b s + ((m : Int) - s) := by
  have := chT_tail a b s hs (m - s) (by omega)
  unfold chR
  rw [hm]
  rw [show s + (m - s) = m from by omega] at this
  omega
theorem oO_first (n : Nat) (h : n ≤ 7) : oO n 0 n = nums n := by
  have : ∀ n, n < 8 → oO n 0 n = nums n := by decide +kernel
  exact this n (by omega)
end Su
set_option maxRecDepth 100000 in
set_option maxHeartbeats 8000000 in
theorem changes_any (A A2 : Option Addr) (n c B n2 c2 B2 : Nat) (l m : List Un) (R : Int) (w : World) (h : RdS Un.S w B A n l) (h2 : RdS Un.S w B2 A2 n2 m) (hn : n ≤ 1048576) (hn2 : n2 ≤ 1048576) (hR : Su.chR l m = R) :
    Calls Try.prog 80 #[.slice A n c, .slice A2 n2 c2] w fun e w' => e = .returned (.int .i64 R) ∧ Q w w' := by
  rcases Nat.lt_trichotomy n2 n with ht | ht | ht
  · have HR : Hid (Su.chT l m n2 + ((n : Int) - n2) = R) := Lib.hid (by rw [← hR]; exact (Su.chR_min l m n2 n (by rw [h.1, h2.1]; omega) (by rw [h.1, h2.1]; omega)).symm)
    have hMb : n ≤ 1048576 := by omega
    have hsM : n2 ≤ n := by omega
    have f1 : n2 < n := by omega
    have f2 : ¬ n < n2 := by omega
    have e2 : IntKind.i64.wrap ((n : Int) - n2) = (n : Int) - n2 := IntWalk.i64_in _ (by omega)
    have hne := neUn
    clear hR
    go_enter Try.func80, Try.ntmps80
    go_wp2_with fail
    go_loopw [6, 21] (fun t i wr => ∃ (k : Nat) (v : Int), k ≤ n2 ∧ i = .int .i64 k ∧ t = .int .i64 (v + ((n : Int) - n2)) ∧ (0 ≤ v ∧ v ≤ k) ∧ Hid (Su.chT l m k = v) ∧ Q w wr) (fun _ i _ => n2 - (intOf i).toNat)
    case atStart => exact ⟨0, 0, Nat.zero_le _, rfl, by simp, by omega, Lib.hid rfl, Q.refl _⟩
    case round =>
      clear f1 f2 e2
      obtain ⟨k, v, hk, rfl, rfl, hv, HV, hq⟩ := hrel
      have e1 : IntKind.i64.wrap (v + ((n : Int) - n2) + 1) = v + 1 + ((n : Int) - n2) := by rw [IntWalk.i64_in _ (by omega)]; omega
      by_cases hlt : k < n2
      · obtain ⟨b1, o1, x, rfl, _, hx, cx0, cx1, cx2⟩ := (h.q hq).at_Un (show k < n by omega)
        obtain ⟨b2, o2, y, rfl, _, hy, cy0, cy1, cy2⟩ := (h2.q hq).at_Un (show k < n2 by omega)
        have hneq := hne x y
        cases he : x.eqv y
        · rw [he] at hneq
          have HN : Hid (Su.chT l m (k + 1) = v + 1) := Lib.hid (by
            rw [Su.chT_diff (by rw [hx, hy]; intro e; injection e with e; rw [(Un.eqv_iff x y).2 e] at he; cases he), HV.out])
          clear hx hy he hne
          go_wp2_with fail
          go_quiet (fail)
          go_wp2_with fail
          go_roundw
          case rel => exact ⟨k + 1, v + 1, by omega, by go_num, (by first | rfl | simp), by omega, HN, hq.more _⟩
          case measure => simp [intOf]; omega
        · rw [he] at hneq
          have HN : Hid (Su.chT l m (k + 1) = v) := Lib.hid (by
            rw [Su.chT_same (by rw [hx, hy, (Un.eqv_iff x y).1 he]), HV.out])
          clear hx hy he hne
          go_wp2_with fail
          go_quiet (fail)
          go_wp2_with fail
          go_roundw
          case rel => exact ⟨k + 1, v, by omega, by go_num, (by first | rfl | simp), by omega, HN, hq.more _⟩
          case measure => simp [intOf]; omega
      · obtain rfl : n2 = k := by omega
        have HE : Hid (v + ((n : Int) - n2) = R) := Lib.hid (by rw [← HR.out, ← HV.out])
        clear hne
        go_wp2_with fail
        go_ret
        exact ⟨ret_i HE.out, hq⟩
  · subst ht
    have HR : Hid (Su.chT l m n2 + ((n2 : Int) - n2) = R) := Lib.hid (by rw [← hR]; exact (Su.chR_min l m n2 n2 (by rw [h.1, h2.1]; omega) (by rw [h.1, h2.1]; omega)).symm)
    have hMb : n2 ≤ 1048576 := by omega
    have hsM : n2 ≤ n2 := by omega
    have f1 : ¬ n2 < n2 := by omega
    have f2 : n2 ≤ n2 := by omega
    have e2 : IntKind.i64.wrap ((n2 : Int) - n2) = (n2 : Int) - n2 := IntWalk.i64_in _ (by omega)
    have hne := neUn
    clear hR
    go_enter Try.func80, Try.ntmps80
    go_wp2_with fail
    go_loopw [6, 21] (fun t i wr => ∃ (k : Nat) (v : Int), k ≤ n2 ∧ i = .int .i64 k ∧ t = .int .i64 (v + ((n2 : Int) - n2)) ∧ (0 ≤ v ∧ v ≤ k) ∧ Hid (Su.chT l m k = v) ∧ Q w wr) (fun _ i _ => n2 - (intOf i).toNat)
    case atStart => exact ⟨0, 0, Nat.zero_le _, rfl, by simp, by omega, Lib.hid rfl, Q.refl _⟩
    case round =>
      clear f1 f2 e2
      obtain ⟨k, v, hk, rfl, rfl, hv, HV, hq⟩ := hrel
      have e1 : IntKind.i64.wrap (v + ((n2 : Int) - n2) + 1) = v + 1 + ((n2 : Int) - n2) := by rw [IntWalk.i64_in _ (by omega)]; omega
      by_cases hlt : k < n2
      · obtain ⟨b1, o1, x, rfl, _, hx, cx0, cx1, cx2⟩ := (h.q hq).at_Un (show k < n2 by omega)
        obtain ⟨b2, o2, y, rfl, _, hy, cy0, cy1, cy2⟩ := (h2.q hq).at_Un (show k < n2 by omega)
        have hneq := hne x y
        cases he : x.eqv y
        · rw [he] at hneq
          have HN : Hid (Su.chT l m (k + 1) = v + 1) := Lib.hid (by
            rw [Su.chT_diff (by rw [hx, hy]; intro e; injection e with e; rw [(Un.eqv_iff x y).2 e] at he; cases he), HV.out])
          clear hx hy he hne
          go_wp2_with fail
          go_quiet (fail)
          go_wp2_with fail
          go_roundw
          case rel => exact ⟨k + 1, v + 1, by omega, by go_num, (by first | rfl | simp), by omega, HN, hq.more _⟩
          case measure => simp [intOf]; omega
        · rw [he] at hneq
          have HN : Hid (Su.chT l m (k + 1) = v) := Lib.hid (by
            rw [Su.chT_same (by rw [hx, hy, (Un.eqv_iff x y).1 he]), HV.out])
          clear hx hy he hne
          go_wp2_with fail
          go_quiet (fail)
          go_wp2_with fail
          go_roundw
          case rel => exact ⟨k + 1, v, by omega, by go_num, (by first | rfl | simp), by omega, HN, hq.more _⟩
          case measure => simp [intOf]; omega
      · obtain rfl : n2 = k := by omega
        have HE : Hid (v + ((n2 : Int) - n2) = R) := Lib.hid (by rw [← HR.out, ← HV.out])
        clear hne
        go_wp2_with fail
        go_ret
        exact ⟨ret_i HE.out, hq⟩
  · have HR : Hid (Su.chT l m n + ((n2 : Int) - n) = R) := Lib.hid (by rw [← hR]; exact (Su.chR_min l m n n2 (by rw [h.1, h2.1]; omega) (by rw [h.1, h2.1]; omega)).symm)
    have hMb : n2 ≤ 1048576 := by omega
    have hsM : n ≤ n2 := by omega
    have f1 : n < n2 := by omega
    have f2 : ¬ n2 < n := by omega
    have e2 : IntKind.i64.wrap ((n2 : Int) - n) = (n2 : Int) - n := IntWalk.i64_in _ (by omega)
    have hne := neUn
    clear hR
    go_enter Try.func80, Try.ntmps80
    go_wp2_with fail
    go_loopw [6, 21] (fun t i wr => ∃ (k : Nat) (v : Int), k ≤ n ∧ i = .int .i64 k ∧ t = .int .i64 (v + ((n2 : Int) - n)) ∧ (0 ≤ v ∧ v ≤ k) ∧ Hid (Su.chT l m k = v) ∧ Q w wr) (fun _ i _ => n - (intOf i).toNat)
    case atStart => exact ⟨0, 0, Nat.zero_le _, rfl, by simp, by omega, Lib.hid rfl, Q.refl _⟩
    case round =>
      clear f1 f2 e2
      obtain ⟨k, v, hk, rfl, rfl, hv, HV, hq⟩ := hrel
      have e1 : IntKind.i64.wrap (v + ((n2 : Int) - n) + 1) = v + 1 + ((n2 : Int) - n) := by rw [IntWalk.i64_in _ (by omega)]; omega
      by_cases hlt : k < n
      · obtain ⟨b1, o1, x, rfl, _, hx, cx0, cx1, cx2⟩ := (h.q hq).at_Un (show k < n by omega)
        obtain ⟨b2, o2, y, rfl, _, hy, cy0, cy1, cy2⟩ := (h2.q hq).at_Un (show k < n2 by omega)
        have hneq := hne x y
        cases he : x.eqv y
        · rw [he] at hneq
          have HN : Hid (Su.chT l m (k + 1) = v + 1) := Lib.hid (by
            rw [Su.chT_diff (by rw [hx, hy]; intro e; injection e with e; rw [(Un.eqv_iff x y).2 e] at he; cases he), HV.out])
          clear hx hy he hne
          go_wp2_with fail
          go_quiet (fail)
          go_wp2_with fail
          go_roundw
          case rel => exact ⟨k + 1, v + 1, by omega, by go_num, (by first | rfl | simp), by omega, HN, hq.more _⟩
          case measure => simp [intOf]; omega
        · rw [he] at hneq
          have HN : Hid (Su.chT l m (k + 1) = v) := Lib.hid (by
            rw [Su.chT_same (by rw [hx, hy, (Un.eqv_iff x y).1 he]), HV.out])
          clear hx hy he hne
          go_wp2_with fail
          go_quiet (fail)
          go_wp2_with fail
          go_roundw
          case rel => exact ⟨k + 1, v, by omega, by go_num, (by first | rfl | simp), by omega, HN, hq.more _⟩
          case measure => simp [intOf]; omega
      · obtain rfl : n = k := by omega
        have HE : Hid (v + ((n2 : Int) - n) = R) := Lib.hid (by rw [← HR.out, ← HV.out])
        clear hne
        go_wp2_with fail
        go_ret
        exact ⟨ret_i HE.out, hq⟩
set_option maxRecDepth 100000 in
theorem implCcU_any (A A2 : Option Addr) (n c B n2 c2 B2 : Nat) (l m : List Un) (R C : Int) (w : World) (h : RdS Un.S w B A n l) (h2 : RdS Un.S w B2 A2 n2 m) (hB : B ≤ w.heap.size) (hB2 : B2 ≤ w.heap.size) (hn : n ≤ 1048576) (hn2 : n2 ≤ 1048576) (hc : n ≤ c) (hc2 : n2 ≤ c2) (hR : Su.ccR l m = R) (hC : Su.ccC l m = C) :
    Calls Try.prog 32 #[.slice A n c, .slice A2 n2 c2] w fun e w' => e = .returned (.tuple #[.int .i64 R, .int .i64 C]) ∧ Below w.heap.size w w' := by
  obtain ⟨b, hb⟩ : ∃ b, (Su.okU l && Su.okU m) = b := ⟨_, rfl⟩
  have hu := areSetups_any (some ⟨w.heap.size, 0, none⟩) 2 2 (w.heap.size + 1) [⟨A, n, c, l⟩, ⟨A2, n2, c2, m⟩] b _ (RdU.lit2 (c := c) (c2 := c2) h h2 hB hB2 hn hn2) (by simp) (by omega) (by rw [Su.allU2]; exact hb)
  have hb0 : Below w.heap.size w (w.alloc (.cells #[.slice A n c, .slice A2 n2 c2] 28)) := (Below.refl _ _).alloc (Nat.le_refl _) _
  unfold Su.ccR at hR
  unfold Su.ccC at hC
  cases b
  · have hno : ¬ (Su.okU l = true ∧ Su.okU m = true) := fun e => by rw [e.1, e.2] at hb; cases hb
    rw [if_neg hno] at hR hC
    subst hR hC
    clear hb hno
    go_enter Try.func32, Try.ntmps32
    go_wp2_with fail
    refine hu.mono ?_
    rintro e w1 ⟨rfl, hb1⟩
    go_wp2_with fail
    go_ret2
    exact ⟨rfl, hb0.trans (hb1.mono (by simp))⟩
  · have hyes : Su.okU l = true ∧ Su.okU m = true := by simpa using hb
    rw [if_pos hyes] at hR hC
    subst hC
    have hcg := fun W (hW : RdS Un.S W B A n l) (hW2 : RdS Un.S W B2 A2 n2 m) => changes_any A A2 n c B n2 c2 B2 l m R W hW hW2 hn hn2 hR
    clear hb hyes hR
    go_enter Try.func32, Try.ntmps32
    go_wp2_with fail
    refine hu.mono ?_
    rintro e w1 ⟨rfl, hb1⟩
    have hb2 := hb0.trans (hb1.mono (by simp))
    have r1 := h.below hb2 hB
    have r2 := h2.below hb2 hB2
    go_wp2_with fail
    refine (hcg _ r1 r2).mono ?_
    rintro e w3 ⟨rfl, hq3⟩
    go_wp2_with fail
    go_ret2
    exact ⟨rfl, hb2.trans (hq3.below _)⟩
set_option maxRecDepth 100000 in
set_option maxHeartbeats 8000000 in
theorem effort_any (A A2 : Option Addr) (n c m c2 B B2 : Nat) (us : List UB) (o : List Int) (w : World) (h : RdU w B A n us) (h2 : Rd I w B2 A2 m o) (hm : m ≤ 64)
    (h6 : ∀ l ∈ Su.lsU us, l.length ≤ 6) (ho : inRange o n) (R : Int) (hR : Su.efR (Su.lsU us) o = R) :
    Calls Try.prog 71 #[.slice A n c, .slice A2 m c2] w fun e w' => e = .returned (.int .i64 R) ∧ Q w w' := by
  have HL := Lib.hid h2.1
  have HU := Lib.hid h.len
  have HR := Lib.hid hR
  have H6 := Lib.hid h6
  have HO := Lib.hid ho
  clear hR h6 ho
  go_enter Try.func71, Try.ntmps71
  go_wp2_with fail
  go_loopw [5, 6, 11] (fun s la i wr => ∃ (k : Nat) (v : Int) (qa : Option Addr) (qn qc : Nat) (ql : List Un), k ≤ m ∧ i = .int .i64 k ∧ s = .int .i64 v ∧ la = .slice qa qn qc ∧ RdS Un.S wr B qa qn ql ∧ qn ≤ 1048576 ∧ Hid (Su.lastU (Su.lsU us) o k = ql) ∧ Hid (Su.efT (Su.lsU us) o k = v) ∧ (0 ≤ v ∧ v ≤ 6 * k) ∧ Q w wr) (fun _ _ i _ => m - (intOf i).toNat)
  case atStart => exact ⟨0, 0, none, 0, 0, [], Nat.zero_le _, rfl, rfl, rfl, RdS.none_, Nat.zero_le _, Lib.hid rfl, Lib.hid rfl, by omega, Q.refl _⟩
  case round =>
    obtain ⟨k, v, qa, qn, qc, ql, hk, rfl, rfl, rfl, hrq, hqn, HA, HV, hv, hq⟩ := hrel
    by_cases hlt : k < m
    · obtain ⟨b1, o1, x, rfl, hbB1, hx, c1⟩ := (h2.q hq).at_ hlt
      obtain ⟨hx0, hx1⟩ := HO.out x (List.mem_of_getElem? hx)
      obtain ⟨y, rfl⟩ := Int.eq_ofNat_of_zero_le hx0
      have hyn : y < n := by omega
      obtain ⟨b2, o2, p, rfl, hbB2, hp, c3, hrp, hpn⟩ := (h.q hq).at_ hyn
      obtain ⟨pa, pn, pc, pl⟩ := p
      dsimp only at c3 hrp hpn
      have HN : Hid (Su.lastU (Su.lsU us) o (k + 1) = pl) := Lib.hid (Su.lastU_next hx (Su.lsU_at hp))
      obtain ⟨r, hr⟩ : ∃ r, Su.chR ql pl = r := ⟨_, rfl⟩
      have HW : Hid (Su.efT (Su.lsU us) o (k + 1) = v + r) := Lib.hid (by
        show Su.efT (Su.lsU us) o k + Su.chR (Su.lastU (Su.lsU us) o k) (Su.lastU (Su.lsU us) o (k + 1)) = _
        rw [HV.out, HA.out, HN.out, hr])
      have hbd := Su.efT_bd H6.out o (k + 1)
      rw [HW.out] at hbd
      have e1 : IntKind.i64.wrap (v + r) = v + r := IntWalk.i64_in _ (by omega)
      have hcg := fun W (hW : RdS Un.S W B qa qn ql) (hW2 : RdS Un.S W B pa pn pl) => changes_any qa pa qn qc B pn pc B ql pl r W hW hW2 (by omega) (by omega) hr
      have HX := Lib.hid hx
      have HP := Lib.hid hp
      clear hx hp hr
      go_wp2_with fail
      refine (hcg _ hrq hrp).mono ?_
      rintro e w1 ⟨rfl, hq1⟩
      have d1 : w1.cell? ⟨b1, o1 + k, none⟩ = some (.int .i64 (y : Int)) := by obtain ⟨m_, rfl⟩ := hq1; exact c1
      have d3 : w1.cell? ⟨b2, o2 + y, none⟩ = some (.slice pa pn pc) := by obtain ⟨m_, rfl⟩ := hq1; exact c3
      have hrp3 := hrp.q hq1
      have hq2 := hq.trans hq1
      clear c1 c3 hrq hrp hcg hq1
      go_wp2_with fail
      go_roundw
      case rel => exact ⟨k + 1, v + r, pa, pn, pc, pl, by omega, by go_num, by go_num, rfl, hrp3, hpn, HN, HW, by omega, hq2⟩
      case measure => simp [intOf]; omega
    · obtain rfl : k = m := by omega
      have HE : Hid (v = R) := Lib.hid (by rw [← HR.out, ← HV.out]; unfold Su.efR; rw [HL.out])
      go_wp2_with fail
      go_ret
      exact ⟨ret_i HE.out, hq⟩
set_option maxRecDepth 100000 in
set_option maxHeartbeats 8000000 in
theorem implEo_any (A A2 : Option Addr) (n c m c2 B B2 : Nat) (us : List UB) (o : List Int) (w : World) (h : RdU w B A n us) (h2 : Rd I w B2 A2 m o) (hB : B ≤ w.heap.size) (hB2 : B2 ≤ w.heap.size) (hn : n ≤ 1048576) (hm : m ≤ 1048576) (hc2 : m ≤ c2)
    (R C : Int) (hR : Su.jfR (Su.lsU us) o = R) (hC : Su.jfC (Su.lsU us) o = C) :
    Calls Try.prog 27 #[.slice A n c, .slice A2 m c2] w fun e w' => e = .returned (.tuple #[.int .i64 R, .int .i64 C]) ∧ Below w.heap.size w w' := by
  obtain ⟨C1, hC1⟩ : ∃ C1, Su.jbC (Su.lsU us) = C1 := ⟨_, rfl⟩
  have hj := checkSetups_any A n c B us C1 w h hB hn hC1
  have HLo := Lib.hid h2.1
  have HLu := Lib.hid h.len
  by_cases hz : C1 = 0
  · subst hz
    obtain ⟨h7, h6⟩ := Su.jbC0 hC1
    rw [Su.lsU_len, HLu.out] at h7
    have H6 := Lib.hid h6
    by_cases hmn : m = n
    · subst hmn
      have hmm : ((m : Int) != (m : Int)) = false := by simp
      obtain ⟨b, hb⟩ : ∃ b, isOrdB o = b := ⟨_, rfl⟩
      have ho := fun W (hW : Rd I W B2 A2 m o) (hs : B2 ≤ W.heap.size) => IsOrder_any A2 m c2 B2 o W hW hs hm
      rw [hb] at ho
      cases b
      · have hno : ¬ isOrd o := of_decide_eq_false hb
        obtain ⟨e1, e2⟩ := Su.jf_no hC1 (fun h => hno h.1)
        rw [e1] at hC
        rw [e2] at hR
        subst hC
        have HR := Lib.hid hR
        clear hR e1 e2 hC1 hb hno h6
        go_enter Try.func27, Try.ntmps27
        go_wp2_with fail
        refine hj.mono ?_
        rintro e w1 ⟨rfl, hb1⟩
        have hr1 := h2.below hb1 hB2
        go_wp2_with fail
        refine (ho _ hr1 (by have := hb1.size; omega)).mono ?_
        rintro e w2 ⟨rfl, hb2⟩
        go_wp2_with fail
        go_ret2
        exact ⟨ret2J HR.out rfl, hb1.trans (hb2.mono hb1.size)⟩
      · have hyes : isOrd o := of_decide_eq_true hb
        obtain ⟨e1, e2⟩ := Su.jf_yes hC1 ⟨hyes, by rw [Su.lsU_len, HLo.out, HLu.out]⟩
        rw [e1] at hC
        rw [e2] at hR
        subst hC
        have hrange : inRange o m := by have := hyes.2.1; rwa [HLo.out] at this
        have he := fun W (hW : RdU W B A m us) (hW2 : Rd I W B2 A2 m o) => effort_any A A2 m c m c2 B B2 us o W hW hW2 (by omega) H6.out hrange R hR
        clear hR e1 e2 hC1 hb hyes h6 hrange
        go_enter Try.func27, Try.ntmps27
        go_wp2_with fail
        refine hj.mono ?_
        rintro e w1 ⟨rfl, hb1⟩
        have hr1 := h2.below hb1 hB2
        go_wp2_with fail
        refine (ho _ hr1 (by have := hb1.size; omega)).mono ?_
        rintro e w2 ⟨rfl, hb2_⟩
        have hb2 := hb1.trans (hb2_.mono hb1.size)
        have g1 := h.below hb2 hB
        have g2 := h2.below hb2 hB2
        go_wp2_with fail
        refine (he _ g1 g2).mono ?_
        rintro e w3 ⟨rfl, hq3⟩
        go_wp2_with fail
        go_ret2
        exact ⟨rfl, hb2.trans (hq3.below _)⟩
    · have hne : ¬ (isOrd o ∧ o.length = (Su.lsU us).length) := fun h => hmn (by have := h.2; rw [Su.lsU_len, HLo.out, HLu.out] at this; exact this)
      obtain ⟨e1, e2⟩ := Su.jf_no hC1 hne
      rw [e1] at hC
      rw [e2] at hR
      subst hC
      have HR := Lib.hid hR
      have hmm : ((m : Int) != (n : Int)) = true := by simp; omega
      have hmi : ¬ ((m : Int) = (n : Int)) := by omega
      clear hR e1 e2 hC1 h6 hne
      go_enter Try.func27, Try.ntmps27
      go_wp2_with fail
      refine hj.mono ?_
      rintro e w1 ⟨rfl, hb1⟩
      go_wp2_with fail
      go_ret2
      exact ⟨ret2J HR.out rfl, hb1⟩
  · have hzB : (C1 == 0) = false := by simpa using hz
    have hzN : (C1 != 0) = true := by simpa using hz
    obtain ⟨e1, e2⟩ := Su.jf_bad (o := o) hC1 hz
    rw [e1] at hC
    rw [e2] at hR
    subst hC
    have HR := Lib.hid hR
    clear hR e1 e2 hC1
    go_enter Try.func27, Try.ntmps27
    go_wp2_with fail
    refine hj.mono ?_
    rintro e w1 ⟨rfl, hb1⟩
    go_wp2_with fail
    go_ret2
    exact ⟨ret2J HR.out rfl, hb1⟩
set_option maxRecDepth 100000 in
set_option maxHeartbeats 8000000 in
theorem implBj_any (A : Option Addr) (n c B : Nat) (us : List UB) (w : World) (h : RdU w B A n us) (hB : B ≤ w.heap.size) (hn : n ≤ 1048576) (C : Int) (hC : Su.jbC (Su.lsU us) = C) :
    Calls Try.prog 29 #[.slice A n c] w fun e w' => BjC w (Su.lsU us) C e w' := by
  have hj := checkSetups_any A n c B us C w h hB hn hC
  have HLu := Lib.hid h.len
  by_cases hz : C = 0
  · subst hz
    obtain ⟨h7, h6⟩ := Su.jbC0 hC
    rw [Su.lsU_len, HLu.out] at h7
    have H6 := Lib.hid h6
    have hfb := fac_bd n (by omega)
    obtain ⟨F, hF⟩ : ∃ F : Nat, (F : Int) = fac n := ⟨(fac n).toNat, Int.toNat_of_nonneg (by omega)⟩
    have hf := implFac_any n
    rw [← hF] at hf hfb
    have HF := Lib.hid hF
    have HLL : Hid ((Su.lsU us).length = n) := Lib.hid (by rw [Su.lsU_len, HLu.out])
    have HNN : Hid (∀ q, 0 ≤ Su.bjE (Su.lsU us) q) := Lib.hid fun q => (Su.efT_bd H6.out _ _).1
    have H0 := Su.oO_first n h7
    obtain ⟨v0, hv0⟩ : ∃ v0, Su.efR (Su.lsU us) (nums n) = v0 := ⟨_, rfl⟩
    have hbd0 := Su.efT_bd H6.out (nums n) (nums n).length
    rw [show Su.efT (Su.lsU us) (nums n) (nums n).length = v0 from hv0, nums_len] at hbd0
    have HK1 : Hid (Su.BjK (Su.lsU us) 1 (nums n) v0) := Lib.hid (by
      have := (Su.BjK.zero (Su.lsU us)).take HNN.out (.inl (by omega))
      have e2 : Su.bjE (Su.lsU us) 0 = v0 := by unfold Su.bjE; rw [HLL.out]; rw [show ((0 : Nat) : Int) = 0 from rfl, H0]; exact hv0
      rw [e2, HLL.out, show ((0 : Nat) : Int) = 0 from rfl, H0] at this
      exact this)
    have hr0 : inRange (nums n) n := by
      have := oO_ord n (by omega) 0 (by omega) (by have := HF.out; omega)
      rw [H0] at this
      have h3 := this.1.2.1
      rwa [this.2] at h3
    have heff0 := fun W (Aq : Option Addr) (cq Bq : Nat) (hW : RdU W B A n us) (hW2 : Rd I W Bq Aq n (nums n)) => effort_any A Aq n c n cq B Bq us (nums n) W hW hW2 (by omega) H6.out hr0 v0 hv0
    clear hC h6 hF hv0 H0 hr0
    go_enter Try.func29, Try.ntmps29
    go_wp2_with fail
    refine hj.mono ?_
    rintro e w1 ⟨rfl, hb1⟩
    have hs1 := hb1.size
    go_wp2_with fail
    refine (firstNumbers_any n _ (by omega)).mono ?_
    rintro e w2 ⟨g2, rfl, ho2, hb2⟩
    have hs2 := hb2.size
    have hb3 := hb1.trans (hb2.mono hs1)
    have hu3 := h.below hb3 hB
    go_wp2_with fail
    refine (heff0 _ _ _ _ hu3 ho2.rd).mono ?_
    rintro e w3 ⟨rfl, hq3⟩
    have hs3 := hq3.size
    have hb4 := hb3.trans (hq3.below _)
    have ho4 := (ho2.q hq3).mono (lo' := w.heap.size) (hi' := w3.heap.size) (by omega) (by omega)
    clear hb1 hb2 hb3 hu3 heff0 hq3 ho2 hj
    go_wp2_with fail
    go_loopw [7, 8, 9, 10, 11, 12] (fun bs ef r _ _ _ wr => ∃ (k : Nat) (A5 : Option Addr) (m5 c5 : Nat) (o : List Int) (v : Int), (1 ≤ k ∧ k ≤ F) ∧ r = .int .i64 k ∧ bs = .slice A5 m5 c5 ∧ ef = .int .i64 v ∧ Own I wr w.heap.size wr.heap.size 2 (.slice A5 m5 c5) o ∧ m5 ≤ 1048576 ∧ Hid (Su.BjK (Su.lsU us) k o v) ∧ (0 ≤ v ∧ v ≤ 42) ∧ Below w.heap.size w wr ∧ w.heap.size ≤ wr.heap.size) (fun _ _ r _ _ _ _ => F - (intOf r).toNat)
    case atStart => exact ⟨1, _, n, _, nums n, v0, by omega, rfl, rfl, rfl, ho4, by omega, HK1, by omega, hb4, by omega⟩
    case round =>
      clear hb4 ho4 hs1 hs2 hs3 HK1
      obtain ⟨k, A5, m5, c5, o, v, hk, rfl, rfl, rfl, ho, hm5, HK, hv, hb, hsz⟩ := hrel
      by_cases hlt : k < F
      · have hltI : (k : Int) < (F : Int) := by omega
        have hork : orkOk n k := ⟨by omega, by omega, by have := HF.out; simp; omega⟩
        have hR : orkR n k = oO n k n := by unfold orkR; rw [if_pos hork]; exact rfl
        have hC0 : orkC n k = 0 := by unfold orkC; rw [if_pos hork]
        have hok := fun W => implOrk_any n k W (by omega) (by omega)
        rw [hR, hC0] at hok
        have hoo := oO_ord n (by omega) k (by omega) (by have := HF.out; omega)
        have hrange : inRange (oO n k n) n := by have := hoo.1.2.1; rwa [hoo.2] at this
        obtain ⟨v2, hv2⟩ : ∃ v2, Su.bjE (Su.lsU us) k = v2 := ⟨_, rfl⟩
        have hef : Su.efR (Su.lsU us) (oO n k n) = v2 := by rw [← hv2]; unfold Su.bjE; rw [HLL.out]
        have hbd := Su.efT_bd H6.out (oO n k n) (oO n k n).length
        rw [show Su.efT (Su.lsU us) (oO n k n) (oO n k n).length = v2 from hef, hoo.2] at hbd
        have HRG := Lib.hid hrange
        have HEF := Lib.hid hef
        have HV2 := Lib.hid hv2
        clear hork hR hC0 hoo hrange hef hv2
        go_wp2_with fail
        refine (hf _ (by omega)).mono ?_
        rintro e _ ⟨rfl, rfl⟩
        go_wp2_with fail
        refine (hok _).mono ?_
        rintro e w3 ⟨A6, m6, c6, rfl, ho6, hm6, hb6⟩
        have hs6 := hb6.size
        have hL6 : m6 ≤ 64 := by have h1 := ho6.rd.1; have h2 := (oO_ord n (by omega) k (by omega) (by have := HF.out; omega)).2; omega
        have ho5 := ho.below hb6 (Nat.le_refl _)
        have hb5 := hb.trans (hb6.mono hsz)
        have hu5 := h.below hb5 hB
        have heff := effort_any A A6 n c m6 c6 B w3.heap.size us (oO n k n) w3 hu5 ho6.rd hL6 H6.out HRG.out v2 HEF.out
        clear ho hb hb6 hok
        go_wp2_with fail
        refine heff.mono ?_
        rintro e w4 ⟨rfl, hq7⟩
        have hs7 := hq7.size
        have ho7 := (ho6.q hq7).mono (lo' := w.heap.size) (hi' := w4.heap.size) (by omega) (by omega)
        have ho8 := (ho5.q hq7).mono (lo' := w.heap.size) (hi' := w4.heap.size) (Nat.le_refl _) (by omega)
        have hb8 := hb5.trans (hq7.below _)
        clear ho5 ho6 hb5 hu5 heff hq7
        by_cases hv3 : v2 < v
        · have HN : Hid (Su.BjK (Su.lsU us) (k + 1) (oO n k n) v2) := Lib.hid (by have := HK.out.take HNN.out (.inr (by rw [HV2.out]; exact hv3)); rwa [HLL.out, HV2.out] at this)
          go_wp2_with fail
          go_roundw
          case rel => exact ⟨k + 1, A6, m6, c6, oO n k n, v2, by omega, by go_num, rfl, rfl, ho7, by omega, HN, by omega, hb8, by omega⟩
          case measure => simp [intOf]; omega
        · have HN : Hid (Su.BjK (Su.lsU us) (k + 1) o v) := Lib.hid (HK.out.skip (by omega) (by rw [HV2.out]; exact hv3))
          go_wp2_with fail
          go_roundw
          case rel => exact ⟨k + 1, A5, m5, c5, o, v, by omega, by go_num, rfl, rfl, ho8, hm5, HN, hv, hb8, by omega⟩
          case measure => simp [intOf]; omega
      · obtain rfl : k = F := by omega
        go_wp2_with fail
        refine (hf _ (by omega)).mono ?_
        rintro e _ ⟨rfl, rfl⟩
        go_wp2_with fail
        go_ret3
        exact ⟨A5, m5, c5, o, v, rfl, ho, hm5, fun _ => HK.out.all (by rw [HLL.out]; exact HF.out) (by omega), fun h => absurd rfl h, hb⟩
  · have hzN : (C != 0) = true := by simpa using hz
    have HZ := Lib.hid hz
    clear hC
    go_enter Try.func29, Try.ntmps29
    go_wp2_with fail
    refine hj.mono ?_
    rintro e w1 ⟨rfl, hb1⟩
    go_wp2_with fail
    go_ret3
    exact ⟨none, 0, 0, [], 0, rfl, Own.nil_, by omega, fun h => absurd h HZ.out, fun _ => ⟨rfl, rfl⟩, hb1⟩
end Go.Proofs.Ytnfnmdeiaihgnaa
