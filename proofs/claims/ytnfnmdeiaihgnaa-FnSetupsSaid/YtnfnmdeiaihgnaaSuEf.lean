/- Contracts of the model's l13Setups, l13Effort, EffortOf: rows of set-ups that are read. -/
import Derived.Test.YtnfnmdeiaihgnaaSuCg
namespace Go.Proofs.Ytnfnmdeiaihgnaa
open Go.RowKit
set_option linter.unusedVariables false

/-- A set-up among several: its slice and what it holds. -/
structure UB where
  a : Option Addr
  n : Nat
  c : Nat
  l : List Un
abbrev UB.v (h : UB) : Value := .slice h.a h.n h.c
/-- Several set-ups that are read. -/
def RdU (w : World) (B : Nat) (A : Option Addr) (n : Nat) (us : List UB) : Prop := Rd UB.v w B A n us ∧ ∀ q ∈ us, RdS Un.S w B q.a q.n q.l ∧ q.n ≤ 1048576
theorem RdU.q {w w' : World} {B n : Nat} {A : Option Addr} {us : List UB} (h : RdU w B A n us) (hq : Q w w') : RdU w' B A n us := ⟨h.1.q hq, fun q hm => ⟨(h.2 q hm).1.q hq, (h.2 q hm).2⟩⟩
theorem RdU.below {w w' : World} {B B' n : Nat} {A : Option Addr} {us : List UB} (h : RdU w B A n us) (hb : Below B' w w') (hB : B ≤ B') : RdU w' B A n us := ⟨h.1.below hb hB, fun q hm => ⟨(h.2 q hm).1.below hb hB, (h.2 q hm).2⟩⟩
theorem RdU.len {w : World} {B n : Nat} {A : Option Addr} {us : List UB} (h : RdU w B A n us) : us.length = n := h.1.1
theorem RdU.at_ {w : World} {B n k : Nat} {A : Option Addr} {us : List UB} (h : RdU w B A n us) (hk : k < n) : ∃ b o q, A = some ⟨b, o, none⟩ ∧ b < B ∧ us[k]? = some q ∧ w.cell? ⟨b, o + k, none⟩ = some (.slice q.a q.n q.c) ∧ RdS Un.S w B q.a q.n q.l ∧ q.n ≤ 1048576 := by
  obtain ⟨b, o, q, e, hb, hq, hc⟩ := h.1.at_ hk
  have h2 := h.2 q (List.mem_of_getElem? hq)
  exact ⟨b, o, q, e, hb, hq, hc, h2.1, h2.2⟩
namespace Su
def lsU (us : List UB) : List (List Un) := us.map UB.l
theorem lsU_len (us : List UB) : (lsU us).length = us.length := by simp [lsU]
theorem lsU_at {us : List UB} {k : Nat} {q : UB} (h : us[k]? = some q) : (lsU us)[k]? = some q.l := by simp [lsU, h]
theorem jbC_bad {ls : List (List Un)} {k : Nat} {l : List Un} (h : ls[k]? = some l) (hb : okU l = false) : jbC ls = 1 := by
  unfold jbC
  rw [if_neg]
  intro hall
  rw [List.all_eq_true.1 hall l (List.mem_of_getElem? h)] at hb
  cases hb
theorem jbC_ok {ls : List (List Un)} (h : ∀ j l, j < ls.length → ls[j]? = some l → okU l = true) : jbC ls = if ls.length ≤ 7 then 0 else 2 := by
  unfold jbC
  rw [if_pos]
  rw [List.all_eq_true]
  intro l hl
  obtain ⟨j, hj, e⟩ := List.getElem_of_mem hl
  exact h j l hj (by rw [List.getElem?_eq_getElem hj, e])
end Su
set_option maxRecDepth 100000 in
set_option maxHeartbeats 4000000 in
theorem specJb_any (A : Option Addr) (n c B : Nat) (us : List UB) (C : Int) (w : World) (h : RdU w B A n us) (hn : n ≤ 1048576) (hC : Su.jbC (Su.lsU us) = C) :
    Calls Try.prog 72 #[.slice A n c] w fun e w' => e = .returned (.int .i64 C) ∧ Q w w' := by
  have HL := Lib.hid h.len
  have HC := Lib.hid hC
  clear hC
  go_enter Try.func72, Try.ntmps72
  go_wp2_with fail
  go_loopw [3] (fun i wr => ∃ k : Nat, k ≤ n ∧ i = .int .i64 k ∧ Hid (∀ j l, j < k → (Su.lsU us)[j]? = some l → Su.okU l = true) ∧ Q w wr) (fun i _ => n - (intOf i).toNat)
  case atStart => exact ⟨0, Nat.zero_le _, rfl, Lib.hid (by intro j y h; omega), Q.refl _⟩
  case round =>
    obtain ⟨k, hk, rfl, HK, hq⟩ := hrel
    by_cases hlt : k < n
    · obtain ⟨b1, o, q, rfl, hbB, hx, c0, hr, hqn⟩ := (h.q hq).at_ hlt
      have HX := Lib.hid (Su.lsU_at hx)
      clear hx
      obtain ⟨b, hb⟩ : ∃ b, Su.okU q.l = b := ⟨_, rfl⟩
      have hu := fun W (hW : RdS Un.S W B q.a q.n q.l) => specUn_any q.a q.n q.c B q.l b W hW (by omega) hb
      cases b
      · have HE : Hid (C = 1) := Lib.hid (by rw [← HC.out]; exact Su.jbC_bad HX.out hb)
        clear hb
        go_wp2_with fail
        refine (hu _ hr).mono ?_
        rintro e w1 ⟨rfl, hq1⟩
        go_wp2_with fail
        go_ret
        exact ⟨ret_i HE.out.symm, hq.trans hq1⟩
      · have HN : Hid (∀ j l, j < k + 1 → (Su.lsU us)[j]? = some l → Su.okU l = true) := Lib.hid fun j l hj hl => by
          by_cases he : j = k
          · subst he
            have := HX.out.symm.trans hl
            injection this with this
            rw [← this]
            exact hb
          · exact HK.out j l (by omega) hl
        clear hb
        go_wp2_with fail
        refine (hu _ hr).mono ?_
        rintro e w1 ⟨rfl, hq1⟩
        go_wp2_with fail
        go_roundw
        case rel => exact ⟨k + 1, by omega, by go_num, HN, hq.trans hq1⟩
        case measure => simp [intOf]; omega
    · obtain rfl : k = n := by omega
      have hc := Su.jbC_ok (ls := Su.lsU us) (by rw [Su.lsU_len, HL.out]; exact HK.out)
      rw [Su.lsU_len, HL.out, HC.out] at hc
      by_cases h7 : k ≤ 7
      · have HE : Hid (C = 0) := Lib.hid (by rw [hc, if_pos h7])
        have h7g : ¬ (7 : Int) < (k : Int) := by omega
        clear hc
        go_wp2_with fail
        go_ret
        exact ⟨ret_i HE.out.symm, hq⟩
      · have HE : Hid (C = 2) := Lib.hid (by rw [hc, if_neg h7])
        have h7g : (7 : Int) < (k : Int) := by omega
        clear hc
        go_wp2_with fail
        go_ret
        exact ⟨ret_i HE.out.symm, hq⟩
set_option maxRecDepth 100000 in
set_option maxHeartbeats 8000000 in
theorem specEf_any (A A2 : Option Addr) (n c m c2 B B2 : Nat) (us : List UB) (o : List Int) (w : World) (h : RdU w B A n us) (h2 : Rd I w B2 A2 m o) (hB : B ≤ w.heap.size) (hB2 : B2 ≤ w.heap.size) (hm : m ≤ 64)
    (h6 : ∀ l ∈ Su.lsU us, l.length ≤ 6) (ho : inRange o n) (R : Int) (hR : Su.efR (Su.lsU us) o = R) :
    Calls Try.prog 74 #[.slice A n c, .slice A2 m c2] w fun e w' => e = .returned (.int .i64 R) ∧ Below w.heap.size w w' := by
  have HL := Lib.hid h2.1
  have HU := Lib.hid h.len
  have HR := Lib.hid hR
  have H6 := Lib.hid h6
  have HO := Lib.hid ho
  have hb0 : Below w.heap.size w (w.alloc (.cells #[] 83)) := (Below.refl _ _).alloc (Nat.le_refl _) _
  have hz0 : (w.alloc (.cells #[] 83)).heap.size = w.heap.size + 1 := by simp
  clear hR h6 ho
  go_enter Try.func74, Try.ntmps74
  go_wp2_with fail
  go_loopw [5, 6, 7] (fun s la i wr => ∃ (k : Nat) (v : Int) (q : UB), k ≤ m ∧ i = .int .i64 k ∧ s = .int .i64 v ∧ la = .slice q.a q.n q.c ∧ RdS Un.S wr (w.heap.size + 1) q.a q.n q.l ∧ q.n ≤ 1048576 ∧ Hid (Su.lastU (Su.lsU us) o k = q.l) ∧ Hid (Su.efT (Su.lsU us) o k = v) ∧ (0 ≤ v ∧ v ≤ 6 * k) ∧ Below w.heap.size w wr ∧ w.heap.size + 1 ≤ wr.heap.size) (fun _ _ i _ => m - (intOf i).toNat)
  case atStart => exact ⟨0, 0, ⟨some ⟨w.heap.size, 0, none⟩, 0, 0, []⟩, Nat.zero_le _, rfl, rfl, rfl, ⟨rfl, fun h => absurd h (Nat.lt_irrefl 0)⟩, Nat.zero_le _, Lib.hid rfl, Lib.hid rfl, by omega, hb0, by omega⟩
  case round =>
    clear hb0 hz0
    obtain ⟨k, v, q, hk, rfl, rfl, rfl, hrq, hqn, HA, HV, hv, hb, hsz⟩ := hrel
    by_cases hlt : k < m
    · obtain ⟨b1, o1, x, rfl, hbB1, hx, c1⟩ := (h2.below hb hB2).at_ hlt
      obtain ⟨hx0, hx1⟩ := HO.out x (List.mem_of_getElem? hx)
      obtain ⟨y, rfl⟩ := Int.eq_ofNat_of_zero_le hx0
      have hyn : y < n := by omega
      obtain ⟨b2, o2, p, rfl, hbB2, hp, c3, hrp, hpn⟩ := (h.below hb hB).at_ hyn
      have HN : Hid (Su.lastU (Su.lsU us) o (k + 1) = p.l) := Lib.hid (Su.lastU_next hx (Su.lsU_at hp))
      obtain ⟨r, hr⟩ : ∃ r, Su.chR q.l p.l = r := ⟨_, rfl⟩
      have HW : Hid (Su.efT (Su.lsU us) o (k + 1) = v + r) := Lib.hid (by
        show Su.efT (Su.lsU us) o k + Su.chR (Su.lastU (Su.lsU us) o k) (Su.lastU (Su.lsU us) o (k + 1)) = _
        rw [HV.out, HA.out, HN.out, hr])
      have hbd := Su.efT_bd H6.out o (k + 1)
      rw [HW.out] at hbd
      have e1 : IntKind.i64.wrap (v + r) = v + r := IntWalk.i64_in _ (by omega)
      have hcg := fun W (hW : RdS Un.S W (w.heap.size + 1) q.a q.n q.l) (hW2 : RdS Un.S W (w.heap.size + 1) p.a p.n p.l) => specCg_any q.a p.a q.n q.c (w.heap.size + 1) p.n p.c (w.heap.size + 1) q.l p.l r W hW hW2 (by omega) (by omega) hr
      have hrp2 := hrp.more (show B ≤ w.heap.size + 1 by omega)
      have HX := Lib.hid hx
      have HP := Lib.hid hp
      clear hx hp hr hrp
      go_wp2_with fail
      refine (hcg _ hrq hrp2).mono ?_
      rintro e w1 ⟨rfl, hq1⟩
      have hb1 := hb.trans (hq1.below _)
      have hs1 := hq1.size
      have c1' := c1
      have d1 : w1.cell? ⟨b1, o1 + k, none⟩ = some (.int .i64 (y : Int)) := by obtain ⟨m_, rfl⟩ := hq1; exact c1
      have d3 : w1.cell? ⟨b2, o2 + y, none⟩ = some (.slice p.a p.n p.c) := by obtain ⟨m_, rfl⟩ := hq1; exact c3
      have hrp3 := hrp2.q hq1
      clear c1 c1' c3 hrq hrp2 hcg hb hq1
      go_wp2_with fail
      go_roundw
      case rel => exact ⟨k + 1, v + r, p, by omega, by go_num, by go_num, rfl, hrp3, hpn, HN, HW, by omega, hb1, by omega⟩
      case measure => simp [intOf]; omega
    · obtain rfl : k = m := by omega
      have HE : Hid (v = R) := Lib.hid (by rw [← HR.out, ← HV.out]; unfold Su.efR; rw [HL.out])
      go_wp2_with fail
      go_ret
      exact ⟨ret_i HE.out, hb⟩
end Go.Proofs.Ytnfnmdeiaihgnaa
