/- Contract of the model's RollBound. -/
import Derived.Test.YtbhkpjjedeinpaaRlPk
namespace Go.Proofs.Ytbhkpjjedeinpaa
open Go.RowKit
set_option linter.unusedVariables false

namespace Rl
def bdC (r : Int) (s : List Int) : Int := if okT r s then 0 else 1
def bdR (r : Int) (s : List Int) : Int := if okT r s then bd r s else 0
theorem long_append (r : Int) (a b : List Int) : long r (a ++ b) = long r a + long r b := by
  induction a with
  | nil => simp [long]
  | cons x a ih => simp only [List.cons_append, long, ih]; omega
theorem long_bd (r : Int) (a : List Int) : 0 ≤ long r a ∧ long r a ≤ (a.length : Int) := by
  induction a with
  | nil => simp [long]
  | cons x a ih =>
    simp only [long, List.length_cons]
    split <;> omega
theorem long_next {r : Int} {s : List Int} {k : Nat} {x : Int} (hx : s[k]? = some x) : long r (s.take (k + 1)) = long r (s.take k) + if r < 2 * x then 1 else 0 := by
  rw [take_nextRl s k x hx, long_append]
  simp [long]
theorem tot_bd {s : List Int} {m : Int} (h : ∀ x ∈ s, 0 ≤ x ∧ x ≤ m) : 0 ≤ tot s ∧ tot s ≤ (s.length : Int) * m := by
  refine ⟨?_, tot_le m s fun x hx => (h x hx).2⟩
  induction s with
  | nil => simp [tot]
  | cons x s ih =>
    have h1 := h x (by simp)
    have h2 := ih fun y hy => h y (by simp [hy])
    simp only [tot]
    omega
theorem tot_next {s : List Int} {k : Nat} {x : Int} (hx : s[k]? = some x) : tot (s.take (k + 1)) = tot (s.take k) + x := by
  rw [take_nextRl s k x hx, tot_append]
  simp [tot]
end Rl
set_option maxRecDepth 100000 in
set_option maxHeartbeats 1000000 in
theorem rlSum_any (A : Option Addr) (n c B : Nat) (s : List Int) (q : Int) (w : World) (h : Rd I w B A n s) (hn : n ≤ 1000) (hs : ∀ x ∈ s, 0 ≤ x ∧ x ≤ 1000000) (hq : Rl.tot s = q) :
    Calls Try.prog 49 #[.slice A n c] w fun e w' => e = .returned (.int .i64 q) ∧ w = w' := by
  have HL : Hid (s.length = n) := h.1
  have HS := Lib.hid hs
  have HQ := Lib.hid hq
  clear hs hq
  go_enter Try.func49, Try.ntmps49
  go_wp2_with fail
  go_loop [3, 4] (fun v i => ∃ (k : Nat) (t : Int), k ≤ n ∧ i = .int .i64 k ∧ v = .int .i64 t ∧ Hid (Rl.tot (s.take k) = t)) (fun _ i => n - (intOf i).toNat)
  case atStart => exact ⟨0, 0, Nat.zero_le _, rfl, rfl, Lib.hid (by simp [Rl.tot])⟩
  case round =>
    obtain ⟨k, t, hk, rfl, rfl, HT⟩ := hrel
    by_cases hlt : k < n
    · obtain ⟨b1, o, x, rfl, hbB, hx, hc⟩ := h.at_ hlt
      have HX := Lib.hid hx
      have hx0 := HS.out x (List.mem_of_getElem? hx)
      have ht : 0 ≤ t ∧ t ≤ 1000000000 := by
        have := Rl.tot_bd (s := s.take k) (m := 1000000) fun y hy => HS.out y (List.mem_of_mem_take hy)
        have hl : (s.take k).length ≤ 1000 := by simp; omega
        rw [HT.out] at this
        have h2 : ((s.take k).length : Int) * 1000000 ≤ 1000 * 1000000 := Int.mul_le_mul_of_nonneg_right (by omega) (by omega)
        omega
      have ex : IntKind.i64.wrap (t + x) = t + x := IntWalk.i64_in _ (by omega)
      clear hx hx0 ht
      go_wp2_with fail
      go_round
      case rel => exact ⟨k + 1, t + x, by omega, by go_num, rfl, Lib.hid (by rw [Rl.tot_next HX.out, HT.out])⟩
      case measure => simp [intOf]; omega
    · obtain rfl : k = n := by omega
      have HE : Hid (t = q) := Lib.hid (by
        rw [← HT.out, ← HQ.out, List.take_of_length_le (by rw [HL.out]; exact Nat.le_refl _)])
      go_wp2_with fail
      go_ret
      exact ⟨by rw [HE.out]; rfl, rfl⟩
set_option maxRecDepth 100000 in
set_option maxHeartbeats 4000000 in
theorem specRlB_any (r : Int) (A : Option Addr) (n c B : Nat) (s : List Int) (R C : Int) (w : World) (h : Rd I w B A n s) (hn : n ≤ 1048576) (hR : Rl.bdR r s = R) (hC : Rl.bdC r s = C) :
    Calls Try.prog 20 #[.int .i64 r, .slice A n c] w fun e w' => e = .returned (.tuple #[.int .i64 R, .int .i64 C]) ∧ w = w' := by
  have HL := Lib.hid h.1
  obtain ⟨d, hd⟩ : ∃ d, Rl.okT r s = d := ⟨_, rfl⟩
  have HD := Lib.hid hd
  have hT := fun W (hW : Rd I W B A n s) => specRlT_any r A n c B s d W hW hn HD.out
  clear hd
  cases d
  · have e1 : R = 0 := by rw [← hR]; unfold Rl.bdR; rw [if_neg (by rw [HD.out]; simp)]
    have e2 : C = 1 := by rw [← hC]; unfold Rl.bdC; rw [if_neg (by rw [HD.out]; simp)]
    subst e1 e2
    clear hR hC
    go_enter Try.func20, Try.ntmps20
    go_wp2_with fail
    refine (hT _ h).mono ?_
    rintro e _ ⟨rfl, rfl⟩
    go_wp2_with fail
    go_ret2
    exact ⟨rfl, rfl⟩
  · have e1 : Rl.bd r s = R := by rw [← hR]; unfold Rl.bdR; rw [if_pos HD.out]
    have e2 : C = 0 := by rw [← hC]; unfold Rl.bdC; rw [if_pos HD.out]
    subst e2
    have HR := Lib.hid e1
    have hok := Rl.okT_iff.1 HD.out
    have HOK := Lib.hid hok
    have hn12 : n ≤ 12 := by have := hok.2.1; rw [HL.out] at this; exact this
    have hr1 := hok.1
    clear hR hC e1 hok
    go_enter Try.func20, Try.ntmps20
    go_wp2_with fail
    refine (hT _ h).mono ?_
    rintro e _ ⟨rfl, rfl⟩
    clear hT
    go_wp2_with fail
    go_loop [6, 7] (fun v i => ∃ (k : Nat) (t : Int), k ≤ n ∧ i = .int .i64 k ∧ v = .int .i64 t ∧ Hid (Rl.long r (s.take k) = t)) (fun _ i => n - (intOf i).toNat)
    case atStart => exact ⟨0, 0, Nat.zero_le _, rfl, rfl, Lib.hid (by simp [Rl.long])⟩
    case round =>
      obtain ⟨k, t, hk, rfl, rfl, HT⟩ := hrel
      have ht : 0 ≤ t ∧ t ≤ 12 := by
        have := Rl.long_bd r (s.take k)
        rw [HT.out] at this
        have hl : (s.take k).length ≤ 12 := by simp; omega
        omega
      by_cases hlt : k < n
      · obtain ⟨b1, o, x, rfl, hbB, hx, hc⟩ := h.at_ hlt
        have HX := Lib.hid hx
        have hx0 := HOK.out.2.2 x (List.mem_of_getElem? hx)
        have em : IntKind.i64.wrap (2 * x) = 2 * x := IntWalk.i64_in _ (by omega)
        have ea : IntKind.i64.wrap (t + 1) = t + 1 := IntWalk.i64_in _ (by omega)
        by_cases hl : r < 2 * x
        · have HT2 : Hid (Rl.long r (s.take (k + 1)) = t + 1) := Lib.hid (by rw [Rl.long_next HX.out, HT.out, if_pos hl])
          clear hx hx0 ht hr1
          go_wp2_with fail
          go_round
          case rel => exact ⟨k + 1, t + 1, by omega, by go_num, rfl, HT2⟩
          case measure => simp [intOf]; omega
        · have HT2 : Hid (Rl.long r (s.take (k + 1)) = t) := Lib.hid (by rw [Rl.long_next HX.out, HT.out, if_neg hl, Int.add_zero])
          clear hx hx0 ht hr1
          go_wp2_with fail
          go_round
          case rel => exact ⟨k + 1, t, by omega, by go_num, rfl, HT2⟩
          case measure => simp [intOf]; omega
      · obtain rfl : k = n := by omega
        have hs0 : ∀ x ∈ s, 0 ≤ x ∧ x ≤ 1000000 := fun x hx => by have := HOK.out.2.2 x hx; omega
        have htot := Rl.tot_bd hs0
        rw [HL.out] at htot
        have htb : 0 ≤ Rl.tot s ∧ Rl.tot s ≤ 12000000 := by
          have h2 : (k : Int) * 1000000 ≤ 12 * 1000000 := Int.mul_le_mul_of_nonneg_right (by omega) (by omega)
          omega
        obtain ⟨q, hq⟩ : ∃ q, Rl.tot s = q := ⟨_, rfl⟩
        rw [hq] at htb
        obtain ⟨u, hu⟩ : ∃ u, (q + r - 1) / r = u := ⟨_, rfl⟩
        have hsum := fun W (hW : Rd I W B A k s) => rlSum_any A k c B s q W hW (by omega) hs0 hq
        have hceil := fun W => l01Ceil_any q r u W htb.1 (by omega) hr1.1 (by omega) hu
        have HM : Hid (max t u = R) := Lib.hid (by
          rw [← HR.out]
          unfold Rl.bd
          have h3 := HT.out
          rw [List.take_of_length_le (by rw [HL.out]; exact Nat.le_refl _)] at h3
          rw [h3, hq, hu])
        clear hs0 htot htb hq hu hr1 ht
        rcases Int.lt_trichotomy t u with hlu | hlu | hlu
        · have HE : Hid (u = R) := Lib.hid (by have := HM.out; omega)
          have g1 : ¬ u < t := by omega
          have g2 : ¬ u ≤ t := by omega
          have g3 : t ≤ u := by omega
          go_wp2_with fail
          refine (hsum _ h).mono ?_
          rintro e _ ⟨rfl, rfl⟩
          go_wp2_with fail
          refine (hceil _).mono ?_
          rintro e _ ⟨rfl, rfl⟩
          go_wp2_with fail
          go_ret2
          exact ⟨by rw [HE.out]; rfl, rfl⟩
        · subst hlu
          have HE : Hid (t = R) := Lib.hid (by have := HM.out; omega)
          go_wp2_with fail
          refine (hsum _ h).mono ?_
          rintro e _ ⟨rfl, rfl⟩
          go_wp2_with fail
          refine (hceil _).mono ?_
          rintro e _ ⟨rfl, rfl⟩
          go_wp2_with fail
          go_ret2
          exact ⟨by rw [HE.out]; rfl, rfl⟩
        · have HE : Hid (t = R) := Lib.hid (by have := HM.out; omega)
          have g1 : ¬ t < u := by omega
          have g2 : ¬ t ≤ u := by omega
          have g3 : u ≤ t := by omega
          go_wp2_with fail
          refine (hsum _ h).mono ?_
          rintro e _ ⟨rfl, rfl⟩
          go_wp2_with fail
          refine (hceil _).mono ?_
          rintro e _ ⟨rfl, rfl⟩
          go_wp2_with fail
          go_ret2
          exact ⟨by rw [HE.out]; rfl, rfl⟩
end Go.Proofs.Ytbhkpjjedeinpaa
