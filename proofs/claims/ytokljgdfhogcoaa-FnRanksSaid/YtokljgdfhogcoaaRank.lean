/- Contracts of the factorials and of RankOrder, the model's and the program's: both answer rankR and rankC. -/
import Derived.Test.YtokljgdfhogcoaaCom
namespace Go.Proofs.Ytokljgdfhogcoaa
open Go.RowKit

def fac : Nat → Int
  | 0 => 1
  | k + 1 => fac k * ((k : Int) + 1)
theorem fac_bd (k : Nat) (h : k ≤ 12) : 1 ≤ fac k ∧ fac k ≤ 479001600 := by
  have : ∀ k, k < 13 → 1 ≤ fac k ∧ fac k ≤ 479001600 := by decide
  exact this k (by omega)

set_option maxHeartbeats 400000 in
theorem specFac_any (n : Nat) (w : World) (hn : n ≤ 12) :
    Calls Try.prog 46 #[.int .i64 n] w fun e w' => e = .returned (.int .i64 (fac n)) ∧ w = w' := by
  by_cases h2 : n < 2
  · have HF : Hid (fac n = 1) := by
      match n, h2 with
      | 0, _ => exact (rfl : fac 0 = 1)
      | 1, _ => exact (rfl : fac 1 = 1)
    go_enter Try.func46, Try.ntmps46
    go_wp2
    refine wp_loop_rounds 1 ?_
    rw [rounds_succ]
    go_wp2
    go_ret
    exact ⟨ret_i HF.out.symm, rfl⟩
  · have h2' : 2 ≤ n := by omega
    go_enter Try.func46, Try.ntmps46
    go_wp2
    go_loop [3, 4] (fun o i => ∃ m : Nat, 1 ≤ m ∧ m ≤ n ∧ i = .int .i64 ((m : Int) + 1) ∧ o = .int .i64 (fac m)) (fun _ i => n + 1 - (intOf i).toNat)
    case atStart => exact ⟨1, by omega, by omega, rfl, rfl⟩
    case round =>
      obtain ⟨m, hm1, hm2, rfl, rfl⟩ := hrel
      by_cases hlt : m < n
      · have hf := fac_bd (m + 1) (by omega)
        have hs : fac (m + 1) = fac m * ((m : Int) + 1) := rfl
        have h1 : 1 ≤ fac m * ((m : Int) + 1) := by rw [← hs]; exact hf.1
        have h3 : fac m * ((m : Int) + 1) ≤ 479001600 := by rw [← hs]; exact hf.2
        clear hs hf
        go_wp2
        go_round
        case rel => exact ⟨m + 1, by omega, by omega, by go_num, rfl⟩
        case measure => simp [intOf]; omega
      · obtain rfl : m = n := by omega
        go_wp2
        go_ret
        exact ⟨rfl, rfl⟩

set_option maxHeartbeats 400000 in
theorem implFac_any (n : Nat) (w : World) (hn : n ≤ 12) :
    Calls Try.prog 48 #[.int .i64 n] w fun e w' => e = .returned (.int .i64 (fac n)) ∧ w = w' := by
  by_cases h2 : n < 2
  · have HF : Hid (fac n = 1) := by
      match n, h2 with
      | 0, _ => exact (rfl : fac 0 = 1)
      | 1, _ => exact (rfl : fac 1 = 1)
    go_enter Try.func48, Try.ntmps48
    go_wp2
    refine wp_loop_rounds 1 ?_
    rw [rounds_succ]
    go_wp2
    go_ret
    exact ⟨ret_i HF.out.symm, rfl⟩
  · have h2' : 2 ≤ n := by omega
    go_enter Try.func48, Try.ntmps48
    go_wp2
    go_loop [3, 4] (fun o i => ∃ m : Nat, 1 ≤ m ∧ m ≤ n ∧ i = .int .i64 ((m : Int) + 1) ∧ o = .int .i64 (fac m)) (fun _ i => n + 1 - (intOf i).toNat)
    case atStart => exact ⟨1, by omega, by omega, rfl, rfl⟩
    case round =>
      obtain ⟨m, hm1, hm2, rfl, rfl⟩ := hrel
      by_cases hlt : m < n
      · have hf := fac_bd (m + 1) (by omega)
        have hs : fac (m + 1) = fac m * ((m : Int) + 1) := rfl
        have h1 : 1 ≤ fac m * ((m : Int) + 1) := by rw [← hs]; exact hf.1
        have h3 : fac m * ((m : Int) + 1) ≤ 479001600 := by rw [← hs]; exact hf.2
        clear hs hf
        go_wp2
        go_round
        case rel => exact ⟨m + 1, by omega, by omega, by go_num, rfl⟩
        case measure => simp [intOf]; omega
      · obtain rfl : m = n := by omega
        go_wp2
        go_ret
        exact ⟨rfl, rfl⟩

/-- How many of the first j numbers of l are less than x. -/
def lessTo (l : List Int) (x : Int) (j : Nat) : Nat := (l.take j).countP (fun y => decide (y < x))
/-- How many of the numbers behind the place k are less than the one at k. -/
def lessAt (l : List Int) (k : Nat) : Nat := lessTo (l.drop (k + 1)) (l.getD k 0) (l.length - (k + 1))
def rk (l : List Int) : Nat → Int
  | 0 => 0
  | k + 1 => rk l k * ((l.length : Int) - k) + lessAt l k
def rankR (l : List Int) : Int := if isOrd l ∧ l.length ≤ 12 then rk l l.length else 0
def rankC (l : List Int) : Int := if isOrd l then (if l.length ≤ 12 then 0 else 3) else 1
theorem lessTo_yes (l : List Int) (x y : Int) (j : Nat) (h : l[j]? = some y) (hy : y < x) : lessTo l x (j + 1) = lessTo l x j + 1 := by
  simp [lessTo, take_next l j y h, List.countP_append, hy]
theorem lessTo_no (l : List Int) (x y : Int) (j : Nat) (h : l[j]? = some y) (hy : ¬ y < x) : lessTo l x (j + 1) = lessTo l x j := by
  simp [lessTo, take_next l j y h, List.countP_append, hy]
theorem lessTo_le (l : List Int) (x : Int) (j : Nat) : lessTo l x j ≤ j := by
  unfold lessTo
  exact Nat.le_trans List.countP_le_length (List.length_take_le _ _)
theorem lessAt_le (l : List Int) (k : Nat) : lessAt l k ≤ l.length - (k + 1) := lessTo_le _ _ _
theorem pow_bd (k : Nat) (h : k ≤ 12) : (12 : Int) ^ k ≤ 8916100448256 := by
  have : ∀ k, k < 13 → (12 : Int) ^ k ≤ 8916100448256 := by decide
  exact this k (by omega)
theorem rk_bd0 (l : List Int) (h : l.length ≤ 12) (k : Nat) (hk : k ≤ l.length) : 0 ≤ rk l k ∧ rk l k + 1 ≤ 12 ^ k := by
  induction k with
  | zero => simp [rk]
  | succ k ih =>
    obtain ⟨h0, h1⟩ := ih (by omega)
    have hl := lessAt_le l k
    have hm : rk l k * ((l.length : Int) - k) ≤ rk l k * 12 := Int.mul_le_mul_of_nonneg_left (by omega) h0
    have hp : 0 ≤ rk l k * ((l.length : Int) - k) := Int.mul_nonneg h0 (by omega)
    have he : rk l (k + 1) = rk l k * ((l.length : Int) - k) + lessAt l k := rfl
    rw [he, Int.pow_succ]
    constructor <;> omega
theorem rk_bd (l : List Int) (h : l.length ≤ 12) (k : Nat) (hk : k ≤ l.length) : 0 ≤ rk l k ∧ rk l k ≤ 8916100448256 := by
  have := rk_bd0 l h k hk
  have := pow_bd k (by omega)
  omega
theorem rk_mul_bd (l : List Int) (h : l.length ≤ 12) (k : Nat) (hk : k ≤ l.length) : 0 ≤ rk l k * ((l.length : Int) - k) ∧ rk l k * ((l.length : Int) - k) ≤ 106993205379072 := by
  have h0 := rk_bd l h k hk
  have hm : rk l k * ((l.length : Int) - k) ≤ rk l k * 12 := Int.mul_le_mul_of_nonneg_left (by omega) h0.1
  have hp : 0 ≤ rk l k * ((l.length : Int) - k) := Int.mul_nonneg h0.1 (by omega)
  omega

theorem Rd.drop {α : Type} {enc : α → Value} {w : World} {B n k b o : Nat} {l : List α} (h : Rd enc w B (some ⟨b, o, none⟩) n l) (hk : k ≤ n) : Rd enc w B (some ⟨b, o + k, none⟩) (n - k) (l.drop k) := by
  refine ⟨by rw [List.length_drop, h.1], fun hp => ?_⟩
  obtain ⟨b', o', e, hb, hc⟩ := h.2 (by omega)
  injection e with e
  injection e with e1 e2 _
  subst e1 e2
  refine ⟨b, o + k, rfl, hb, fun j x hx => ?_⟩
  rw [List.getElem?_drop] at hx
  have := hc (k + j) x hx
  rwa [← Nat.add_assoc] at this

set_option maxHeartbeats 1000000 in
theorem implRank_any (A : Option Addr) (n c B : Nat) (l : List Int) (w : World) (h : Rd I w B A n l) (hn : n ≤ 12) (hc : n ≤ c) :
    Calls Try.prog 45 #[.slice A n c] w fun e w' => e = .returned (.int .i64 (rk l n)) ∧ w = w' := by
  have HL : Hid (l.length = n) := h.1
  go_enter Try.func45, Try.ntmps45
  go_wp2
  go_loop [3, 4, 5, 7, 10] (fun r _ _ _ i => ∃ k : Nat, k ≤ n ∧ i = .int .i64 k ∧ r = .int .i64 (rk l k)) (fun _ _ _ _ i => n - (intOf i).toNat)
  case atStart => exact ⟨0, Nat.zero_le _, rfl, rfl⟩
  case round =>
    obtain ⟨k, hk, rfl, rfl⟩ := hrel
    by_cases hlt : k < n
    · obtain ⟨b, o, x, rfl, hbB, hx, hcx⟩ := h.at_ hlt
      have HX : Hid (l[k]? = some x) := hx
      clear hx
      have hD := h.drop (k := k + 1) (by omega)
      have hb1 := rk_mul_bd l (by have := HL.out; omega) k (by have := HL.out; omega)
      rw [HL.out] at hb1
      have hrs : Hid (rk l (k + 1) = rk l k * ((n : Int) - k) + lessTo (l.drop (k + 1)) x (n - (k + 1))) := by
        have e1 := HL.out
        have e2 := HX.out
        show rk l (k + 1) = _
        rw [← e1]
        show rk l k * ((l.length : Int) - k) + lessAt l k = _
        unfold lessAt
        rw [List.getD_eq_getElem?_getD, e2]
        rfl
      obtain ⟨r, HR⟩ : ∃ r, Hid (r = rk l k * ((n : Int) - k)) := ⟨_, rfl⟩
      obtain ⟨hr0, hr1⟩ := hb1
      by_cases hck : c = k + 1
      · have HN : Hid (n - (k + 1) = 0) := show n - (k + 1) = 0 by omega
        have hlt0 : decide (0 < n - (k + 1)) = false := by simp; omega
        have hite : ∀ A B : Option Addr, (if c = k + 1 then A else B) = A := fun A B => if_pos hck
        clear hck hD
        go_wp2
        clear hite
        refine wp_loop_rounds 1 ?_
        rw [rounds_succ]
        go_wp2
        go_round
        case rel => exact ⟨k + 1, by omega, by go_num, by rw [hrs.out, HN.out]; simp [lessTo]⟩
        case measure => simp [intOf]; omega
      · go_wp2
        go_loop [3, 7, 26] (fun r _ i => ∃ j : Nat, j ≤ n - (k + 1) ∧ i = .int .i64 j ∧ r = .int .i64 (rk l k * ((n : Int) - k) + lessTo (l.drop (k + 1)) x j)) (fun _ _ i => n - (k + 1) - (intOf i).toNat)
        case atStart => exact ⟨0, Nat.zero_le _, rfl, by simp [lessTo]⟩
        case round =>
          obtain ⟨j, hj, rfl, rfl⟩ := hrel
          have hle := lessTo_le (l.drop (k + 1)) x j
          by_cases hjl : j < n - (k + 1)
          · obtain ⟨b', o', y, hA, hbB', hy, hcy⟩ := hD.at_ hjl
            injection hA with hA
            injection hA with e1 e2 _
            subst e1 e2
            by_cases hyx : y < x
            · have HY := Lib.hid (lessTo_yes _ _ _ _ hy hyx)
              clear hy
              go_wp2
              go_round
              case rel => exact ⟨j + 1, by omega, by go_num, by rw [HY.out]; go_num⟩
              case measure => simp [intOf]; omega
            · have HY := Lib.hid (lessTo_no _ _ _ _ hy hyx)
              clear hy
              go_wp2
              go_round
              case rel => exact ⟨j + 1, by omega, by go_num, by rw [HY.out]⟩
              case measure => simp [intOf]; omega
          · obtain rfl : j = n - (k + 1) := by omega
            go_wp2
            go_round
            case rel => exact ⟨k + 1, by omega, by go_num, by rw [hrs.out]⟩
            case measure => simp [intOf]; omega
    · obtain rfl : k = n := by omega
      go_wp2
      go_ret
      exact ⟨rfl, rfl⟩
theorem specFac_int (x : Int) (w : World) (h0 : 0 ≤ x) (h1 : x ≤ 12) :
    Calls Try.prog 46 #[.int .i64 x] w fun e w' => e = .returned (.int .i64 (fac x.toNat)) ∧ w = w' := by
  obtain ⟨n, rfl⟩ := Int.eq_ofNat_of_zero_le h0
  exact specFac_any n w (by omega)
theorem implFac_int (x : Int) (w : World) (h0 : 0 ≤ x) (h1 : x ≤ 12) :
    Calls Try.prog 48 #[.int .i64 x] w fun e w' => e = .returned (.int .i64 (fac x.toNat)) ∧ w = w' := by
  obtain ⟨n, rfl⟩ := Int.eq_ofNat_of_zero_le h0
  exact implFac_any n w (by omega)

theorem fac_pos (k : Nat) : 1 ≤ fac k := by
  induction k with
  | zero => exact Int.le_refl 1
  | succ k ih =>
    have : fac k * 1 ≤ fac k * ((k : Int) + 1) := Int.mul_le_mul_of_nonneg_left (by omega) (by omega)
    have e : fac (k + 1) = fac k * ((k : Int) + 1) := rfl
    omega
theorem fac_down (n k : Nat) (h : k < n) : fac (n - k) = ((n : Int) - k) * fac (n - (k + 1)) := by
  have e : n - k = (n - (k + 1)) + 1 := by omega
  have e2 : ((n - (k + 1) : Nat) : Int) + 1 = (n : Int) - k := by omega
  rw [e]
  show fac (n - (k + 1)) * (((n - (k + 1) : Nat) : Int) + 1) = _
  rw [e2, Int.mul_comm]
theorem rk_step (l : List Int) (k : Nat) (h : k < l.length) : rk l k * fac (l.length - k) + lessAt l k * fac (l.length - (k + 1)) = rk l (k + 1) * fac (l.length - (k + 1)) := by
  have e : rk l (k + 1) = rk l k * ((l.length : Int) - k) + lessAt l k := rfl
  rw [e, fac_down _ _ h, Int.add_mul, Int.mul_assoc]
theorem rk_fac (l : List Int) (k : Nat) (h : k ≤ l.length) : 0 ≤ rk l k ∧ (rk l k + 1) * fac (l.length - k) ≤ fac l.length := by
  induction k with
  | zero => simp [rk]
  | succ k ih =>
    obtain ⟨h0, h1⟩ := ih (by omega)
    have hp : 0 ≤ rk l k * ((l.length : Int) - k) := Int.mul_nonneg h0 (by omega)
    have e : rk l (k + 1) = rk l k * ((l.length : Int) - k) + lessAt l k := rfl
    have hl := lessAt_le l k
    refine ⟨by omega, ?_⟩
    have hf := fac_pos (l.length - (k + 1))
    have hd := fac_down l.length k (by omega)
    have h2 : (rk l (k + 1) + 1) * fac (l.length - (k + 1)) ≤ ((rk l k + 1) * ((l.length : Int) - k)) * fac (l.length - (k + 1)) := by
      refine Int.mul_le_mul_of_nonneg_right ?_ (by omega)
      rw [e, Int.add_mul]
      omega
    rw [Int.mul_assoc, ← hd] at h2
    exact Int.le_trans h2 h1
theorem rk_val_bd (l : List Int) (hl : l.length ≤ 12) (k : Nat) (h : k ≤ l.length) : 0 ≤ rk l k * fac (l.length - k) ∧ rk l k * fac (l.length - k) ≤ 479001600 := by
  obtain ⟨h0, h1⟩ := rk_fac l k h
  have h2 := fac_pos (l.length - k)
  have h3 := (fac_bd l.length hl).2
  rw [Int.add_mul] at h1
  exact ⟨Int.mul_nonneg h0 (by omega), by omega⟩

/-- Two numbers and a world of new blocks. -/
theorem ret2_i {k k' : IntKind} {a b a' b' : Int} (h : a = a') (h' : b = b') : Ending.returned (.tuple #[.int k a, .int k' b]) = .returned (.tuple #[.int k a', .int k' b']) := by rw [h, h']

theorem implRankOrder_any (A : Option Addr) (n c B : Nat) (l : List Int) (w : World) (h : Rd I w B A n l) (hB : B ≤ w.heap.size) (hn : n ≤ 1048576) (hc : n ≤ c) :
    Calls Try.prog 22 #[.slice A n c] w fun e w' => e = .returned (.tuple #[.int .i64 (rankR l), .int .i64 (rankC l)]) ∧ Below w.heap.size w w' := by
  by_cases ho : isOrd l
  · have HO := ordB_yes ho
    by_cases h12 : n ≤ 12
    · have HR : Hid (rankR l = rk l n) := by unfold rankR; rw [if_pos ⟨ho, by rw [h.1]; exact h12⟩, h.1]; exact rfl
      have HC : Hid (rankC l = 0) := by unfold rankC; rw [if_pos ho, if_pos (by rw [h.1]; exact h12)]; exact rfl
      clear ho
      go_enter Try.func22, Try.ntmps22
      go_wp2_with fail
      refine (IsOrder_any A n c B l _ h hB hn).mono ?_
      rintro e w1 ⟨rfl, hb1⟩
      rw [HO.out]
      go_wp2_with fail
      refine (implRank_any A n c B l _ (h.below hb1 hB) h12 hc).mono ?_
      rintro e _ ⟨rfl, rfl⟩
      go_wp2_with fail
      go_ret2
      exact ⟨ret2_i HR.out.symm HC.out.symm, hb1⟩
    · have HR : Hid (rankR l = 0) := by unfold rankR; rw [if_neg (fun hh => h12 (by rw [← h.1]; exact hh.2))]; exact rfl
      have HC : Hid (rankC l = 3) := by unfold rankC; rw [if_pos ho, if_neg (by rw [h.1]; exact h12)]; exact rfl
      have h12' : 12 < n := by omega
      clear ho h12
      go_enter Try.func22, Try.ntmps22
      go_wp2_with fail
      refine (IsOrder_any A n c B l _ h hB hn).mono ?_
      rintro e w1 ⟨rfl, hb1⟩
      rw [HO.out]
      go_wp2_with fail
      go_ret2
      exact ⟨ret2_i HR.out.symm HC.out.symm, hb1⟩
  · have HO := ordB_no ho
    have HR : Hid (rankR l = 0) := by unfold rankR; rw [if_neg (fun hh => ho hh.1)]; exact rfl
    have HC : Hid (rankC l = 1) := by unfold rankC; rw [if_neg ho]; exact rfl
    clear ho
    go_enter Try.func22, Try.ntmps22
    go_wp2_with fail
    refine (IsOrder_any A n c B l _ h hB hn).mono ?_
    rintro e w1 ⟨rfl, hb1⟩
    rw [HO.out]
    go_wp2_with fail
    go_ret2
    exact ⟨ret2_i HR.out.symm HC.out.symm, hb1⟩

set_option maxHeartbeats 2000000 in
theorem specRankOrder_any (A : Option Addr) (n c B : Nat) (l : List Int) (w : World) (h : Rd I w B A n l) (_hB : B ≤ w.heap.size) (hn : n ≤ 1048576) (hc : n ≤ c) :
    Calls Try.prog 23 #[.slice A n c] w fun e w' => e = .returned (.tuple #[.int .i64 (rankR l), .int .i64 (rankC l)]) ∧ Below w.heap.size w w' := by
  by_cases ho : isOrd l
  · have HO := ordB_yes ho
    by_cases h12 : n ≤ 12
    · have HR : Hid (rankR l = rk l n) := by unfold rankR; rw [if_pos ⟨ho, by rw [h.1]; exact h12⟩, h.1]; exact rfl
      have HC : Hid (rankC l = 0) := by unfold rankC; rw [if_pos ho, if_pos (by rw [h.1]; exact h12)]; exact rfl
      have HL : Hid (l.length = n) := h.1
      clear ho
      go_enter Try.func23, Try.ntmps23
      go_wp2_with fail
      refine (specIsOrder_any A n c B l _ h hn hc).mono ?_
      rintro e w1 ⟨rfl, hq1⟩
      rw [HO.out]
      go_wp2_with fail
      go_loopw [4, 5, 6, 7] (fun r i _ _ wr => ∃ k : Nat, k ≤ n ∧ i = .int .i64 k ∧ r = .int .i64 (rk l k * fac (n - k)) ∧ Q w wr) (fun _ i _ _ _ => n - (intOf i).toNat)
      case atStart => exact ⟨0, Nat.zero_le _, rfl, by simp [rk], hq1⟩
      case round =>
        obtain ⟨k, hk, rfl, rfl, hq⟩ := hrel
        have hr := h.q hq
        by_cases hlt : k < n
        · obtain ⟨b, o, x, hA, hbB, hx, hcx⟩ := hr.at_ hlt
          subst hA
          have HLA : Hid (lessAt l k = lessTo (l.drop (k + 1)) x (n - (k + 1))) := by
            show lessAt l k = _
            unfold lessAt
            rw [List.getD_eq_getElem?_getD, hx, HL.out]
            rfl
          have HD : Hid (∀ j, (l.drop (k + 1))[j]? = l[k + 1 + j]?) := fun j => by rw [List.getElem?_drop]
          have hv := rk_val_bd l (by have := HL.out; omega) k (by have := HL.out; omega)
          have hv2 := rk_val_bd l (by have := HL.out; omega) (k + 1) (by have := HL.out; omega)
          have hst := rk_step l k (by have := HL.out; omega)
          rw [HL.out] at hv hv2 hst
          have hfp := fac_bd (n - (k + 1)) (by omega)
          have HS := Lib.hid hst
          have HX := Lib.hid hx
          clear hst hx
          have HM1 : Hid (0 ≤ (lessAt l k : Int) * fac (n - (k + 1))) := Int.mul_nonneg (by omega) (by omega)
          have HM2 : Hid ((lessAt l k : Int) * fac (n - (k + 1)) ≤ 479001600) := by
            have h1 := HS.out
            show _ ≤ _
            omega
          obtain ⟨hv0, hv1⟩ := hv
          clear hv2 hfp
          go_wp2_with fail
          go_loopw [6, 7] (fun r j wr => ∃ m : Nat, m ≤ n - (k + 1) ∧ j = .int .i64 ((k : Int) + 1 + m) ∧ r = .int .i64 (lessTo (l.drop (k + 1)) x m) ∧ Q w wr) (fun _ j _ => n - (intOf j).toNat)
          case atStart => exact ⟨0, Nat.zero_le _, by go_num, by simp [lessTo], hq⟩
          case round =>
            clear hcx hq hr
            obtain ⟨m, hm, rfl, rfl, hq⟩ := hrel
            have hr := h.q hq
            have hle := lessTo_le (l.drop (k + 1)) x m
            by_cases hml : m < n - (k + 1)
            · obtain ⟨b1, o1, x1, hA1, hbB1, hx1, hcx⟩ := hr.at_ hlt
              obtain ⟨b2, o2, y, hA2, hbB2, hy, hcy⟩ := hr.at_ (k := k + 1 + m) (by omega)
              injection hA1 with hA1
              injection hA1 with e1 e2 _
              subst e1 e2
              injection hA2 with hA2
              injection hA2 with e1 e2 _
              subst e1 e2
              obtain rfl : x1 = x := by have := HX.out; rw [this] at hx1; injection hx1 with hx1; exact hx1.symm
              clear hx1
              by_cases hyx : y < x1
              · have HY := Lib.hid (lessTo_yes (l.drop (k + 1)) x1 y m (by rw [HD.out m]; exact hy) hyx)
                clear hy
                go_wp2
                go_quiet (fail)
                go_wp2
                go_roundw
                case rel => exact ⟨m + 1, by omega, by go_num, by rw [HY.out]; go_num, hq.more _⟩
                case measure => simp [intOf]; omega
              · have HY := Lib.hid (lessTo_no (l.drop (k + 1)) x1 y m (by rw [HD.out m]; exact hy) hyx)
                have hyx' : x1 ≤ y := by omega
                clear hy
                go_wp2
                go_quiet (fail)
                go_wp2
                go_roundw
                case rel => exact ⟨m + 1, by omega, by go_num, by rw [HY.out], hq.more _⟩
                case measure => simp [intOf]; omega
            · obtain rfl : m = n - (k + 1) := by omega
              have hm1 := HM1.out
              have hm2 := HM2.out
              rw [HLA.out] at hm1 hm2
              go_wp2_with fail
              refine (specFac_int _ _ (by omega) (by omega)).mono ?_
              rintro e _ ⟨rfl, rfl⟩
              rw [show ((n : Int) - (k : Int) - 1).toNat = n - (k + 1) from by omega]
              go_wp2_with fail
              go_roundw
              case rel => exact ⟨k + 1, by omega, by go_num, by rw [← HS.out, HLA.out], hq⟩
              case measure => simp [intOf]; omega
        · obtain rfl : k = n := by omega
          go_wp2
          go_ret2
          exact ⟨ret2_i (by rw [HR.out, Nat.sub_self]; exact Int.mul_one _) HC.out.symm, hq.below _⟩
    · have HR : Hid (rankR l = 0) := by unfold rankR; rw [if_neg (fun hh => h12 (by rw [← h.1]; exact hh.2))]; exact rfl
      have HC : Hid (rankC l = 3) := by unfold rankC; rw [if_pos ho, if_neg (by rw [h.1]; exact h12)]; exact rfl
      have h12' : 12 < n := by omega
      clear ho h12
      go_enter Try.func23, Try.ntmps23
      go_wp2_with fail
      refine (specIsOrder_any A n c B l _ h hn hc).mono ?_
      rintro e w1 ⟨rfl, hq1⟩
      rw [HO.out]
      go_wp2_with fail
      go_ret2
      exact ⟨ret2_i HR.out.symm HC.out.symm, hq1.below _⟩
  · have HO := ordB_no ho
    have HR : Hid (rankR l = 0) := by unfold rankR; rw [if_neg (fun hh => ho hh.1)]; exact rfl
    have HC : Hid (rankC l = 1) := by unfold rankC; rw [if_neg ho]; exact rfl
    clear ho
    go_enter Try.func23, Try.ntmps23
    go_wp2_with fail
    refine (specIsOrder_any A n c B l _ h hn hc).mono ?_
    rintro e w1 ⟨rfl, hq1⟩
    rw [HO.out]
    go_wp2_with fail
    go_ret2
    exact ⟨ret2_i HR.out.symm HC.out.symm, hq1.below _⟩
end Go.Proofs.Ytokljgdfhogcoaa
