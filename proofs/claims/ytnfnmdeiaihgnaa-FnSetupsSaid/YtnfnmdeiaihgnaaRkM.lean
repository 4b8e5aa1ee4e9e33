/- Contracts of InverseOrder and ComposeOrders, the model's and the program's: both answer invR, invC and comR, comC. Contracts of ComposeOrders, the model's and the program's: both answer comR and comC. Contracts of the factorials and of RankOrder, the model's and the program's: both answer rankR and rankC. Contract of slices.Delete of one place of a slice of the call's own. Contracts of OrderOfRank, the model's and the program's: both answer orkR and orkC. Plain facts on orders: inverses and compositions of orders are orders; an order composed with its inverse leaves everything in its place. Plain facts on ranks: an order is found from its rank, the order of a rank has that rank, and orders follow one another by their ranks. -/
import Derived.Test.YtnfnmdeiaihgnaaOrd2
import Derived.Test.YtnfnmdeiaihgnaaBase
import Derived.Deep.RegionLaw
import Derived.Lib.SliceRun
import Derived.WalkSpells
namespace Go.Proofs.Ytnfnmdeiaihgnaa
open Go.RowKit


def invTo (l : List Int) : Nat → List Int
  | 0 => List.replicate l.length 0
  | k + 1 => (invTo l k).set (l.getD k 0).toNat k
def invR (l : List Int) : List Int := if isOrd l then invTo l l.length else []
def invC (l : List Int) : Int := if isOrd l then 0 else 1
theorem invTo_len (l : List Int) (k : Nat) : (invTo l k).length = l.length := by
  induction k with
  | zero => simp [invTo]
  | succ k ih => simp [invTo, ih]
theorem invTo_next (l : List Int) (k j : Nat) (hx : l[k]? = some (j : Int)) : invTo l (k + 1) = (invTo l k).set j k := by
  simp [invTo, List.getD_eq_getElem?_getD, hx]
theorem ord_at (l : List Int) (h : isOrd l) (k : Nat) (x : Int) (hx : l[k]? = some x) : 0 ≤ x ∧ x < l.length := h.2.1 x (List.mem_of_getElem? hx)
theorem ord_iff (l : List Int) : isOrdB l = true ↔ isOrd l := by unfold isOrdB; simp

end Go.Proofs.Ytnfnmdeiaihgnaa
namespace Go.Proofs.Ytnfnmdeiaihgnaa
open Go.RowKit

def comL (p q : List Int) : List Int := q.map fun x => p.getD x.toNat 0
def comR (p q : List Int) : List Int := if isOrd p ∧ isOrd q ∧ p.length = q.length then comL p q else []
def comC (p q : List Int) : Int := if isOrd p ∧ isOrd q then (if p.length = q.length then 0 else 5) else 1
theorem comL_at (p q : List Int) (k j : Nat) (y : Int) (hq : q[k]? = some (j : Int)) (hp : p[j]? = some y) : (comL p q)[k]? = some y := by
  simp [comL, hq, List.getD_eq_getElem?_getD, hp]
theorem comL_len (p q : List Int) : (comL p q).length = q.length := by simp [comL]
theorem ordB_yes {l : List Int} (h : isOrd l) : Hid (isOrdB l = true) := (ord_iff l).2 h
theorem ordB_no {l : List Int} (h : ¬ isOrd l) : Hid (isOrdB l = false) := by
  have := ord_iff l
  cases hb : isOrdB l
  · exact rfl
  · exact absurd (this.1 hb) h

end Go.Proofs.Ytnfnmdeiaihgnaa
namespace Go.Proofs.Ytnfnmdeiaihgnaa
open Go.RowKit

def fac : Nat → Int
  | 0 => 1
  | k + 1 => fac k * ((k : Int) + 1)
theorem fac_bd (k : Nat) (h : k ≤ 12) : 1 ≤ fac k ∧ fac k ≤ 479001600 := by
  have : ∀ k, k < 13 → 1 ≤ fac k ∧ fac k ≤ 479001600 := by decide
  exact this k (by omega)

set_option maxHeartbeats 400000 in
theorem specFac_any (n : Nat) (w : World) (hn : n ≤ 12) :
    Calls Try.prog 78 #[.int .i64 n] w fun e w' => e = .returned (.int .i64 (fac n)) ∧ w = w' := by
  by_cases h2 : n < 2
  · have HF : Hid (fac n = 1) := by
      match n, h2 with
      | 0, _ => exact (rfl : fac 0 = 1)
      | 1, _ => exact (rfl : fac 1 = 1)
    go_enter Try.func78, Try.ntmps78
    go_wp2
    refine wp_loop_rounds 1 ?_
    rw [rounds_succ]
    go_wp2
    go_ret
    exact ⟨ret_i HF.out.symm, rfl⟩
  · have h2' : 2 ≤ n := by omega
    go_enter Try.func78, Try.ntmps78
    go_wp2
    go_loop [3, 4] (fun o i => ∃ m : Nat, 1 ≤ m ∧ m ≤ n ∧ i = .int .i64 ((m : Int) + 1) ∧ o = .int .i64 (fac m)) (fun _ i => n + 1 - (intOf i).toNat)
    case atStart => exact ⟨1, by omega, by omega, rfl, rfl⟩
    case round =>
      obtain ⟨m, hm1, hm2, rfl, rfl⟩ := hrel
      by_cases hlt : m < n
      · have hf := fac_bd (m + 1) (by omega)
        have hs : fac (m + 1) = fac m * ((m : Int) + 1) := rfl
        have h1 : 1 ≤ fac m * ((m : Int) + 1) := by rw [← hs]; exact hf.1
        have h3 : fac m * ((m : Int) + 1) ≤ 479001600 := by rw [← hs]; exact hf.2
        clear hs hf
        go_wp2
        go_round
        case rel => exact ⟨m + 1, by omega, by omega, by go_num, rfl⟩
        case measure => simp [intOf]; omega
      · obtain rfl : m = n := by omega
        go_wp2
        go_ret
        exact ⟨rfl, rfl⟩

set_option maxHeartbeats 400000 in
theorem implFac_any (n : Nat) (w : World) (hn : n ≤ 12) :
    Calls Try.prog 76 #[.int .i64 n] w fun e w' => e = .returned (.int .i64 (fac n)) ∧ w = w' := by
  by_cases h2 : n < 2
  · have HF : Hid (fac n = 1) := by
      match n, h2 with
      | 0, _ => exact (rfl : fac 0 = 1)
      | 1, _ => exact (rfl : fac 1 = 1)
    go_enter Try.func76, Try.ntmps76
    go_wp2
    refine wp_loop_rounds 1 ?_
    rw [rounds_succ]
    go_wp2
    go_ret
    exact ⟨ret_i HF.out.symm, rfl⟩
  · have h2' : 2 ≤ n := by omega
    go_enter Try.func76, Try.ntmps76
    go_wp2
    go_loop [3, 4] (fun o i => ∃ m : Nat, 1 ≤ m ∧ m ≤ n ∧ i = .int .i64 ((m : Int) + 1) ∧ o = .int .i64 (fac m)) (fun _ i => n + 1 - (intOf i).toNat)
    case atStart => exact ⟨1, by omega, by omega, rfl, rfl⟩
    case round =>
      obtain ⟨m, hm1, hm2, rfl, rfl⟩ := hrel
      by_cases hlt : m < n
      · have hf := fac_bd (m + 1) (by omega)
        have hs : fac (m + 1) = fac m * ((m : Int) + 1) := rfl
        have h1 : 1 ≤ fac m * ((m : Int) + 1) := by rw [← hs]; exact hf.1
        have h3 : fac m * ((m : Int) + 1) ≤ 479001600 := by rw [← hs]; exact hf.2
        clear hs hf
        go_wp2
        go_round
        case rel => exact ⟨m + 1, by omega, by omega, by go_num, rfl⟩
        case measure => simp [intOf]; omega
      · obtain rfl : m = n := by omega
        go_wp2
        go_ret
        exact ⟨rfl, rfl⟩

/-- How many of the first j numbers of l are less than x. -/
def lessTo (l : List Int) (x : Int) (j : Nat) : Nat := (l.take j).countP (fun y => decide (y < x))
/-- How many of the numbers behind the place k are less than the one at k. -/
def lessAt (l : List Int) (k : Nat) : Nat := lessTo (l.drop (k + 1)) (l.getD k 0) (l.length - (k + 1))
def rk (l : List Int) : Nat → Int
  | 0 => 0
  | k + 1 => rk l k * ((l.length : Int) - k) + lessAt l k
def rankR (l : List Int) : Int := if isOrd l ∧ l.length ≤ 12 then rk l l.length else 0
def rankC (l : List Int) : Int := if isOrd l then (if l.length ≤ 12 then 0 else 3) else 1
theorem lessTo_yes (l : List Int) (x y : Int) (j : Nat) (h : l[j]? = some y) (hy : y < x) : lessTo l x (j + 1) = lessTo l x j + 1 := by
  simp [lessTo, take_next l j y h, List.countP_append, hy]
theorem lessTo_no (l : List Int) (x y : Int) (j : Nat) (h : l[j]? = some y) (hy : ¬ y < x) : lessTo l x (j + 1) = lessTo l x j := by
  simp [lessTo, take_next l j y h, List.countP_append, hy]
theorem lessTo_le (l : List Int) (x : Int) (j : Nat) : lessTo l x j ≤ j := by
  unfold lessTo
  exact Nat.le_trans List.countP_le_length (List.length_take_le _ _)
theorem lessAt_le (l : List Int) (k : Nat) : lessAt l k ≤ l.length - (k + 1) := lessTo_le _ _ _
theorem pow_bd (k : Nat) (h : k ≤ 12) : (12 : Int) ^ k ≤ 8916100448256 := by
  have : ∀ k, k < 13 → (12 : Int) ^ k ≤ 8916100448256 := by decide
  exact this k (by omega)
theorem rk_bd0 (l : List Int) (h : l.length ≤ 12) (k : Nat) (hk : k ≤ l.length) : 0 ≤ rk l k ∧ rk l k + 1 ≤ 12 ^ k := by
  induction k with
  | zero => simp [rk]
  | succ k ih =>
    obtain ⟨h0, h1⟩ := ih (by omega)
    have hl := lessAt_le l k
    have hm : rk l k * ((l.length : Int) - k) ≤ rk l k * 12 := Int.mul_le_mul_of_nonneg_left (by omega) h0
    have hp : 0 ≤ rk l k * ((l.length : Int) - k) := Int.mul_nonneg h0 (by omega)
    have he : rk l (k + 1) = rk l k * ((l.length : Int) - k) + lessAt l k := rfl
    rw [he, Int.pow_succ]
    constructor <;> omega
theorem rk_bd (l : List Int) (h : l.length ≤ 12) (k : Nat) (hk : k ≤ l.length) : 0 ≤ rk l k ∧ rk l k ≤ 8916100448256 := by
  have := rk_bd0 l h k hk
  have := pow_bd k (by omega)
  omega
theorem rk_mul_bd (l : List Int) (h : l.length ≤ 12) (k : Nat) (hk : k ≤ l.length) : 0 ≤ rk l k * ((l.length : Int) - k) ∧ rk l k * ((l.length : Int) - k) ≤ 106993205379072 := by
  have h0 := rk_bd l h k hk
  have hm : rk l k * ((l.length : Int) - k) ≤ rk l k * 12 := Int.mul_le_mul_of_nonneg_left (by omega) h0.1
  have hp : 0 ≤ rk l k * ((l.length : Int) - k) := Int.mul_nonneg h0.1 (by omega)
  omega

theorem Rd.drop {α : Type} {enc : α → Value} {w : World} {B n k b o : Nat} {l : List α} (h : Rd enc w B (some ⟨b, o, none⟩) n l) (hk : k ≤ n) : Rd enc w B (some ⟨b, o + k, none⟩) (n - k) (l.drop k) := by
  refine ⟨by rw [List.length_drop, h.1], fun hp => ?_⟩
  obtain ⟨b', o', e, hb, hc⟩ := h.2 (by omega)
  injection e with e
  injection e with e1 e2 _
  subst e1 e2
  refine ⟨b, o + k, rfl, hb, fun j x hx => ?_⟩
  rw [List.getElem?_drop] at hx
  have := hc (k + j) x hx
  rwa [← Nat.add_assoc] at this

theorem specFac_int (x : Int) (w : World) (h0 : 0 ≤ x) (h1 : x ≤ 12) :
    Calls Try.prog 78 #[.int .i64 x] w fun e w' => e = .returned (.int .i64 (fac x.toNat)) ∧ w = w' := by
  obtain ⟨n, rfl⟩ := Int.eq_ofNat_of_zero_le h0
  exact specFac_any n w (by omega)
theorem implFac_int (x : Int) (w : World) (h0 : 0 ≤ x) (h1 : x ≤ 12) :
    Calls Try.prog 76 #[.int .i64 x] w fun e w' => e = .returned (.int .i64 (fac x.toNat)) ∧ w = w' := by
  obtain ⟨n, rfl⟩ := Int.eq_ofNat_of_zero_le h0
  exact implFac_any n w (by omega)

theorem fac_pos (k : Nat) : 1 ≤ fac k := by
  induction k with
  | zero => exact Int.le_refl 1
  | succ k ih =>
    have : fac k * 1 ≤ fac k * ((k : Int) + 1) := Int.mul_le_mul_of_nonneg_left (by omega) (by omega)
    have e : fac (k + 1) = fac k * ((k : Int) + 1) := rfl
    omega
theorem fac_down (n k : Nat) (h : k < n) : fac (n - k) = ((n : Int) - k) * fac (n - (k + 1)) := by
  have e : n - k = (n - (k + 1)) + 1 := by omega
  have e2 : ((n - (k + 1) : Nat) : Int) + 1 = (n : Int) - k := by omega
  rw [e]
  show fac (n - (k + 1)) * (((n - (k + 1) : Nat) : Int) + 1) = _
  rw [e2, Int.mul_comm]
theorem rk_step (l : List Int) (k : Nat) (h : k < l.length) : rk l k * fac (l.length - k) + lessAt l k * fac (l.length - (k + 1)) = rk l (k + 1) * fac (l.length - (k + 1)) := by
  have e : rk l (k + 1) = rk l k * ((l.length : Int) - k) + lessAt l k := rfl
  rw [e, fac_down _ _ h, Int.add_mul, Int.mul_assoc]
theorem rk_fac (l : List Int) (k : Nat) (h : k ≤ l.length) : 0 ≤ rk l k ∧ (rk l k + 1) * fac (l.length - k) ≤ fac l.length := by
  induction k with
  | zero => simp [rk]
  | succ k ih =>
    obtain ⟨h0, h1⟩ := ih (by omega)
    have hp : 0 ≤ rk l k * ((l.length : Int) - k) := Int.mul_nonneg h0 (by omega)
    have e : rk l (k + 1) = rk l k * ((l.length : Int) - k) + lessAt l k := rfl
    have hl := lessAt_le l k
    refine ⟨by omega, ?_⟩
    have hf := fac_pos (l.length - (k + 1))
    have hd := fac_down l.length k (by omega)
    have h2 : (rk l (k + 1) + 1) * fac (l.length - (k + 1)) ≤ ((rk l k + 1) * ((l.length : Int) - k)) * fac (l.length - (k + 1)) := by
      refine Int.mul_le_mul_of_nonneg_right ?_ (by omega)
      rw [e, Int.add_mul]
      omega
    rw [Int.mul_assoc, ← hd] at h2
    exact Int.le_trans h2 h1
theorem rk_val_bd (l : List Int) (hl : l.length ≤ 12) (k : Nat) (h : k ≤ l.length) : 0 ≤ rk l k * fac (l.length - k) ∧ rk l k * fac (l.length - k) ≤ 479001600 := by
  obtain ⟨h0, h1⟩ := rk_fac l k h
  have h2 := fac_pos (l.length - k)
  have h3 := (fac_bd l.length hl).2
  rw [Int.add_mul] at h1
  exact ⟨Int.mul_nonneg h0 (by omega), by omega⟩

/-- Two numbers and a world of new blocks. -/
theorem ret2_i {k k' : IntKind} {a b a' b' : Int} (h : a = a') (h' : b = b') : Ending.returned (.tuple #[.int k a, .int k' b]) = .returned (.tuple #[.int k a', .int k' b']) := by rw [h, h']

end Go.Proofs.Ytnfnmdeiaihgnaa
namespace Go.Proofs.Ytnfnmdeiaihgnaa
open Go.RowKit

section
variable {α : Type} {enc : α → Value} {w : World} {lo hi n c g : Nat} {e : TypeId} {l : List α}
theorem Own.opened (h : Own enc w lo hi e (.slice (some ⟨g, 0, none⟩) n c) l) : ∃ cur, w.heap[g]? = some (.cells cur e (0, 0)) ∧ n ≤ c ∧ c ≤ maxLen ∧ cur.size = c ∧ l.length = n ∧ (∀ (j : Nat) (x : α), l[j]? = some x → cur[j]? = some (enc x)) ∧ lo ≤ g ∧ g < hi := by
  have hn : l.length = n := h.rd.1
  have hlt := h.lt g rfl
  rcases h.1.2 with ⟨hv, _⟩ | ⟨g', cap, cur, hv, _, hg, h1, h2, h3, h4⟩
  · simp at hv
  · simp only [Value.slice.injEq, Option.some.injEq, Addr.mk.injEq, and_true] at hv
    obtain ⟨rfl, rfl, rfl⟩ := hv
    refine ⟨cur, hg, h1, h2, by simpa using h3, hn, fun j x hx => ?_, hlt.1, hlt.2.1⟩
    have hj : j < l.length := (List.getElem?_eq_some_iff.1 hx).1
    have e1 : (cur.toList.take (l.length * 1))[j]? = some (enc x) := by rw [h4, List.getElem?_map, hx]; rfl
    rw [List.getElem?_take, if_pos (by omega)] at e1
    simpa using e1
theorem Own.shut {cur : Array Value} (hg : w.heap[g]? = some (.cells cur e (0, 0))) (h1 : n ≤ c) (h2 : c ≤ maxLen) (h3 : cur.size = c) (hn : l.length = n) (hc : ∀ (j : Nat) (x : α), l[j]? = some x → cur[j]? = some (enc x)) (h4 : lo ≤ g) (h5 : g < hi) :
    Own enc w lo hi e (.slice (some ⟨g, 0, none⟩) n c) l := by
  refine ⟨⟨by simp, .inr ⟨g, c, cur, by rw [hn], h4, hg, by omega, h2, by omega, ?_⟩⟩, fun k hk => by simp [Value.ownBlock] at hk; omega⟩
  apply List.ext_getElem?
  intro j
  rw [List.getElem?_take, List.getElem?_map]
  by_cases hj : j < l.length * 1
  · rw [if_pos hj]
    have hj' : j < l.length := by omega
    have := hc j l[j] (List.getElem?_eq_getElem hj')
    rw [List.getElem?_eq_getElem hj']
    simpa using this
  · rw [if_neg hj, List.getElem?_eq_none (by omega)]
    rfl
end

theorem heap_setCells (g : Nat) (e : TypeId) : ∀ (vs : List Value) (o : Nat) (w : World) (cur : Array Value), w.heap[g]? = some (.cells cur e (0, 0)) →
    ∃ cur', (w.setCells g o vs).heap[g]? = some (.cells cur' e (0, 0)) ∧ cur'.size = cur.size ∧ (∀ j, (j < o ∨ o + vs.length ≤ j) → cur'[j]? = cur[j]?) ∧ ∀ j, j < vs.length → o + j < cur.size → cur'[o + j]? = vs[j]?
  | [], o, w, cur, h => ⟨cur, h, rfl, fun _ _ => rfl, fun j hj => by simp at hj⟩
  | v :: r, o, w, cur, h => by
    obtain ⟨cur', h1, h2, h3, h4⟩ := heap_setCells g e r (o + 1) (w.setCell ⟨g, o, none⟩ v) (cur.setIfInBounds o v) (heap_setCell_same w g o cur e v h)
    refine ⟨cur', h1, by simpa using h2, fun j hj => ?_, fun j hj hb => ?_⟩
    · simp only [List.length_cons] at hj
      rw [h3 j (by omega), Array.getElem?_setIfInBounds, if_neg (by omega)]
    · cases j with
      | zero =>
        rw [Nat.add_zero, h3 o (by omega), Array.getElem?_setIfInBounds, if_pos rfl]
        rw [Nat.add_zero] at hb
        simp [hb]
      | succ j =>
        simp only [List.length_cons] at hj
        have := h4 j (by omega) (by simp; omega)
        rw [show o + (j + 1) = o + 1 + j from by omega, this]
        simp
theorem only_setCells (lo hi g : Nat) (hlo : lo ≤ g) (hhi : g < hi) : ∀ (vs : List Value) (o : Nat) (w : World), Only lo hi w (w.setCells g o vs)
  | [], _, w => Only.refl _ _ _
  | v :: r, o, w => by
    have h1 : Only lo hi w (w.setCell ⟨g, o, none⟩ v) := ⟨rfl, rfl, rfl, by simp, fun k _ hne => heap_setCell_other w ⟨g, o, none⟩ k v (fun e => by have e' : k = g := e; omega)⟩
    exact h1.trans (only_setCells lo hi g hlo hhi r (o + 1) _)

theorem zeroI (w : World) : (zeroValue 2).run Try.prog w = .ok (.int .i64 0) w := by kernel_rfl

set_option maxRecDepth 100000 in
set_option maxHeartbeats 2000000 in
theorem delete_any (g n c lo hi i : Nat) (l : List Int) (w : World) (h : Own I w lo hi 2 (.slice (some ⟨g, 0, none⟩) n c) l) (hin : i < n) (_hn : n ≤ 1048576) :
    Calls Try.prog 102 #[.slice (some ⟨g, 0, none⟩) n c, .int .i64 i, .int .i64 ((i : Int) + 1)] w fun e w' => e = .returned (.slice (some ⟨g, 0, none⟩) (n - 1) c) ∧
      Own I w' lo hi 2 (.slice (some ⟨g, 0, none⟩) (n - 1) c) (l.eraseIdx i) ∧ Only lo hi w w' := by
  obtain ⟨i0, hi0, hz0, hz1, hz2⟩ := info_parts infoI
  obtain ⟨cur, hg, hnc, hcm, hcs, hl, hcell, hlo, hhi⟩ := h.opened
  obtain ⟨news, hnews⟩ : ∃ news, news = (l.drop (i + 1)).map I := ⟨_, rfl⟩
  have hlen : news.length = n - (i + 1) := by rw [hnews]; simp [hl]
  have hread : ∀ k, k < c → (w.drew.cell? ⟨g, k, none⟩).isSome = true ∧ w.drew.frozen? ⟨g, k, none⟩ = false := fun k hk =>
    ⟨by show (w.cell? _).isSome = true; rw [cell_of_row w g k cur _ (0, 0) hg]; simp [hcs, hk], frozen_of_row w g k cur _ hg⟩
  have s1 : Hid (news.length = (n - (i + 1)) * 1) := by rw [Nat.mul_one]; exact hlen
  have s2 : Hid (∀ u ∈ news, u.oneCell' = true) := by
    intro u hu
    rw [hnews] at hu
    obtain ⟨x, _, rfl⟩ := List.mem_map.1 hu
    rfl
  have s3 : Hid (∀ t, t < news.length → (w.drew.cell? ⟨g, 0 + i * 1 + t, none⟩).isSome = true ∧ w.drew.frozen? ⟨g, 0 + i * 1 + t, none⟩ = false) := by
    intro t ht
    exact hread _ (by omega)
  obtain ⟨A, hA, hsrc⟩ : ∃ A : Addr, (if c = i + 1 then (some ⟨g, 0, none⟩ : Option Addr) else some ⟨g, i + 1, none⟩) = some A ∧ Hid (∀ t u, news[t]? = some u → w.drew.cell? (A.add t) = some u) := by
    by_cases hc : c = i + 1
    · refine ⟨⟨g, 0, none⟩, by simp [hc], fun t u hu => ?_⟩
      have := (List.getElem?_eq_some_iff.1 hu).1
      omega
    · refine ⟨⟨g, i + 1, none⟩, by simp [hc], fun t u hu => ?_⟩
      rw [hnews, List.getElem?_map, List.getElem?_drop] at hu
      obtain ⟨x, hx, rfl⟩ := Option.map_eq_some_iff.1 hu
      rw [addr_plain]
      show w.cell? _ = _
      rw [cell_of_row w g _ cur _ (0, 0) hg]
      exact hcell _ _ hx
  obtain ⟨W1, hW1⟩ : ∃ W1, W1 = w.drew.setCells g (0 + i * 1) news := ⟨_, rfl⟩
  obtain ⟨cur1, hg1, hcs1, hout1, hin1⟩ := heap_setCells g 2 news (0 + i * 1) w.drew cur hg
  rw [← hW1] at hg1
  have hO1 : Only lo hi W1 W1 := Only.refl _ _ _
  have hOw : Only lo hi w W1 := by rw [hW1]; exact (Only.refl _ _ _).drew.trans (only_setCells lo hi g hlo hhi _ _ _)
  have hcl : ∀ ty, (Builtin.clear_ #[43] ty #[.slice (some ⟨g, i + (n - (i + 1)), none⟩) (n - (i + (n - (i + 1)))) (c - (i + (n - (i + 1))))]).run Try.prog W1 = .ok (.tuple #[]) (W1.setCells g (i + (n - (i + 1))) (List.replicate (n - (i + (n - (i + 1)))) (.int .i64 0))) :=
    fun ty => Lib.run_clear_slice W1 _ _ ty _ Try.underlying43 zeroI rfl rfl g (i + (n - (i + 1))) _ _ (by omega)
      (fun t ht => by rw [cell_of_row W1 g _ cur1 _ (0, 0) hg1]; simp [hcs1, hcs]; omega) (fun t ht => frozen_of_row W1 g _ cur1 _ hg1)
  have HW := Lib.hid hW1
  have HCell := Lib.hid hcell
  have hic : i ≤ c := by omega
  have hjc : i + 1 ≤ c := by omega
  have hi1 : (0 : Int) ≤ (i : Int) + 1 := by omega
  have hi2 : (i : Int) + 1 ≤ (n : Int) := by omega
  clear hW1 hread hcell hO1
  go_enter Try.func102, Try.ntmps102
  go_wp2_with fail
  go_region_law (refine step_append_room rfl (.tmp 22) (.tmp 25) 43 rfl 2 i0 1 Try.underlying43 hi0 hz1 g 0 i c (by simp [Act.eval, Act.put]) A (n - (i + 1)) (c - (i + 1)) news (by simp [Act.eval, Act.put]) s1.out hsrc.out s2.out (by omega) s3.out ?_; rw [← HW.out])
  go_wp2
  go_ret
  obtain ⟨cur2, hg2, hcs2, hout2, hin2⟩ := heap_setCells g 2 (List.replicate (n - (i + (n - (i + 1)))) (.int .i64 0)) (i + (n - (i + 1))) W1 cur1 hg1
  refine ⟨by rw [show n - 1 = i + (n - (i + 1)) from by omega]; rfl, ?_, hOw.trans (only_setCells lo hi g hlo hhi _ _ _)⟩
  refine Own.shut hg2 (by omega) hcm (by rw [hcs2, hcs1, hcs]) (by rw [List.length_eraseIdx, hl, if_pos hin]) (fun j x hx => ?_) hlo hhi
  have hj : j < n - 1 := by
    have := (List.getElem?_eq_some_iff.1 hx).1
    rw [List.length_eraseIdx, hl, if_pos hin] at this
    exact this
  rw [hout2 j (.inl (by omega))]
  rw [List.getElem?_eraseIdx] at hx
  by_cases hji : j < i
  · rw [if_pos hji] at hx
    rw [hout1 j (.inl (by omega))]
    exact HCell.out j x hx
  · rw [if_neg hji] at hx
    have := hin1 (j - i) (by omega) (by omega)
    rw [show 0 + i * 1 + (j - i) = j from by omega] at this
    rw [this, hnews, List.getElem?_map, List.getElem?_drop, show i + 1 + (j - i) = j + 1 from by omega, hx]
    rfl
end Go.Proofs.Ytnfnmdeiaihgnaa
namespace Go.Proofs.Ytnfnmdeiaihgnaa
open Go.RowKit

def nums (n : Nat) : List Int := (List.range n).map fun (i : Nat) => (i : Int)
def rest (n : Nat) (out : List Int) : List Int := (nums n).filter fun y => decide (y ∉ out)
def oR (n : Nat) (r : Int) : Nat → Int
  | 0 => r
  | k + 1 => oR n r k % fac (n - (k + 1))
def oQ (n : Nat) (r : Int) (k : Nat) : Nat := (oR n r k / fac (n - (k + 1))).toNat
def oO (n : Nat) (r : Int) : Nat → List Int
  | 0 => []
  | k + 1 => oO n r k ++ [(rest n (oO n r k)).getD (oQ n r k) 0]
theorem nums_next (n : Nat) : nums (n + 1) = nums n ++ [(n : Int)] := by simp [nums, List.range_succ]
theorem nums_len (n : Nat) : (nums n).length = n := by simp [nums]
theorem nums_at (n i : Nat) (h : i < n) : (nums n)[i]? = some (i : Int) := by simp [nums, h]
theorem nums_nodup (n : Nat) : (nums n).Nodup := by
  induction n with
  | zero => simp [nums]
  | succ n ih =>
    rw [nums_next, List.nodup_append]
    refine ⟨ih, by simp, fun a ha b hb => ?_⟩
    simp [nums] at ha
    simp at hb
    obtain ⟨i, hi, rfl⟩ := ha
    omega
theorem rest_nil (n : Nat) : rest n [] = nums n := by simp [rest]
theorem erase_filter (x : Int) : ∀ (l : List Int) (q : Nat), l.Nodup → l[q]? = some x → l.eraseIdx q = l.filter fun y => decide (y ≠ x)
  | [], q, _, h => by simp at h
  | a :: t, 0, hd, h => by
    simp at h
    subst h
    have ha := (List.nodup_cons.1 hd).1
    have : ∀ y ∈ t, decide (y ≠ a) = true := fun y hy => by simp; rintro rfl; exact ha hy
    rw [List.eraseIdx_cons_zero, List.filter_cons_of_neg (by simp), List.filter_eq_self.2 this]
  | a :: t, q + 1, hd, h => by
    have h' : t[q]? = some x := by simpa using h
    have hx := List.mem_of_getElem? h'
    have ha := List.nodup_cons.1 hd
    have hne : a ≠ x := by rintro rfl; exact ha.1 hx
    rw [List.eraseIdx_cons_succ, erase_filter x t q ha.2 h', List.filter_cons_of_pos (by simpa using hne)]
theorem rest_next (n : Nat) (out : List Int) (q : Nat) (x : Int) (h : (rest n out)[q]? = some x) : (rest n out).eraseIdx q = rest n (out ++ [x]) := by
  have hd : (rest n out).Nodup := (nums_nodup n).filter _
  rw [erase_filter x _ q hd h]
  unfold rest
  rw [List.filter_filter]
  congr 1
  funext y
  rw [Bool.eq_iff_iff]
  simp
  constructor
  · rintro ⟨h1, h2⟩; exact ⟨h2, h1⟩
  · rintro ⟨h1, h2⟩; exact ⟨h2, h1⟩
theorem rest_up (m : Nat) (out : List Int) : rest (m + 1) out = rest m out ++ if (m : Int) ∉ out then [(m : Int)] else [] := by
  unfold rest
  rw [nums_next, List.filter_append]
  congr 1
  by_cases h : (m : Int) ∈ out <;> simp [h]
theorem rest_in (m n : Nat) (out : List Int) (h : m ≤ n) : ∃ t, rest n out = rest m out ++ t := by
  induction n with
  | zero => exact ⟨[], by rw [show m = 0 from by omega]; simp⟩
  | succ n ih =>
    by_cases e : m = n + 1
    · exact ⟨[], by rw [e]; simp⟩
    · obtain ⟨t, ht⟩ := ih (by omega)
      exact ⟨t ++ if (n : Int) ∉ out then [(n : Int)] else [], by rw [rest_up, ht, List.append_assoc]⟩
theorem rest_found (m n : Nat) (out : List Int) (h : m < n) (hm : (m : Int) ∉ out) : (rest n out)[(rest m out).length]? = some (m : Int) := by
  obtain ⟨t, ht⟩ := rest_in (m + 1) n out (by omega)
  rw [ht, rest_up, if_pos hm]
  simp
theorem ork_inv (n : Nat) (r : Int) (h0 : 0 ≤ r) (h1 : r < fac n) (k : Nat) (hk : k ≤ n) : 0 ≤ oR n r k ∧ oR n r k < fac (n - k) ∧ (rest n (oO n r k)).length = n - k ∧ (oO n r k).length = k := by
  induction k with
  | zero => exact ⟨h0, h1, by rw [show oO n r 0 = [] from rfl, rest_nil, nums_len]; rfl, rfl⟩
  | succ k ih =>
    obtain ⟨i1, i2, i3, i4⟩ := ih (by omega)
    have hf := fac_pos (n - (k + 1))
    have hd := fac_down n k (by omega)
    have hq0 : 0 ≤ oR n r k / fac (n - (k + 1)) := Int.ediv_nonneg i1 (by omega)
    have hq1 : oR n r k / fac (n - (k + 1)) < (n : Int) - k := Int.ediv_lt_of_lt_mul (by omega) (by rw [← hd]; exact i2)
    have hq : oQ n r k < n - k := by unfold oQ; omega
    refine ⟨Int.emod_nonneg _ (by omega), Int.emod_lt_of_pos _ (by omega), ?_, by simp [oO, i4]⟩
    have hx : (rest n (oO n r k))[oQ n r k]? = some ((rest n (oO n r k)).getD (oQ n r k) 0) := by
      rw [List.getD_eq_getElem?_getD, List.getElem?_eq_getElem (by omega)]
      rfl
    show (rest n (oO n r k ++ [_])).length = _
    rw [← rest_next n _ _ _ hx, List.length_eraseIdx, if_pos (by omega), i3]
    omega
theorem ork_q (n : Nat) (r : Int) (h0 : 0 ≤ r) (h1 : r < fac n) (k : Nat) (hk : k < n) : oR n r k / fac (n - (k + 1)) = (oQ n r k : Int) ∧ oQ n r k < n - k := by
  obtain ⟨i1, i2, _⟩ := ork_inv n r h0 h1 k (by omega)
  have hf := fac_pos (n - (k + 1))
  have hd := fac_down n k hk
  have hq0 : 0 ≤ oR n r k / fac (n - (k + 1)) := Int.ediv_nonneg i1 (by omega)
  have hq1 : oR n r k / fac (n - (k + 1)) < (n : Int) - k := Int.ediv_lt_of_lt_mul (by omega) (by rw [← hd]; exact i2)
  unfold oQ
  constructor <;> omega
theorem ork_x (n : Nat) (r : Int) (k : Nat) (x : Int) (hx : (rest n (oO n r k))[oQ n r k]? = some x) : oO n r (k + 1) = oO n r k ++ [x] := by
  show oO n r k ++ [_] = _
  rw [List.getD_eq_getElem?_getD, hx]
  rfl

def orkOk (n r : Int) : Prop := (0 ≤ n ∧ n ≤ 12) ∧ 0 ≤ r ∧ r < fac n.toNat
instance (n r : Int) : Decidable (orkOk n r) := by unfold orkOk; exact inferInstance
def orkR (n r : Int) : List Int := if orkOk n r then oO n.toNat r n.toNat else []
def orkC (n r : Int) : Int := if orkOk n r then 0 else 2

set_option maxHeartbeats 400000 in
theorem firstNumbers_any (n : Nat) (w : World) (hn : n ≤ 1048576) :
    Calls Try.prog 75 #[.int .i64 n] w fun e w' => ∃ g, e = .returned (.slice (some ⟨g, 0, none⟩) n n) ∧ Own I w' w.heap.size w'.heap.size 2 (.slice (some ⟨g, 0, none⟩) n n) (nums n) ∧ Below w.heap.size w w' := by
  obtain ⟨i0, hi0, hz0, hz1, hz2⟩ := info_parts infoI
  go_enter Try.func75, Try.ntmps75
  go_wp2_with (at_make; refine wp_fresh _ rfl _ _ 43 rfl 2 i0 (0 : Int) 8 Try.underlying43 hi0 hz0 hz1 hz2 rfl .i64 .i64 _ _ n rfl rfl rfl rfl (by omega) (by omega) ?_; intro g w1 ho1 hb1)
  have hs1 := hb1.size
  go_loopw [4, 9] (fun _ i wr => ∃ k : Nat, k ≤ n ∧ i = .int .i64 k ∧ Own I wr w.heap.size w1.heap.size 2 (.slice (some ⟨g, 0, none⟩) n n) ((nums n).take k ++ List.replicate (n - k) 0) ∧ Below w.heap.size w wr ∧ w1.heap.size ≤ wr.heap.size) (fun _ i _ => n - (intOf i).toNat)
  case atStart => exact ⟨0, Nat.zero_le _, rfl, by simpa using ho1, hb1, Nat.le_refl _⟩
  case round =>
    clear ho1
    obtain ⟨k, hk, rfl, ho, hb, hsz⟩ := hrel
    by_cases hlt : k < n
    · obtain ⟨g', z, hg, hg1, hg2, hg3, hz, hc2, hf2⟩ := ho.at_ hlt
      injection hg with hg
      injection hg with hg _ _
      subst hg
      have hset := ho.set_ (k := k) (k : Int)
      clear hz
      go_wp2
      go_roundw
      case rel =>
        refine ⟨k + 1, by omega, by go_num, ?_, hb.trans (hset.2.below (Nat.le_refl _) hb.size), Nat.le_trans hsz hset.2.size⟩
        have := hset.1
        rwa [copy_step (nums n) k n k (nums_len n) (nums_at n k hlt) hlt] at this
      case measure => simp [intOf]; omega
    · obtain rfl : k = n := by omega
      go_wp2
      go_ret
      refine ⟨g, rfl, ?_, hb⟩
      simpa [List.take_of_length_le (Nat.le_of_eq (nums_len k))] using ho.mono (Nat.le_refl _) hsz

/-- 'make([]T, 0, n)'. -/
theorem wp_fresh0 {α : Type} {enc : α → Value} {P : Program} (w : World) {ops : Array Oper} {rest : List Oper} {o : Oper} {a : Act} {Qx : Exit → Act → World → Prop} (hgd : o.guard = none) (lx cx : Operand) (t : TypeId) (hop : o.op = Op.makeSlice t lx cx)
    (e : TypeId) (i : TypeInfo) (z : Value) (bytes : Nat) (h1 : P.underlying t = some (.slice e)) (h2 : P.info? e = some i) (h3 : i.zero = some z) (h4 : i.size = 1) (hby : i.bytes = bytes)
    (kl kc : IntKind) (C : Int) (n : Nat) (hl : a.eval lx = .int kl 0) (hc : a.eval cx = .int kc C) (hC : C = (n : Int)) (hn : n ≤ 1099511627776) (hb : bytes ≤ 64)
    (h : ∀ g w', Own enc w' w.heap.size w'.heap.size e (.slice (some ⟨g, 0, none⟩) 0 n) ([] : List α) → Below w.heap.size w w' → wpList P ops Qx rest (a.put o.dst (.slice (some ⟨g, 0, none⟩) 0 n)) w') :
    wpList P ops Qx (o :: rest) a w := by
  have hbytes : bytes * n ≤ 64 * 1099511627776 := Nat.mul_le_mul hb hn
  refine wpList_make_own w hgd lx cx t hop w.heap.size e i z 1 h1 h2 h3 h4 kl kc C n hl hc hC (by rw [hby]; omega) (by unfold maxLen; omega) (Nat.le_refl _) ?_
  intro w' hown hg
  exact h _ w' (Own.here (by simpa using hown) (by simp)) ((Below.refl _ _).grown hg (Nat.le_refl _) (by simp))

set_option maxRecDepth 100000 in
set_option maxHeartbeats 2000000 in
theorem implOrk_any (n r : Int) (w : World) (hn : -9223372036854775808 ≤ n ∧ n ≤ 9223372036854775807) (hr : -9223372036854775808 ≤ r ∧ r ≤ 9223372036854775807) :
    Calls Try.prog 77 #[.int .i64 n, .int .i64 r] w fun e w' => LC w (orkR n r) (orkC n r) e w' := by
  by_cases h1 : n < 0
  · have HR : Hid (orkR n r = []) := by unfold orkR; rw [if_neg (fun hh => by have := hh.1.1; omega)]; exact rfl
    have HC : Hid (orkC n r = 2) := by unfold orkC; rw [if_neg (fun hh => by have := hh.1.1; omega)]; exact rfl
    go_enter Try.func77, Try.ntmps77
    go_wp2_with fail
    go_ret2
    exact LC.nil_ HR.out HC.out (Below.refl _ _)
  · have h1' : 0 ≤ n := by omega
    obtain ⟨m, rfl⟩ := Int.eq_ofNat_of_zero_le h1'
    by_cases h2 : 12 < m
    · have HR : Hid (orkR m r = []) := by unfold orkR; rw [if_neg (fun hh => by have := hh.1.2; omega)]; exact rfl
      have HC : Hid (orkC m r = 2) := by unfold orkC; rw [if_neg (fun hh => by have := hh.1.2; omega)]; exact rfl
      have h2' : (12 : Int) < (m : Int) := by omega
      go_enter Try.func77, Try.ntmps77
      go_wp2_with fail
      go_ret2
      exact LC.nil_ HR.out HC.out (Below.refl _ _)
    · have h2' : m ≤ 12 := by omega
      by_cases h3 : r < 0
      · have HR : Hid (orkR m r = []) := by unfold orkR; rw [if_neg (fun hh => by have := hh.2.1; omega)]; exact rfl
        have HC : Hid (orkC m r = 2) := by unfold orkC; rw [if_neg (fun hh => by have := hh.2.1; omega)]; exact rfl
        go_enter Try.func77, Try.ntmps77
        go_wp2_with fail
        go_ret2
        exact LC.nil_ HR.out HC.out (Below.refl _ _)
      · have h3' : 0 ≤ r := by omega
        by_cases h4 : r < fac m
        · have hok : orkOk m r := ⟨⟨by omega, by omega⟩, h3', by simpa using h4⟩
          have HR : Hid (orkR m r = oO m r m) := by unfold orkR; rw [if_pos hok]; exact rfl
          have HC : Hid (orkC m r = 0) := by unfold orkC; rw [if_pos hok]; exact rfl
          have H4 := Lib.hid h4
          have HN : Hid (nums m = rest m (oO m r 0)) := (rest_nil m).symm
          obtain ⟨i0, hi0, hz0, hz1, hz2⟩ := info_parts infoI
          clear hok h1 h2 h3 hr hn
          go_enter Try.func77, Try.ntmps77
          go_wp2_with fail
          refine (implFac_any m _ h2').mono ?_
          rintro e _ ⟨rfl, rfl⟩
          go_wp2_with fail
          refine (firstNumbers_any m _ (by omega)).mono ?_
          rintro e w1 ⟨g, rfl, ho1, hb1⟩
          have hz1' := hb1.size
          clear h4
          go_wp2_with (at_make; refine wp_fresh0 (enc := I) _ rfl _ _ 43 rfl 2 i0 (.int .i64 0) 8 Try.underlying43 hi0 hz0 hz1 hz2 .i64 .i64 _ m rfl rfl rfl (by omega) (by omega) ?_; intro g2 w2 ho2 hb2)
          have hz2' := hb2.size
          rw [HN.out] at ho1
          have ho1' := (ho1.below hb2 (Nat.le_refl _))
          have hb2' := hb1.trans (hb2.mono (by omega))
          go_loopw [1, 6, 7, 8, 9] (fun rr lf rs _ _ wr => ∃ k : Nat, k ≤ m ∧ rr = .int .i64 (oR m r k) ∧ (∃ cl, lf = .slice (some ⟨g, 0, none⟩) (m - k) cl ∧ Own I wr w.heap.size w1.heap.size 2 (.slice (some ⟨g, 0, none⟩) (m - k) cl) (rest m (oO m r k))) ∧
              (∃ A c, rs = .slice A k c ∧ Own I wr w1.heap.size wr.heap.size 2 (.slice A k c) (oO m r k)) ∧ Below w.heap.size w wr ∧ w2.heap.size ≤ wr.heap.size) (fun _ lf _ _ _ _ => match lf with | .slice _ q _ => q | _ => 0)
          case atStart => exact ⟨0, Nat.zero_le _, rfl, ⟨_, rfl, ho1'⟩, ⟨_, _, rfl, ho2⟩, hb2', Nat.le_refl _⟩
          case round =>
            clear ho1 ho1' ho2 hb2'
            obtain ⟨k, hk, rfl, ⟨cl, rfl, hol⟩, ⟨A, c, rfl, hor⟩, hb, hsz⟩ := hrel
            by_cases hlt : k < m
            · obtain ⟨i1, i2, i3, i4⟩ := ork_inv m r h3' H4.out k hk
              obtain ⟨hqe, hql⟩ := ork_q m r h3' H4.out k hlt
              obtain ⟨q, hqd⟩ : ∃ q, q = oQ m r k := ⟨_, rfl⟩
              rw [← hqd] at hqe hql
              have hf1 := fac_bd (m - (k + 1)) (by omega)
              have hf2 := fac_bd (m - k) (by omega)
              have hf3 := hf1.1
              have hf4 := hf1.2
              have hR1 : oR m r k ≤ 479001600 := by omega
              obtain ⟨g', x, hg, hg1, hg2, hg3, hx, hcx, hfx⟩ := hol.at_ hql
              injection hg with hg
              injection hg with hg _ _
              subst hg
              have HO : Hid (oO m r (k + 1) = oO m r k ++ [x]) := ork_x m r k x (by rw [← hqd]; exact hx)
              have HE : Hid ((rest m (oO m r k)).eraseIdx q = rest m (oO m r k ++ [x])) := rest_next m (oO m r k) q x hx
              have HRR : Hid (oR m r (k + 1) = oR m r k % fac (m - (k + 1))) := rfl
              have hpos : 0 < m - k := by omega
              clear i2 i3 i4 hqd hf1 hf2 hx
              go_wp2_with fail
              refine (implFac_int _ _ (by omega) (by omega)).mono ?_
              rintro e _ ⟨rfl, rfl⟩
              rw [show (((m - k : Nat) : Int) - 1).toNat = m - (k + 1) from by omega]
              go_wp2_with (at_builtin; refine wp_push _ rfl _ _ 43 rfl 2 i0 _ 8 Try.underlying43 hi0 hz0 hz1 hz2 rfl A k c _ _ _ rfl hor x rfl rfl (by omega) (by omega) (by omega) ?_; intro A4 c4 w4 ho4 hm4)
              have hz4 := hm4.size
              have hol4 := hol.only hm4 (.inl (Nat.le_refl _))
              have hb4 := hb.trans (hm4.below (by omega) (by omega))
              refine (delete_any g (m - k) cl _ _ q _ _ hol4 hql (by omega)).mono ?_
              rintro e w5 ⟨rfl, ho5, hm5⟩
              have hz5 := hm5.size
              have ho45 := ho4.only hm5 (.inr (Nat.le_refl _))
              have hb5 := hb4.trans (hm5.below (Nat.le_refl _) (by omega))
              rw [HE.out, ← HO.out] at ho5
              rw [← HO.out] at ho45
              have HZ : Hid (m - k - 1 = m - (k + 1)) := show m - k - 1 = m - (k + 1) by omega
              go_wp2_with fail
              go_roundw
              case rel => exact ⟨k + 1, by omega, by rw [HRR.out], ⟨cl, by rw [← HZ.out], by rw [← HZ.out]; exact ho5⟩, ⟨A4, c4, rfl, ho45.mono (Nat.le_refl _) hz5⟩, hb5, by omega⟩
              case measure => simp; omega
            · obtain rfl : k = m := by omega
              have hz : decide (0 < k - k) = false := by simp
              go_wp2_with fail
              go_ret2
              exact LC.mk_ HR.out HC.out hor (by omega) (Nat.le_refl _) (by omega) hb
        · have h4' : fac m ≤ r := by omega
          have hno : ¬ orkOk m r := fun hh => h4 (by simpa using hh.2.2)
          have HR : Hid (orkR m r = []) := by unfold orkR; rw [if_neg hno]; exact rfl
          have HC : Hid (orkC m r = 2) := by unfold orkC; rw [if_neg hno]; exact rfl
          clear hno
          go_enter Try.func77, Try.ntmps77
          go_wp2_with fail
          refine (implFac_any m _ h2').mono ?_
          rintro e _ ⟨rfl, rfl⟩
          go_wp2_with fail
          go_ret2
          exact LC.nil_ HR.out HC.out (Below.refl _ _)

theorem rest_len_le (x m : Nat) (out : List Int) (h : x ≤ m) : (rest x out).length ≤ (rest m out).length := by
  obtain ⟨t, ht⟩ := rest_in x m out h
  rw [ht, List.length_append]
  omega

set_option maxHeartbeats 4000000 in
theorem specOrk_any (n r : Int) (w : World) (hn : -9223372036854775808 ≤ n ∧ n ≤ 9223372036854775807) (hr : -9223372036854775808 ≤ r ∧ r ≤ 9223372036854775807) :
    Calls Try.prog 79 #[.int .i64 n, .int .i64 r] w fun e w' => LC w (orkR n r) (orkC n r) e w' := by
  by_cases h1 : 0 ≤ n ∧ n ≤ 12
  · obtain ⟨m, rfl⟩ := Int.eq_ofNat_of_zero_le h1.1
    have h2' : m ≤ 12 := by omega
    have hfm := fac_bd m h2'
    have hfm1 := hfm.1
    have hfm2 := hfm.2
    by_cases h4 : 0 ≤ r ∧ r ≤ fac m - 1
    · have hok : orkOk m r := ⟨h1, h4.1, by have := h4.2; simp; omega⟩
      have HR : Hid (orkR m r = oO m r m) := by unfold orkR; rw [if_pos hok]; exact rfl
      have HC : Hid (orkC m r = 0) := by unfold orkC; rw [if_pos hok]; exact rfl
      have h3' := h4.1
      have H4 : Hid (r < fac m) := show r < fac m by omega
      obtain ⟨i0, hi0, hz0, hz1, hz2⟩ := info_parts infoI
      have hl0 := Own.lit0 I w 2
      have hb3 : Below w.heap.size w (w.alloc (.cells #[] 2)) := (Below.refl _ _).alloc (Nat.le_refl _) _
      clear hok hn hr hfm
      go_enter Try.func79, Try.ntmps79
      go_wp2_with fail
      refine (l01In_yes _ _ _ _ h1.1 h1.2).mono ?_
      rintro e _ ⟨rfl, rfl⟩
      go_wp2_with fail
      refine (specFac_any m _ h2').mono ?_
      rintro e _ ⟨rfl, rfl⟩
      go_wp2_with fail
      refine (l01In_yes _ _ _ _ h4.1 h4.2).mono ?_
      rintro e _ ⟨rfl, rfl⟩
      clear h1 h4 hfm1 hfm2
      go_wp2_with fail
      go_loopw [1, 6, 7, 8, 9, 10] (fun rr rs i _ _ _ wr => ∃ k : Nat, k ≤ m ∧ i = .int .i64 k ∧ rr = .int .i64 (oR m r k) ∧
          (∃ A c, rs = .slice A k c ∧ Own I wr w.heap.size wr.heap.size 2 (.slice A k c) (oO m r k)) ∧ Below w.heap.size w wr ∧ w.heap.size ≤ wr.heap.size) (fun _ _ i _ _ _ _ => m - (intOf i).toNat)
      case atStart => exact ⟨0, Nat.zero_le _, rfl, rfl, ⟨_, _, rfl, hl0.mono (Nat.le_refl _) (by simp)⟩, hb3, by simp⟩
      case round =>
        clear hl0 hb3
        obtain ⟨k, hk, rfl, rfl, ⟨A, c, rfl, hor⟩, hb, hsz⟩ := hrel
        by_cases hlt : k < m
        · obtain ⟨i1, i2, i3, i4⟩ := ork_inv m r h3' H4.out k hk
          obtain ⟨hqe, hql⟩ := ork_q m r h3' H4.out k hlt
          obtain ⟨q, hqd⟩ : ∃ q, q = oQ m r k := ⟨_, rfl⟩
          rw [← hqd] at hqe hql
          have HQE := Lib.hid hqe
          have hf1 := fac_bd (m - (k + 1)) (by omega)
          have hf2 := fac_bd (m - k) (by omega)
          have hf3 := hf1.1
          have hf4 := hf1.2
          have hR1 : oR m r k ≤ 479001600 := by omega
          have HQD := Lib.hid hqd
          have HLN := Lib.hid i3
          have HRR : Hid (oR m r (k + 1) = oR m r k % fac (m - (k + 1))) := rfl
          clear i2 i3 i4 hqd hf1 hf2 hqe
          go_wp2_with fail
          refine (specFac_int _ _ (by omega) (by omega)).mono ?_
          rintro e _ ⟨rfl, rfl⟩
          rw [show ((m : Int) - (k : Int) - 1).toNat = m - (k + 1) from by omega]
          go_wp2_with fail
          go_loop [6, 9, 10] (fun rs sk x => ∃ j : Nat, j ≤ m ∧ x = .int .i64 j ∧ (rest j (oO m r k)).length ≤ q ∧ sk = .int .i64 ((q : Int) - (rest j (oO m r k)).length) ∧ rs = .slice A k c) (fun _ _ x => m - (intOf x).toNat)
          case atStart => exact ⟨0, Nat.zero_le _, rfl, by simp [rest, nums], by rw [HQE.out]; simp [rest, nums], rfl⟩
          case round =>
            obtain ⟨j, hj, rfl, hle, rfl, rfl⟩ := hrel
            have hjm : j < m := by
              rcases Nat.lt_or_ge j m with h | h
              · exact h
              · have hjm : j = m := by omega
                rw [hjm, HLN.out] at hle
                omega
            by_cases hm : (j : Int) ∈ oO m r k
            · have HM := Lib.hid hm
              have HU : Hid (rest (j + 1) (oO m r k) = rest j (oO m r k)) := by
                show _ = _
                rw [rest_up, if_neg (by simpa using hm), List.append_nil]
              clear hm
              go_wp2_with fail
              refine (l01Has_yes _ k c _ _ _ _ hor.rd (by omega) HM.out).mono ?_
              rintro e _ ⟨rfl, rfl⟩
              go_wp2_with fail
              go_round
              case rel => exact ⟨j + 1, by omega, by go_num, by rw [HU.out]; exact hle, by rw [HU.out], rfl⟩
              case measure => simp [intOf]; omega
            · have HM := Lib.hid hm
              have HU : Hid (rest (j + 1) (oO m r k) = rest j (oO m r k) ++ [(j : Int)]) := by
                show _ = _
                rw [rest_up, if_pos hm]
              have HF := Lib.hid (rest_found j m (oO m r k) hjm hm)
              clear hm
              by_cases hz : (rest j (oO m r k)).length = q
              · have HO : Hid (oO m r (k + 1) = oO m r k ++ [(j : Int)]) := ork_x m r k j (by rw [← HQD.out, ← hz]; exact HF.out)
                have hz0 : (((q : Int) - (rest j (oO m r k)).length) == 0) = true := by simp; omega
                clear hz
                go_wp2_with fail
                refine (l01Has_no _ k c _ _ _ _ hor.rd (by omega) HM.out).mono ?_
                rintro e _ ⟨rfl, rfl⟩
                go_wp2_with (at_builtin; refine wp_push _ rfl _ _ 43 rfl 2 i0 _ 8 Try.underlying43 hi0 ‹_› hz1 hz2 rfl A k c _ _ _ rfl hor (j : Int) rfl rfl (by omega) (by omega) (by omega) ?_; intro A4 c4 w4 ho4 hm4)
                go_roundw
                case rel => exact ⟨k + 1, by omega, by go_num, by rw [HRR.out], ⟨A4, c4, rfl, by rw [HO.out]; exact ho4⟩, hb.trans (hm4.below (Nat.le_refl _) (by omega)), Nat.le_trans hsz hm4.size⟩
                case measure => simp [intOf]; omega
              · have hz0 : (((q : Int) - (rest j (oO m r k)).length) == 0) = false := by simp; omega
                have hlt2 : (rest j (oO m r k)).length < q := by omega
                have hlt3 : ((rest j (oO m r k)).length : Int) < (q : Int) := by omega
                clear hz
                go_wp2_with fail
                refine (l01Has_no _ k c _ _ _ _ hor.rd (by omega) HM.out).mono ?_
                rintro e _ ⟨rfl, rfl⟩
                go_wp2_with fail
                go_round
                case rel => exact ⟨j + 1, by omega, by go_num, by rw [HU.out, List.length_append]; exact hlt2, by rw [HU.out, List.length_append]; go_num, rfl⟩
                case measure => simp [intOf]; omega
        · obtain rfl : k = m := by omega
          go_wp2_with fail
          go_ret2
          exact LC.mk_ HR.out HC.out hor (Nat.le_refl _) (Nat.le_refl _) (by omega) hb
    · have hno : ¬ orkOk m r := fun hh => h4 ⟨hh.2.1, by have := hh.2.2; simp at this; omega⟩
      have HR : Hid (orkR m r = []) := by unfold orkR; rw [if_neg hno]; exact rfl
      have HC : Hid (orkC m r = 2) := by unfold orkC; rw [if_neg hno]; exact rfl
      have H4 : Hid (r < 0 ∨ fac m - 1 < r) := show r < 0 ∨ fac m - 1 < r by omega
      clear hno h4
      go_enter Try.func79, Try.ntmps79
      go_wp2_with fail
      refine (l01In_yes _ _ _ _ h1.1 h1.2).mono ?_
      rintro e _ ⟨rfl, rfl⟩
      go_wp2_with fail
      refine (specFac_any m _ h2').mono ?_
      rintro e _ ⟨rfl, rfl⟩
      go_wp2_with fail
      refine (l01In_no _ _ _ _ H4.out).mono ?_
      rintro e _ ⟨rfl, rfl⟩
      go_wp2_with fail
      go_ret2
      exact LC.nil_ HR.out HC.out (Below.refl _ _)
  · have hno : ¬ orkOk n r := fun hh => h1 hh.1
    have HR : Hid (orkR n r = []) := by unfold orkR; rw [if_neg hno]; exact rfl
    have HC : Hid (orkC n r = 2) := by unfold orkC; rw [if_neg hno]; exact rfl
    have H1 : Hid (n < 0 ∨ 12 < n) := show n < 0 ∨ 12 < n by omega
    clear hno h1
    go_enter Try.func79, Try.ntmps79
    go_wp2_with fail
    refine (l01In_no _ _ _ _ H1.out).mono ?_
    rintro e _ ⟨rfl, rfl⟩
    go_wp2_with fail
    go_ret2
    exact LC.nil_ HR.out HC.out (Below.refl _ _)
end Go.Proofs.Ytnfnmdeiaihgnaa
namespace Go.Proofs.Ytnfnmdeiaihgnaa

theorem nodup_le (n : Nat) : ∀ (l : List Int), l.Nodup → (∀ x ∈ l, 0 ≤ x ∧ x < (n : Int)) → l.length ≤ n := by
  induction n with
  | zero =>
    intro l _ h
    cases l with
    | nil => simp
    | cons x r => have := h x (by simp); omega
  | succ n ih =>
    intro l hd h
    have h1 : (l.erase (n : Int)).Nodup := hd.erase _
    have h2 := ih (l.erase (n : Int)) h1 fun x hx => by
      have hm := List.mem_of_mem_erase hx
      have h3 := h x hm
      have hne : x ≠ (n : Int) := by
        rintro rfl
        exact (hd.mem_erase_iff.1 hx).1 rfl
      omega
    have h3 := List.length_erase (a := (n : Int)) (l := l)
    split at h3 <;> omega
theorem ord_onto (l : List Int) (h : isOrd l) (j : Nat) (hj : j < l.length) : ∃ k, k < l.length ∧ l[k]? = some (j : Int) := by
  have hm : (j : Int) ∈ l := by
    refine Decidable.byContradiction fun hn => ?_
    have := nodup_le l.length ((j : Int) :: l) (List.nodup_cons.2 ⟨hn, h.2.2⟩) fun x hx => by
      rcases List.mem_cons.1 hx with rfl | hx
      · omega
      · exact h.2.1 x hx
    simp at this
    omega
  obtain ⟨k, hk, e⟩ := List.mem_iff_getElem.1 hm
  exact ⟨k, hk, by rw [List.getElem?_eq_getElem hk, e]⟩
theorem ord_inj (l : List Int) (h : isOrd l) (i j : Nat) (x : Int) (hi : l[i]? = some x) (hj : l[j]? = some x) : i = j :=
  (List.getElem?_inj (List.getElem?_eq_some_iff.1 hi).1 h.2.2).1 (hi.trans hj.symm)
theorem ord_nat (l : List Int) (h : isOrd l) (k : Nat) (hk : k < l.length) : ∃ x : Nat, l[k]? = some (x : Int) ∧ x < l.length := by
  have hx := ord_at l h k l[k] (List.getElem?_eq_getElem hk)
  obtain ⟨x, e⟩ := Int.eq_ofNat_of_zero_le hx.1
  exact ⟨x, by rw [List.getElem?_eq_getElem hk, e], by omega⟩
/-- A list of n numbers is an order where each place has a number below n and no two places have one. -/
theorem ord_mk (l : List Int) (h64 : l.length ≤ 64) (h1 : ∀ k, k < l.length → ∃ x : Nat, l[k]? = some (x : Int) ∧ x < l.length) (h2 : ∀ (i j : Nat) (x : Int), l[i]? = some x → l[j]? = some x → i = j) : isOrd l := by
  refine ⟨h64, fun x hx => ?_, ?_⟩
  · obtain ⟨k, hk, e⟩ := List.mem_iff_getElem.1 hx
    obtain ⟨y, hy, hl⟩ := h1 k hk
    rw [List.getElem?_eq_getElem hk, e] at hy
    injection hy with hy
    omega
  · refine List.pairwise_iff_getElem.2 fun i j hi hj hij e => ?_
    have := h2 i j l[i] (List.getElem?_eq_getElem hi) (by rw [List.getElem?_eq_getElem hj, e])
    omega

theorem inv_at (l : List Int) (h : isOrd l) (m k : Nat) (hm : m ≤ l.length) (hk : k < m) (j : Nat) (hj : l[k]? = some (j : Int)) : (invTo l m)[j]? = some (k : Int) := by
  induction m with
  | zero => omega
  | succ m ih =>
    obtain ⟨x, hx, hxl⟩ := ord_nat l h m (by omega)
    rw [invTo_next l m x hx, List.getElem?_set]
    by_cases e : x = j
    · subst e
      rw [if_pos rfl, if_pos (by rw [invTo_len]; exact hxl)]
      rw [ord_inj l h k m _ hj hx]
    · rw [if_neg e]
      exact ih (by omega) (by
        rcases Nat.lt_or_ge k m with hh | hh
        · exact hh
        · have : k = m := by omega
          subst this
          rw [hj] at hx
          injection hx with hx
          omega)
theorem inv_get (l : List Int) (h : isOrd l) (j : Nat) (hj : j < l.length) : ∃ k, k < l.length ∧ l[k]? = some (j : Int) ∧ (invTo l l.length)[j]? = some (k : Int) := by
  obtain ⟨k, hk, e⟩ := ord_onto l h j hj
  exact ⟨k, hk, e, inv_at l h l.length k (Nat.le_refl _) hk j e⟩
theorem inv_ord (l : List Int) (h : isOrd l) : isOrd (invTo l l.length) := by
  refine ord_mk _ (by rw [invTo_len]; exact h.1) (fun j hj => ?_) (fun i j x hi hj => ?_)
  · rw [invTo_len] at hj ⊢
    obtain ⟨k, hk, _, e⟩ := inv_get l h j hj
    exact ⟨k, e, hk⟩
  · have hi' : i < l.length := by rw [← invTo_len l l.length]; exact (List.getElem?_eq_some_iff.1 hi).1
    have hj' : j < l.length := by rw [← invTo_len l l.length]; exact (List.getElem?_eq_some_iff.1 hj).1
    obtain ⟨k, _, e1, e2⟩ := inv_get l h i hi'
    obtain ⟨k', _, e3, e4⟩ := inv_get l h j hj'
    rw [hi] at e2
    rw [hj] at e4
    rw [e2] at e4
    injection e4 with e4
    have : k = k' := by omega
    subst this
    rw [e1] at e3
    injection e3 with e3
    omega
theorem com_inv (l : List Int) (h : isOrd l) (j : Nat) (hj : j < l.length) : (comL l (invTo l l.length))[j]? = some (j : Int) := by
  obtain ⟨k, _, e1, e2⟩ := inv_get l h j hj
  exact comL_at l _ j k _ e2 e1
theorem com_ord (p q : List Int) (hp : isOrd p) (hq : isOrd q) (hl : p.length = q.length) : isOrd (comL p q) := by
  have at_ : ∀ k, k < q.length → ∃ j x : Nat, q[k]? = some (j : Int) ∧ p[j]? = some (x : Int) ∧ (comL p q)[k]? = some (x : Int) ∧ x < q.length := by
    intro k hk
    obtain ⟨j, h1, h2⟩ := ord_nat q hq k hk
    obtain ⟨x, h3, h4⟩ := ord_nat p hp j (by omega)
    exact ⟨j, x, h1, h3, comL_at p q k j x h1 h3, by omega⟩
  refine ord_mk _ (by rw [comL_len]; exact hq.1) (fun k hk => ?_) (fun i j x hi hj => ?_)
  · rw [comL_len] at hk ⊢
    obtain ⟨_, x, _, _, h1, h2⟩ := at_ k hk
    exact ⟨x, h1, h2⟩
  · have hi' : i < q.length := by rw [← comL_len p q]; exact (List.getElem?_eq_some_iff.1 hi).1
    have hj' : j < q.length := by rw [← comL_len p q]; exact (List.getElem?_eq_some_iff.1 hj).1
    obtain ⟨a, y, h1, h2, h3, _⟩ := at_ i hi'
    obtain ⟨b, z, h4, h5, h6, _⟩ := at_ j hj'
    rw [hi] at h3
    rw [hj] at h6
    rw [h3] at h6
    injection h6 with h6
    have : y = z := by omega
    subst this
    have := ord_inj p hp a b _ h2 h5
    subst this
    exact ord_inj q hq i j _ h1 h4
theorem inv_codes (l : List Int) (h : isOrd l) : comC l (invTo l l.length) = 0 ∧ comR l (invTo l l.length) = comL l (invTo l l.length) := by
  have h1 := inv_ord l h
  have h2 := invTo_len l l.length
  unfold comC comR
  rw [if_pos ⟨h, h1⟩, if_pos h2.symm, if_pos ⟨h, h1, h2.symm⟩]
  exact ⟨rfl, rfl⟩
theorem com_code (p q : List Int) (h : comC p q = 0) : isOrd (comR p q) := by
  unfold comC at h
  split at h
  · rename_i hh
    split at h
    · rename_i hl
      unfold comR
      rw [if_pos ⟨hh.1, hh.2, hl⟩]
      exact com_ord p q hh.1 hh.2 hl
    · omega
  · omega
end Go.Proofs.Ytnfnmdeiaihgnaa
namespace Go.Proofs.Ytnfnmdeiaihgnaa

theorem countP_up (x : Int) : ∀ (d : List Int), d.Nodup → d.countP (fun y => decide (y < x + 1)) = d.countP (fun y => decide (y < x)) + if x ∈ d then 1 else 0
  | [], _ => by simp
  | y :: r, hd => by
    have h1 := List.nodup_cons.1 hd
    have ih := countP_up x r h1.2
    by_cases e : y = x
    · subst e
      rw [List.countP_cons_of_pos (by simp; omega), List.countP_cons_of_neg (by simp), ih, if_neg h1.1, if_pos (by simp)]
    · have hm : (x ∈ y :: r) ↔ x ∈ r := by
        rw [List.mem_cons]
        exact ⟨fun h => h.elim (fun h => absurd h.symm e) id, .inr⟩
      simp only [hm]
      by_cases hy : y < x
      · rw [List.countP_cons_of_pos (by simp; omega), List.countP_cons_of_pos (by simp; omega), ih]
        omega
      · rw [List.countP_cons_of_neg (by simp; omega), List.countP_cons_of_neg (by simp; omega), ih]
theorem countP_nums (d : List Int) (hd : d.Nodup) (h0 : ∀ y ∈ d, 0 ≤ y) (x : Nat) : d.countP (fun y => decide (y < (x : Int))) = ((nums x).filter fun y => decide (y ∈ d)).length := by
  induction x with
  | zero =>
    have : ∀ y ∈ d, ¬ (decide (y < ((0 : Nat) : Int)) = true) := fun y hy => by have := h0 y hy; simp; omega
    rw [List.countP_eq_zero.2 this]
    simp [nums]
  | succ x ih =>
    rw [nums_next, List.filter_append, List.length_append, ← ih]
    have := countP_up (x : Int) d hd
    rw [show ((x + 1 : Nat) : Int) = (x : Int) + 1 from by omega, this]
    by_cases hx : (x : Int) ∈ d <;> simp [hx]
/-- What stands behind the place k and is less than what stands there: the free numbers below it. -/
theorem less_rest (l : List Int) (h : isOrd l) (k x : Nat) (hx : l[k]? = some (x : Int)) : lessAt l k = (rest x (l.take k)).length := by
  have hk : k < l.length := (List.getElem?_eq_some_iff.1 hx).1
  have hdn : (l.drop (k + 1)).Nodup := h.2.2.sublist (List.drop_sublist _ _)
  have hd0 : ∀ y ∈ l.drop (k + 1), 0 ≤ y := fun y hy => (h.2.1 y (List.mem_of_mem_drop hy)).1
  have e1 : lessAt l k = (l.drop (k + 1)).countP (fun y => decide (y < (x : Int))) := by
    unfold lessAt lessTo
    rw [List.getD_eq_getElem?_getD, hx, List.take_of_length_le (by simp)]
    rfl
  rw [e1, countP_nums _ hdn hd0 x]
  unfold rest
  congr 1
  refine List.filter_congr fun y hy => ?_
  obtain ⟨i, hi, rfl⟩ := List.mem_map.1 hy
  have hix : i < x := List.mem_range.1 hi
  have hxl := (ord_at l h k x hx).2
  obtain ⟨j, hj, ej⟩ := ord_onto l h i (by omega)
  rw [decide_eq_decide]
  constructor
  · intro hm hm'
    obtain ⟨a, ha, ea⟩ := List.mem_iff_getElem.1 hm
    obtain ⟨b, hb, eb⟩ := List.mem_iff_getElem.1 hm'
    have h1 : l[k + 1 + a]? = some (i : Int) := by rw [← List.getElem?_drop, List.getElem?_eq_getElem ha, ea]
    have h2 : l[b]? = some (i : Int) := by
      have hbk : b < k := by simp at hb; omega
      have := List.getElem?_eq_getElem hb
      rw [eb, List.getElem?_take, if_pos hbk] at this
      exact this
    have := ord_inj l h _ _ _ h1 h2
    simp at hb
    omega
  · intro hm
    have hjk : j ≠ k := by
      rintro rfl
      rw [ej] at hx
      injection hx with hx
      omega
    rcases Nat.lt_or_ge j k with hlt | hge
    · refine absurd (List.mem_of_getElem? (i := j) ?_) hm
      rw [List.getElem?_take, if_pos hlt]
      exact ej
    · refine List.mem_of_getElem? (i := j - (k + 1)) ?_
      rw [List.getElem?_drop, show k + 1 + (j - (k + 1)) = j from by omega]
      exact ej
theorem free_at (l : List Int) (h : isOrd l) (k x : Nat) (hx : l[k]? = some (x : Int)) : (rest l.length (l.take k))[lessAt l k]? = some (x : Int) := by
  have hxl := (ord_at l h k x hx).2
  rw [less_rest l h k x hx]
  refine rest_found x l.length _ (by omega) fun hm => ?_
  obtain ⟨b, hb, eb⟩ := List.mem_iff_getElem.1 hm
  have hbk : b < k := by simp at hb; omega
  have h2 : l[b]? = some (x : Int) := by
    have := List.getElem?_eq_getElem hb
    rw [eb, List.getElem?_take, if_pos hbk] at this
    exact this
  have := ord_inj l h _ _ _ hx h2
  omega

/-- What is left of the rank behind the place k. -/
def tl (l : List Int) (k : Nat) : Int := rk l l.length - rk l k * fac (l.length - k)
theorem tl_step (l : List Int) (k : Nat) (h : k < l.length) : tl l k = lessAt l k * fac (l.length - (k + 1)) + tl l (k + 1) := by
  have := rk_step l k h
  unfold tl
  omega
theorem tl_bd (l : List Int) (j k : Nat) (h : k + j = l.length) : 0 ≤ tl l k ∧ tl l k < fac (l.length - k) := by
  induction j generalizing k with
  | zero =>
    have : k = l.length := by omega
    subst this
    unfold tl
    rw [Nat.sub_self]
    simp [fac]
  | succ j ih =>
    obtain ⟨h0, h1⟩ := ih (k + 1) (by omega)
    have hs := tl_step l k (by omega)
    have hf := fac_pos (l.length - (k + 1))
    have hd := fac_down l.length k (by omega)
    have hl := lessAt_le l k
    have h2 : 0 ≤ (lessAt l k : Int) * fac (l.length - (k + 1)) := Int.mul_nonneg (by omega) (by omega)
    have h3 : ((lessAt l k : Int) + 1) * fac (l.length - (k + 1)) ≤ ((l.length : Int) - k) * fac (l.length - (k + 1)) := Int.mul_le_mul_of_nonneg_right (by omega) (by omega)
    rw [← hd, Int.add_mul] at h3
    omega
theorem tl_zero (l : List Int) : tl l 0 = rk l l.length := by simp [tl, rk]
theorem rk_range (l : List Int) : 0 ≤ rk l l.length ∧ rk l l.length < fac l.length := by
  have := tl_bd l l.length 0 (by omega)
  rwa [tl_zero, Nat.sub_zero] at this
theorem found_of (l : List Int) (h : isOrd l) (k : Nat) (hk : k ≤ l.length) : oR l.length (rk l l.length) k = tl l k ∧ oO l.length (rk l l.length) k = l.take k := by
  induction k with
  | zero => exact ⟨(tl_zero l).symm, by simp [oO]⟩
  | succ k ih =>
    obtain ⟨i1, i2⟩ := ih (by omega)
    obtain ⟨x, hx, _⟩ := ord_nat l h k (by omega)
    have hf := fac_pos (l.length - (k + 1))
    have hs := tl_step l k (by omega)
    have hb := tl_bd l (l.length - (k + 1)) (k + 1) (by omega)
    have e1 : oR l.length (rk l l.length) (k + 1) = oR l.length (rk l l.length) k % fac (l.length - (k + 1)) := rfl
    have hmod : tl l k % fac (l.length - (k + 1)) = tl l (k + 1) := by
      rw [hs, Int.mul_comm, Int.add_comm, Int.add_mul_emod_self_left]
      exact Int.emod_eq_of_lt hb.1 hb.2
    have hdiv : tl l k / fac (l.length - (k + 1)) = lessAt l k := by
      rw [hs, Int.mul_comm, Int.add_comm, Int.add_mul_ediv_left _ _ (by omega), Int.ediv_eq_zero_of_lt hb.1 hb.2]
      omega
    refine ⟨by rw [e1, i1, hmod], ?_⟩
    have hq : oQ l.length (rk l l.length) k = lessAt l k := by
      unfold oQ
      rw [i1, hdiv]
      omega
    have hfr := free_at l h k x hx
    rw [ork_x l.length _ k x (by rw [i2, hq]; exact hfr), i2, take_next l k x hx]
/-- An order is found from its rank. -/
theorem order_of_rank (l : List Int) (h : isOrd l) : oO l.length (rk l l.length) l.length = l := by
  have := (found_of l h l.length (Nat.le_refl _)).2
  rwa [List.take_length] at this

theorem oO_elem (n : Nat) (r : Int) (h0 : 0 ≤ r) (h1 : r < fac n) (k : Nat) (hk : k < n) : ∃ x : Nat, (rest n (oO n r k))[oQ n r k]? = some (x : Int) ∧ x < n ∧ (x : Int) ∉ oO n r k ∧ oO n r (k + 1) = oO n r k ++ [(x : Int)] := by
  obtain ⟨_, hq⟩ := ork_q n r h0 h1 k hk
  obtain ⟨_, _, h3, _⟩ := ork_inv n r h0 h1 k (by omega)
  have hx : (rest n (oO n r k))[oQ n r k]? = some (rest n (oO n r k))[oQ n r k] := List.getElem?_eq_getElem (by omega)
  have hm := List.mem_of_getElem? hx
  obtain ⟨hm1, hm2⟩ := List.mem_filter.1 hm
  obtain ⟨x, hxr, e⟩ := List.mem_map.1 hm1
  rw [← e] at hx hm2
  exact ⟨x, hx, List.mem_range.1 hxr, by simpa using hm2, ork_x n r k x hx⟩
theorem oO_take (n : Nat) (r : Int) (h0 : 0 ≤ r) (h1 : r < fac n) (j k : Nat) (hk : k + j ≤ n) : (oO n r (k + j)).take k = oO n r k := by
  induction j with
  | zero =>
    have := (ork_inv n r h0 h1 k (by omega)).2.2.2
    rw [Nat.add_zero, List.take_of_length_le (by omega)]
  | succ j ih =>
    obtain ⟨x, _, _, _, e⟩ := oO_elem n r h0 h1 (k + j) (by omega)
    have hl := (ork_inv n r h0 h1 (k + j) (by omega)).2.2.2
    rw [show k + (j + 1) = k + j + 1 from by omega, e, List.take_append_of_le_length (by omega)]
    exact ih (by omega)
theorem oO_ord (n : Nat) (hn : n ≤ 12) (r : Int) (h0 : 0 ≤ r) (h1 : r < fac n) : isOrd (oO n r n) ∧ (oO n r n).length = n := by
  have hl := (ork_inv n r h0 h1 n (Nat.le_refl _)).2.2.2
  have hin : ∀ k, k ≤ n → (oO n r k).Nodup ∧ ∀ y ∈ oO n r k, 0 ≤ y ∧ y < (n : Int) := by
    intro k
    induction k with
    | zero => intro _; simp [oO]
    | succ k ih =>
      intro hk
      obtain ⟨i1, i2⟩ := ih (by omega)
      obtain ⟨x, _, hx, hno, e⟩ := oO_elem n r h0 h1 k (by omega)
      rw [e]
      refine ⟨List.nodup_append.2 ⟨i1, by simp, fun a ha b hb => ?_⟩, fun y hy => ?_⟩
      · simp at hb
        subst hb
        rintro rfl
        exact hno ha
      · rcases List.mem_append.1 hy with hy | hy
        · exact i2 y hy
        · simp at hy
          subst hy
          omega
  obtain ⟨i1, i2⟩ := hin n (Nat.le_refl _)
  exact ⟨⟨by omega, by rw [hl]; exact i2, i1⟩, hl⟩
theorem digit_of (n : Nat) (hn : n ≤ 12) (r : Int) (h0 : 0 ≤ r) (h1 : r < fac n) (k : Nat) (hk : k < n) : lessAt (oO n r n) k = oQ n r k := by
  obtain ⟨ho, hl⟩ := oO_ord n hn r h0 h1
  obtain ⟨x, hx, hxn, hno, e⟩ := oO_elem n r h0 h1 k hk
  have ht : (oO n r n).take k = oO n r k := by
    have := oO_take n r h0 h1 (n - k) k (by omega)
    rwa [show k + (n - k) = n from by omega] at this
  have ht1 : (oO n r n).take (k + 1) = oO n r (k + 1) := by
    have := oO_take n r h0 h1 (n - (k + 1)) (k + 1) (by omega)
    rwa [show k + 1 + (n - (k + 1)) = n from by omega] at this
  have hlk := (ork_inv n r h0 h1 k (by omega)).2.2.2
  have hk' : (oO n r n)[k]? = some (x : Int) := by
    have h2 : ((oO n r n).take (k + 1))[k]? = some (x : Int) := by
      rw [ht1, e, List.getElem?_append_right (by omega), hlk, Nat.sub_self]
      rfl
    rw [List.getElem?_take, if_pos (by omega)] at h2
    exact h2
  have hfr := free_at (oO n r n) ho k x hk'
  rw [hl, ht] at hfr
  have hnd : (rest n (oO n r k)).Nodup := (nums_nodup n).filter _
  exact (List.getElem?_inj (List.getElem?_eq_some_iff.1 hfr).1 hnd).1 (hfr.trans hx.symm)
/-- The order of a rank has that rank. -/
theorem rank_of_order (n : Nat) (hn : n ≤ 12) (r : Int) (h0 : 0 ≤ r) (h1 : r < fac n) : rk (oO n r n) n = r := by
  obtain ⟨ho, hl⟩ := oO_ord n hn r h0 h1
  have hinv : ∀ k, k ≤ n → r = rk (oO n r n) k * fac (n - k) + oR n r k := by
    intro k
    induction k with
    | zero => intro _; simp [rk, oR]
    | succ k ih =>
      intro hk
      have hi := ih (by omega)
      have hs := rk_step (oO n r n) k (by omega)
      rw [hl, digit_of n hn r h0 h1 k (by omega)] at hs
      have hq := (ork_q n r h0 h1 k (by omega)).1
      have hm := Int.mul_ediv_add_emod (oR n r k) (fac (n - (k + 1)))
      rw [hq, Int.mul_comm] at hm
      have e : oR n r (k + 1) = oR n r k % fac (n - (k + 1)) := rfl
      omega
  have h := hinv n (Nat.le_refl _)
  have hR := ork_inv n r h0 h1 n (Nat.le_refl _)
  have hz : oR n r n = 0 := by
    have h2 := hR.2.1
    rw [Nat.sub_self] at h2
    have h3 : fac 0 = 1 := rfl
    have := hR.1
    omega
  rw [hz, Nat.sub_self] at h
  have h3 : fac 0 = 1 := rfl
  rw [h3] at h
  omega
/-- Of two orders that part at the place i the one with the greater number there has the greater rank. -/
theorem rank_lex (l l' : List Int) (h : isOrd l) (h' : isOrd l') (hl : l.length = l'.length) (i : Nat) (x y : Int) (ht : l.take i = l'.take i) (hx : l[i]? = some x) (hy : l'[i]? = some y) (hlt : y < x) : rk l' l'.length < rk l l.length := by
  have hi : i < l.length := (List.getElem?_eq_some_iff.1 hx).1
  have hpre : ∀ k, k ≤ i → rk l k = rk l' k := by
    intro k
    induction k with
    | zero => intro _; rfl
    | succ k ih =>
      intro hk
      obtain ⟨a, ha, _⟩ := ord_nat l h k (by omega)
      have ha' : l'[k]? = some (a : Int) := by
        have : (l.take i)[k]? = some (a : Int) := by rw [List.getElem?_take, if_pos (by omega)]; exact ha
        rw [ht, List.getElem?_take, if_pos (by omega)] at this
        exact this
      have hk2 : l.take k = l'.take k := by
        have := congrArg (List.take k) ht
        rwa [List.take_take, List.take_take, Nat.min_eq_left (by omega)] at this
      show rk l k * ((l.length : Int) - k) + lessAt l k = rk l' k * ((l'.length : Int) - k) + lessAt l' k
      rw [ih (by omega), hl, less_rest l h k a ha, less_rest l' h' k a ha', hk2]
  obtain ⟨a, ha, _⟩ := ord_nat l h i hi
  obtain ⟨b, hb, _⟩ := ord_nat l' h' i (by omega)
  rw [ha] at hx
  rw [hb] at hy
  injection hx with hx
  injection hy with hy
  have hba : b < a := by omega
  have hless : lessAt l' i + 1 ≤ lessAt l i := by
    rw [less_rest l h i a ha, less_rest l' h' i b hb, ht]
    have hno : (b : Int) ∉ l'.take i := by
      intro hm
      obtain ⟨c, hc, ec⟩ := List.mem_iff_getElem.1 hm
      have hci : c < i := by simp at hc; omega
      have h2 : l'[c]? = some (b : Int) := by
        have := List.getElem?_eq_getElem hc
        rw [ec, List.getElem?_take, if_pos hci] at this
        exact this
      have := ord_inj l' h' _ _ _ hb h2
      omega
    have := rest_len_le (b + 1) a (l'.take i) (by omega)
    rw [rest_up, if_pos hno, List.length_append] at this
    simpa using this
  have s1 := tl_step l i hi
  have s2 := tl_step l' i (by omega)
  have b1 := (tl_bd l (l.length - (i + 1)) (i + 1) (by omega)).1
  have b2 := (tl_bd l' (l'.length - (i + 1)) (i + 1) (by omega)).2
  have hp := hpre i (Nat.le_refl _)
  have hf := fac_pos (l.length - (i + 1))
  have hm : ((lessAt l' i : Int) + 1) * fac (l.length - (i + 1)) ≤ (lessAt l i : Int) * fac (l.length - (i + 1)) := Int.mul_le_mul_of_nonneg_right (by omega) (by omega)
  rw [Int.add_mul] at hm
  have e1 : tl l i = rk l l.length - rk l i * fac (l.length - i) := rfl
  have e2 : tl l' i = rk l' l'.length - rk l' i * fac (l'.length - i) := rfl
  rw [hl] at s1 hm e1
  rw [hl]
  rw [hp] at e1
  omega
end Go.Proofs.Ytnfnmdeiaihgnaa
