/- Texts of programs of cuts, in lists of bytes. -/
import Derived.Test.YtbhofhobnbhhhaaDoorCt
import Derived.Test.YtbhofhobnbhhhaaDoorDecs
import Derived.Lib.Join
namespace Go.Proofs.YtbhofhobnbhhhaaDoor
theorem decPos (n : Nat) : 1 ≤ (dec n).size := by
  unfold dec
  rw [Lib.decDigits]
  split <;> simp [ByteArray.size]
namespace Px
def okC (c : Ct) : Bool := decide (0 ≤ c.i ∧ c.i ≤ 20000 ∧ 0 ≤ c.t ∧ c.t ≤ 20000)
def sign (c : Ct) : UInt8 := if c.a then 45 else 124
def ctL (c : Ct) : List UInt8 := Lib.decDigits c.i.toNat ++ sign c :: Lib.decDigits c.t.toNat
def ctS (c : Ct) : ByteArray := dec c.i.toNat ++ ⟨#[sign c]⟩ ++ dec c.t.toNat
def joinL (g : List Ct) : List UInt8 := Lib.join (g.map ctL) [32]
def joinS (g : List Ct) : ByteArray := ⟨(joinL g).toArray⟩
def okG (g : List Ct) : Bool := decide (g.length ≤ 79) && g.all okC
def ptS (g : List Ct) : ByteArray := if okG g then joinS g else ⟨#[]⟩
theorem bytes_ext {a b : ByteArray} (h : a.data.toList = b.data.toList) : a = b := by
  obtain ⟨a⟩ := a
  obtain ⟨b⟩ := b
  simp only at h
  congr 1
  exact Array.ext' h
theorem data_add (a b : ByteArray) : (a ++ b).data.toList = a.data.toList ++ b.data.toList := by simp
theorem ctS_data (c : Ct) : (ctS c).data.toList = ctL c := by
  unfold ctS ctL dec
  simp
theorem joinL_next (g : List Ct) (k : Nat) (c : Ct) (hc : g[k]? = some c) (hk : 0 < k) : joinL (g.take (k + 1)) = joinL (g.take k) ++ [32] ++ ctL c := by
  have hl : k < g.length := (List.getElem?_eq_some_iff.1 hc).1
  match g, hl with
  | a :: r, hl =>
    obtain ⟨m, rfl⟩ : ∃ m, k = m + 1 := ⟨k - 1, by omega⟩
    have hr : r[m]? = some c := by simpa using hc
    unfold joinL
    rw [List.take_succ_cons, List.take_succ_cons, List.map_cons, List.map_cons, Lib.join_cons, Lib.join_cons, List.map_take, List.map_take, Lib.joinTail_take_succ _ _ m (ctL c) (by rw [List.getElem?_map, hr]; rfl)]
    simp [List.append_assoc]
theorem joinS_first (g : List Ct) (c : Ct) (hc : g[0]? = some c) : joinS (g.take 1) = ctS c := by
  apply bytes_ext
  rw [ctS_data]
  cases g with
  | nil => simp at hc
  | cons a r =>
    simp at hc
    subst hc
    simp [joinS, joinL, Lib.join_one]
theorem joinS_next (g : List Ct) (k : Nat) (c : Ct) (hc : g[k]? = some c) (hk : 0 < k) : joinS (g.take (k + 1)) = joinS (g.take k) ++ ⟨#[32]⟩ ++ dec c.i.toNat ++ ⟨#[sign c]⟩ ++ dec c.t.toNat := by
  apply bytes_ext
  have h := joinL_next g k c hc hk
  simp only [data_add]
  show joinL (g.take (k + 1)) = _
  rw [h]
  simp [joinS, ctL, dec]
theorem joinS_zero (g : List Ct) : joinS (g.take 0) = ⟨#[]⟩ := rfl
theorem joinS_one (g : List Ct) (c : Ct) (hc : g[0]? = some c) : joinS (g.take 1) = (⟨#[]⟩ : ByteArray) ++ dec c.i.toNat ++ ⟨#[sign c]⟩ ++ dec c.t.toNat := by
  rw [joinS_first g c hc]
  apply bytes_ext
  simp [ctS]
theorem okC_iff {c : Ct} : okC c = true ↔ 0 ≤ c.i ∧ c.i ≤ 20000 ∧ 0 ≤ c.t ∧ c.t ≤ 20000 := by simp [okC]
theorem pt_long {g : List Ct} (h : 79 < g.length) : ptS g = ⟨#[]⟩ := by
  unfold ptS okG
  rw [decide_eq_false (by omega)]
  rfl
theorem pt_bad {g : List Ct} {k : Nat} {c : Ct} (hc : g[k]? = some c) (h : okC c = false) : ptS g = ⟨#[]⟩ := by
  have : okG g = false := by
    unfold okG
    rw [Bool.and_eq_false_iff]
    right
    rw [List.all_eq_false]
    exact ⟨c, List.mem_of_getElem? hc, by simp [h]⟩
  unfold ptS
  rw [this]
  rfl
theorem pt_good {g : List Ct} {n : Nat} (hl : g.length = n) (hn : n ≤ 79) (h : ∀ j c, j < n → g[j]? = some c → okC c = true) : ptS g = joinS g := by
  have : okG g = true := by
    unfold okG
    simp only [Bool.and_eq_true, decide_eq_true_eq, List.all_eq_true]
    refine ⟨by omega, fun c hc => ?_⟩
    obtain ⟨j, hj⟩ := List.getElem?_of_mem hc
    exact h j c (by have := (List.getElem?_eq_some_iff.1 hj).1; omega) hj
  unfold ptS
  rw [this]
  rfl
theorem ct_size (c : Ct) (h : okC c = true) : 3 ≤ (ctS c).size ∧ (ctS c).size ≤ 11 := by
  have hb := okC_iff.1 h
  have h1 := dec_size 5 c.i.toNat (by omega) (by omega)
  have h2 := dec_size 5 c.t.toNat (by omega) (by omega)
  have e1 : 1 ≤ (dec c.i.toNat).size := by
    have := decPos c.i.toNat
    exact this
  have e2 : 1 ≤ (dec c.t.toNat).size := by
    have := decPos c.t.toNat
    exact this
  have hs : (ctS c).size = (dec c.i.toNat).size + 1 + (dec c.t.toNat).size := by
    unfold ctS
    rw [ByteArray.size_append, ByteArray.size_append]
    rfl
  omega
theorem joinS_size (g : List Ct) (k : Nat) (hk : k ≤ g.length) (h : ∀ j y, j < k → g[j]? = some y → okC y = true) : (joinS (g.take k)).size ≤ 12 * k := by
  induction k with
  | zero => exact Nat.zero_le _
  | succ k ih =>
    have hc : g[k]? = some (g[k]'(by omega)) := List.getElem?_eq_getElem (by omega)
    have hs := ct_size _ (h k _ (by omega) hc)
    have ih := ih (by omega) fun j y hj hy => h j y (by omega) hy
    by_cases h0 : k = 0
    · subst h0
      rw [joinS_first g _ hc]
      omega
    · rw [joinS_next g k _ hc (by omega)]
      have e : (ctS (g[k]'(by omega))).size = (dec (g[k]'(by omega)).i.toNat).size + 1 + (dec (g[k]'(by omega)).t.toNat).size := by
        unfold ctS
        rw [ByteArray.size_append, ByteArray.size_append]
        rfl
      rw [ByteArray.size_append, ByteArray.size_append, ByteArray.size_append, ByteArray.size_append]
      have e1 : (⟨#[32]⟩ : ByteArray).size = 1 := rfl
      have e2 : (⟨#[sign (g[k]'(by omega))]⟩ : ByteArray).size = 1 := rfl
      omega
theorem ret_s {a b : ByteArray} (h : a = b) : Ending.returned (.string a) = .returned (.string b) := by rw [h]
end Px
end Go.Proofs.YtbhofhobnbhhhaaDoor
