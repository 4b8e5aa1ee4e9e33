/- Roman numerals as lists of bytes, written greedily and by digits, and read back: the 4000 cases are reckoned. Plain mathematics. -/
import Derived.Test.YtoanopgafihjiaaDoorWords
namespace Go.Proofs.YtoanopgafihjiaaDoor.Ro
def dg (one five ten : List UInt8) : Nat → List UInt8
  | 0 => []
  | 1 => one
  | 2 => one ++ one
  | 3 => one ++ (one ++ one)
  | 4 => one ++ five
  | 5 => five
  | 6 => five ++ one
  | 7 => five ++ (one ++ one)
  | 8 => five ++ (one ++ (one ++ one))
  | 9 => one ++ ten
  | _ => []
def romanL (n : Nat) : List UInt8 := dg [109] [] [] (n / 1000) ++ dg [99] [100] [109] (n / 100 % 10) ++ dg [120] [108] [99] (n / 10 % 10) ++ dg [105] [118] [120] (n % 10)
def signs : List (List UInt8 × Nat) := [([109], 1000), ([99, 109], 900), ([100], 500), ([99, 100], 400), ([99], 100), ([120, 99], 90), ([108], 50), ([120, 108], 40), ([120], 10), ([105, 120], 9), ([118], 5), ([105, 118], 4), ([105], 1)]
def greedy : Nat → List (List UInt8 × Nat) → Nat → List UInt8
  | 0, _, _ => []
  | _ + 1, [], _ => []
  | f + 1, (s, v) :: t, n => if v ≤ n then s ++ greedy f ((s, v) :: t) (n - v) else greedy f t n
def par : Nat → List (List UInt8 × Nat) → List UInt8 → Nat
  | 0, _, _ => 0
  | _ + 1, [], _ => 0
  | f + 1, (s, v) :: t, l => if s.isPrefixOf l then v + par f ((s, v) :: t) (l.drop s.length) else par f t l
set_option maxRecDepth 100000 in
theorem greedy_all : (List.range 4000).all (fun n => greedy (n + 14) signs n == romanL n) = true := by decide +kernel
set_option maxRecDepth 100000 in
theorem par_all : (List.range 4000).all (fun n => par ((romanL n).length + 14) signs (romanL n) == n) = true := by decide +kernel
set_option maxRecDepth 100000 in
theorem len_all : (List.range 4000).all (fun n => decide ((romanL n).length ≤ 15)) = true := by decide +kernel
set_option maxRecDepth 100000 in
theorem head_all : (List.range 4000).all (fun n => (romanL n).all (fun c => decide (58 ≤ c.toNat))) = true := by decide +kernel
theorem greedy_roman (n : Nat) (h : n < 4000) : greedy (n + 14) signs n = romanL n := by
  have := List.all_eq_true.1 greedy_all n (List.mem_range.2 h)
  simpa using this
theorem par_roman (n : Nat) (h : n < 4000) : par ((romanL n).length + 14) signs (romanL n) = n := by
  have := List.all_eq_true.1 par_all n (List.mem_range.2 h)
  simpa using this
theorem roman_len (n : Nat) (h : n < 4000) : (romanL n).length ≤ 15 := by
  have := List.all_eq_true.1 len_all n (List.mem_range.2 h)
  simpa using this
theorem roman_big (n : Nat) (h : n < 4000) : ∀ c ∈ romanL n, 58 ≤ c.toNat := by
  have := List.all_eq_true.1 head_all n (List.mem_range.2 h)
  simpa using this
theorem roman_inj (n m : Nat) (h : n < 4000) (h' : m < 4000) (e : romanL n = romanL m) : n = m := by
  rw [← par_roman n h, ← par_roman m h', e]
theorem roman_ne (n : Nat) (h : n < 4000) (h1 : 1 ≤ n) : romanL n ≠ [] := by
  intro e
  have := roman_inj n 0 h (by omega) (by rw [e]; rfl)
  omega
theorem par_step_hit (f : Nat) (s l : List UInt8) (v : Nat) (t : List (List UInt8 × Nat)) (h : s.isPrefixOf l = true) : par (f + 1) ((s, v) :: t) l = v + par f ((s, v) :: t) (l.drop s.length) := by
  rw [par, if_pos h]
theorem par_step_miss (f : Nat) (s l : List UInt8) (v : Nat) (t : List (List UInt8 × Nat)) (h : s.isPrefixOf l = false) : par (f + 1) ((s, v) :: t) l = par f t l := by
  rw [par, if_neg (by simp [h])]
theorem par_nil (f : Nat) (l : List UInt8) : par f [] l = 0 := by cases f <;> rfl
theorem greedy_nil (f : Nat) (n : Nat) : greedy f [] n = [] := by cases f <;> rfl
end Go.Proofs.YtoanopgafihjiaaDoor.Ro
