/- The mathematics of creases: what the model writes and what the program reads off the stack are one. What holds of all folds is reckoned over letters that are true (L) and false (R), and over numbers for bytes. No program is named here. -/
import Derived.Test.YtjpfbonnohodhaaDoorStMath
namespace Go.Proofs.YtjpfbonnohodhaaDoor.St

def invTo (l : List Int) : Nat → List Int
  | 0 => List.replicate l.length 0
  | k + 1 => (invTo l k).set (l.getD k 0).toNat k
theorem invTo_len (l : List Int) (k : Nat) : (invTo l k).length = l.length := by
  induction k with
  | zero => simp [invTo]
  | succ k ih => simp [invTo, ih]
theorem invTo_next (l : List Int) (k j : Nat) (hx : l[k]? = some (j : Int)) : invTo l (k + 1) = (invTo l k).set j k := by
  simp [invTo, List.getD_eq_getElem?_getD, hx]

/-! ### Letters as truth values -/
def by_ (b : Bool) : UInt8 := if b then 76 else 82
def bw : Nat → List (List Bool)
  | 0 => [[]]
  | n + 1 => (bw n).flatMap fun l => [true :: l, false :: l]
def allB : List (List Bool) := bw 0 ++ bw 1 ++ bw 2 ++ bw 3 ++ bw 4 ++ bw 5 ++ bw 6
theorem words_bw (n : Nat) : words n = (bw n).map (·.map by_) := by
  induction n with
  | zero => rfl
  | succ n ih =>
    simp only [words, bw, ih, List.map_flatMap, List.flatMap_map]
    rfl
theorem all_bw : allFolds = allB.map (·.map by_) := by
  simp only [allFolds, allB, words_bw, List.map_append]
def overB (ls : List (List Int)) (b : Bool) (i : Nat) : List Int := ls.getD (if b then ls.length / 2 - 1 - i else ls.length - 1 - i) []
def underB (ls : List (List Int)) (b : Bool) (i : Nat) : List Int := ls.getD (if b then ls.length / 2 + i else i) []
def foldB (ls : List (List Int)) (b : Bool) : List (List Int) := (List.range (ls.length / 2)).map fun i => turn (overB ls b i) ++ underB ls b i
theorem fold_by (ls : List (List Int)) (b : Bool) : fold ls (by_ b) = foldB ls b := by
  cases b <;> rfl
theorem foldl_by (w : List Bool) : ∀ ls, (w.map by_).foldl fold ls = w.foldl foldB ls := by
  induction w with
  | nil => intro ls; rfl
  | cons b w ih => intro ls; rw [List.map_cons, List.foldl_cons, List.foldl_cons, fold_by, ih]
def stackB (w : List Bool) : List Int := (w.foldl foldB (start (2 ^ w.length))).headD []
theorem stack_by (w : List Bool) : stack (w.map by_) = stackB w := by
  unfold stack stackB foldAll
  rw [foldl_by, List.length_map]

/-! ### The model's creases -/
def crIdx (left right : List Int) (k : Nat) : Nat := min (left.getD k 0).natAbs (right.getD k 0).natAbs - 1
def crVal (left : List Int) (k : Nat) : Nat := if left.getD k 0 < 0 then 77 else 86
def crInN (left right : List Int) (out : List Nat) (k : Nat) : List Nat := (List.range k).foldl (fun out k => out.set (crIdx left right k) (crVal left k)) out
theorem crInN_next (left right : List Int) (out : List Nat) (k : Nat) : crInN left right out (k + 1) = (crInN left right out k).set (crIdx left right k) (crVal left k) := by
  simp [crInN, List.range_succ]
theorem crInN_len (left right : List Int) (out : List Nat) (k : Nat) : (crInN left right out k).length = out.length := by
  induction k with
  | zero => rfl
  | succ k ih => rw [crInN_next, List.length_set, ih]
def lvlAt (l : List UInt8) (i : Nat) : List (List Int) := (l.take i).foldl fold (start (2 ^ l.length))
def leftOf (ls : List (List Int)) : List Int := ls.getD (ls.length / 2 - 1) []
def rightOf (ls : List (List Int)) : List Int := ls.getD (ls.length / 2) []
def crToN (l : List UInt8) : Nat → List Nat
  | 0 => List.replicate (2 ^ l.length - 1) 0
  | i + 1 => crInN (leftOf (lvlAt l i)) (rightOf (lvlAt l i)) (crToN l i) (leftOf (lvlAt l i)).length
theorem crToN_len (l : List UInt8) (i : Nat) : (crToN l i).length = 2 ^ l.length - 1 := by
  induction i with
  | zero => simp [crToN]
  | succ i ih => rw [crToN, crInN_len, ih]
/-- The letters of a crease. -/
def crB (l : List Nat) : List UInt8 := l.map UInt8.ofNat
def crS (l : List UInt8) : List UInt8 := crB (crToN l l.length)
/-- The program's creases. -/
def crIof (st : List Int) (n : Nat) : List Nat :=
  let pl := invTo (st.map cellOf) n
  (List.range (n - 1)).map fun c => if decide (st.getD (pl.getD c 0).toNat 0 < 0) = decide (pl.getD c 0 < pl.getD (c + 1) 0) then 86 else 77
def crI (l : List UInt8) : List Nat := crIof (stack l) (2 ^ l.length)

/-! ### All folds, reckoned: the stacks are folded once for each -/
def crRun : List Bool → List (List Int) → List Nat → List (List Int) × List Nat
  | [], ls, out => (ls, out)
  | b :: w, ls, out => crRun w (foldB ls b) (crInN (leftOf ls) (rightOf ls) out (leftOf ls).length)
def crOkRun (n : Nat) : List Bool → List (List Int) → Bool
  | [], _ => true
  | b :: w, ls => (let left := leftOf ls; let right := rightOf ls; (List.range left.length).all fun k => !(left.getD k 0 == 0) && !(right.getD k 0 == 0) && Nat.blt (crIdx left right k) (n - 1)) && crOkRun n w (foldB ls b)
def tally (l : List Nat) : Int := l.foldl (fun n b => if b = 86 then n + 1 else n - 1) 0
/-- No number twice: a mask of those that have come. -/
def nodupM : List Nat → Nat → Bool
  | [], _ => true
  | x :: l, m => !(m.testBit x) && nodupM l (m ||| 2 ^ x)
def chk (w : List Bool) : Bool :=
  let n := 2 ^ w.length
  let r := crRun w (start n) (List.replicate (n - 1) 0)
  let st := r.1.headD []
  let cr := crIof st n
  (r.2 == cr) && crOkRun n w (start n) && st.all (fun x => decide (0 ≤ cellOf x) && decide (cellOf x < (n : Int))) && nodupM (st.map fun x => x.natAbs) 0 && (w.isEmpty || (tally cr == 1 && cr.length + 1 == n))
set_option maxRecDepth 100000 in
theorem chk_low : (bw 0 ++ bw 1 ++ bw 2 ++ bw 3 ++ bw 4).all chk = true := by decide +kernel
set_option maxRecDepth 100000 in
theorem chk5_0 : (bw 3).all (fun q => chk (q ++ [true, true])) = true := by decide +kernel
set_option maxRecDepth 100000 in
theorem chk5_1 : (bw 3).all (fun q => chk (q ++ [true, false])) = true := by decide +kernel
set_option maxRecDepth 100000 in
theorem chk5_2 : (bw 3).all (fun q => chk (q ++ [false, true])) = true := by decide +kernel
set_option maxRecDepth 100000 in
theorem chk5_3 : (bw 3).all (fun q => chk (q ++ [false, false])) = true := by decide +kernel
set_option maxRecDepth 100000 in
theorem chk6_0 : (bw 2).all (fun q => chk (q ++ [true, true, true, true])) = true := by decide +kernel
set_option maxRecDepth 100000 in
theorem chk6_1 : (bw 2).all (fun q => chk (q ++ [true, true, true, false])) = true := by decide +kernel
set_option maxRecDepth 100000 in
theorem chk6_2 : (bw 2).all (fun q => chk (q ++ [true, true, false, true])) = true := by decide +kernel
set_option maxRecDepth 100000 in
theorem chk6_3 : (bw 2).all (fun q => chk (q ++ [true, true, false, false])) = true := by decide +kernel
set_option maxRecDepth 100000 in
theorem chk6_4 : (bw 2).all (fun q => chk (q ++ [true, false, true, true])) = true := by decide +kernel
set_option maxRecDepth 100000 in
theorem chk6_5 : (bw 2).all (fun q => chk (q ++ [true, false, true, false])) = true := by decide +kernel
set_option maxRecDepth 100000 in
theorem chk6_6 : (bw 2).all (fun q => chk (q ++ [true, false, false, true])) = true := by decide +kernel
set_option maxRecDepth 100000 in
theorem chk6_7 : (bw 2).all (fun q => chk (q ++ [true, false, false, false])) = true := by decide +kernel
set_option maxRecDepth 100000 in
theorem chk6_8 : (bw 2).all (fun q => chk (q ++ [false, true, true, true])) = true := by decide +kernel
set_option maxRecDepth 100000 in
theorem chk6_9 : (bw 2).all (fun q => chk (q ++ [false, true, true, false])) = true := by decide +kernel
set_option maxRecDepth 100000 in
theorem chk6_10 : (bw 2).all (fun q => chk (q ++ [false, true, false, true])) = true := by decide +kernel
set_option maxRecDepth 100000 in
theorem chk6_11 : (bw 2).all (fun q => chk (q ++ [false, true, false, false])) = true := by decide +kernel
set_option maxRecDepth 100000 in
theorem chk6_12 : (bw 2).all (fun q => chk (q ++ [false, false, true, true])) = true := by decide +kernel
set_option maxRecDepth 100000 in
theorem chk6_13 : (bw 2).all (fun q => chk (q ++ [false, false, true, false])) = true := by decide +kernel
set_option maxRecDepth 100000 in
theorem chk6_14 : (bw 2).all (fun q => chk (q ++ [false, false, false, true])) = true := by decide +kernel
set_option maxRecDepth 100000 in
theorem chk6_15 : (bw 2).all (fun q => chk (q ++ [false, false, false, false])) = true := by decide +kernel
theorem bw_len (n : Nat) : ∀ w ∈ bw n, w.length = n := by
  induction n with
  | zero => intro w h; simp [bw] at h; subst h; rfl
  | succ n ih =>
    intro w h
    simp only [bw, List.mem_flatMap] at h
    obtain ⟨v, hv, h⟩ := h
    have := ih v hv
    simp at h
    rcases h with rfl | rfl <;> simp [this]
theorem mem_bw (w : List Bool) : w ∈ bw w.length := by
  induction w with
  | nil => simp [bw]
  | cons b w ih =>
    simp only [List.length_cons, bw, List.mem_flatMap]
    exact ⟨w, ih, by cases b <;> simp⟩
theorem chk_all (w : List Bool) (h : w ∈ allB) : chk w = true := by
  by_cases h5 : w.length ≤ 4
  · refine List.all_eq_true.1 chk_low w ?_
    have hm := mem_bw w
    simp only [List.mem_append]
    rcases hk : w.length with _ | _ | _ | _ | _ | k
    all_goals (first | (rw [hk] at hm; simp only [hm, true_or, or_true]) | omega)
  · have hl : w.length = 5 ∨ w.length = 6 := by
      unfold allB at h
      simp only [List.mem_append] at h
      rcases h with (((((h | h) | h) | h) | h) | h) | h <;> (have := bw_len _ w h; omega)
    rcases hl with hl | hl
    · obtain ⟨a, b, c, d, e, rfl⟩ : ∃ a b c d e, w = [a, b, c, d, e] := by
        match w, hl with
        | [a, b, c, d, e], _ => exact ⟨a, b, c, d, e, rfl⟩
      have hq := mem_bw [a, b, c]
      cases d <;> cases e
      · exact List.all_eq_true.1 chk5_3 [a, b, c] hq
      · exact List.all_eq_true.1 chk5_2 [a, b, c] hq
      · exact List.all_eq_true.1 chk5_1 [a, b, c] hq
      · exact List.all_eq_true.1 chk5_0 [a, b, c] hq
    · obtain ⟨a, b, c, d, e, f, rfl⟩ : ∃ a b c d e f, w = [a, b, c, d, e, f] := by
        match w, hl with
        | [a, b, c, d, e, f], _ => exact ⟨a, b, c, d, e, f, rfl⟩
      have hq := mem_bw [a, b]
      cases c <;> cases d <;> cases e <;> cases f
      · exact List.all_eq_true.1 chk6_15 [a, b] hq
      · exact List.all_eq_true.1 chk6_14 [a, b] hq
      · exact List.all_eq_true.1 chk6_13 [a, b] hq
      · exact List.all_eq_true.1 chk6_12 [a, b] hq
      · exact List.all_eq_true.1 chk6_11 [a, b] hq
      · exact List.all_eq_true.1 chk6_10 [a, b] hq
      · exact List.all_eq_true.1 chk6_9 [a, b] hq
      · exact List.all_eq_true.1 chk6_8 [a, b] hq
      · exact List.all_eq_true.1 chk6_7 [a, b] hq
      · exact List.all_eq_true.1 chk6_6 [a, b] hq
      · exact List.all_eq_true.1 chk6_5 [a, b] hq
      · exact List.all_eq_true.1 chk6_4 [a, b] hq
      · exact List.all_eq_true.1 chk6_3 [a, b] hq
      · exact List.all_eq_true.1 chk6_2 [a, b] hq
      · exact List.all_eq_true.1 chk6_1 [a, b] hq
      · exact List.all_eq_true.1 chk6_0 [a, b] hq

theorem take_snoc (p : List Bool) (b : Bool) (q : List Bool) : (((p ++ b :: q).map by_).take (p.length + 1)) = (((p ++ b :: q).map by_).take p.length) ++ [by_ b] := by
  rw [List.take_add_one, List.getElem?_map, List.getElem?_append_right (Nat.le_refl _), Nat.sub_self]
  rfl
theorem lvlAt_snoc (p : List Bool) (b : Bool) (q : List Bool) : lvlAt ((p ++ b :: q).map by_) (p.length + 1) = foldB (lvlAt ((p ++ b :: q).map by_) p.length) b := by
  unfold lvlAt
  rw [take_snoc, List.foldl_append]
  exact fold_by _ b
theorem crRun_at (q : List Bool) : ∀ (p : List Bool) (l : List UInt8), l = (p ++ q).map by_ → crRun q (lvlAt l p.length) (crToN l p.length) = (lvlAt l l.length, crToN l l.length) := by
  induction q with
  | nil =>
    intro p l hl
    have : p.length = l.length := by rw [hl]; simp
    rw [crRun, this]
  | cons b q ih =>
    intro p l hl
    rw [crRun]
    have h := ih (p ++ [b]) l (by rw [hl]; simp)
    rw [List.length_append, List.length_singleton, crToN] at h
    rw [← h]
    subst hl
    rw [lvlAt_snoc]
theorem crOk_at (n : Nat) (q : List Bool) : ∀ (p : List Bool) (l : List UInt8), l = (p ++ q).map by_ → crOkRun n q (lvlAt l p.length) = true → ∀ i, p.length ≤ i → i < l.length → ∀ k, k < (leftOf (lvlAt l i)).length →
    (leftOf (lvlAt l i)).getD k 0 ≠ 0 ∧ (rightOf (lvlAt l i)).getD k 0 ≠ 0 ∧ crIdx (leftOf (lvlAt l i)) (rightOf (lvlAt l i)) k < n - 1 := by
  induction q with
  | nil =>
    intro p l hl _ i h1 h2
    rw [hl] at h2
    simp at h2
    omega
  | cons b q ih =>
    intro p l hl h i h1 h2 k hk
    rw [crOkRun, Bool.and_eq_true] at h
    by_cases hi : i = p.length
    · subst hi
      have := List.all_eq_true.1 h.1 k (List.mem_range.2 hk)
      simp only [Bool.and_eq_true, Bool.not_eq_true', beq_eq_false_iff_ne, Nat.blt_eq] at this
      exact ⟨this.1.1, this.1.2, this.2⟩
    · refine ih (p ++ [b]) l (by rw [hl]; simp) ?_ i (by simp; omega) h2 k hk
      rw [List.length_append, List.length_singleton]
      have := h.2
      subst hl
      rw [lvlAt_snoc]
      exact this
theorem lvlAt_zero (l : List UInt8) : lvlAt l 0 = start (2 ^ l.length) := by simp [lvlAt]
theorem lvlAt_all (l : List UInt8) : (lvlAt l l.length).headD [] = stack l := by
  unfold lvlAt stack foldAll
  rw [List.take_length]
theorem nodup_of (l : List Nat) : ∀ m, nodupM l m = true → l.Nodup ∧ ∀ x ∈ l, m.testBit x = false := by
  induction l with
  | nil => intro m _; exact ⟨List.nodup_nil, fun x hx => by simp at hx⟩
  | cons x l ih =>
    intro m h
    rw [nodupM, Bool.and_eq_true, Bool.not_eq_true'] at h
    obtain ⟨h1, h2⟩ := ih _ h.2
    refine ⟨List.nodup_cons.2 ⟨fun hx => ?_, h1⟩, fun y hy => ?_⟩
    · have := h2 x hx
      rw [Nat.testBit_or, Nat.testBit_two_pow_self, Bool.or_true] at this
      cases this
    · rcases List.mem_cons.1 hy with rfl | hy
      · exact h.1
      · have := h2 y hy
        rw [Nat.testBit_or, Bool.or_eq_false_iff] at this
        exact this.1
structure CrF (l : List UInt8) : Prop where
  same : crToN l l.length = crI l
  ok : ∀ i, i < l.length → ∀ k, k < (leftOf (lvlAt l i)).length → (leftOf (lvlAt l i)).getD k 0 ≠ 0 ∧ (rightOf (lvlAt l i)).getD k 0 ≠ 0 ∧ crIdx (leftOf (lvlAt l i)) (rightOf (lvlAt l i)) k < 2 ^ l.length - 1
  range : ∀ x ∈ stack l, 0 ≤ cellOf x ∧ cellOf x < ((2 ^ l.length : Nat) : Int)
  nodup : ((stack l).map cellOf).Nodup
  one : l ≠ [] → tally (crI l) = 1 ∧ (crI l).length + 1 = 2 ^ l.length
theorem cr_facts {l : List UInt8} (hf : foldsB l = true) : CrF l := by
  have hm := folds_mem hf
  rw [all_bw, List.mem_map] at hm
  obtain ⟨w, hw, hl⟩ := hm
  have hc := chk_all w hw
  have hlen : w.length = l.length := by rw [← hl]; simp
  unfold chk at hc
  simp only [Bool.and_eq_true] at hc
  have hrun := crRun_at w [] l (by simpa using hl.symm)
  rw [show ([] : List Bool).length = 0 from rfl, lvlAt_zero, crToN, ← hlen] at hrun
  rw [hrun] at hc
  obtain ⟨⟨⟨⟨h1, h2⟩, h3⟩, h4⟩, h5⟩ := hc
  rw [hlen] at h1 h2 h3 h4 h5
  rw [lvlAt_all] at h1 h3 h4 h5
  have h1' : crToN l l.length = crI l := eq_of_beq h1
  refine ⟨h1', fun i hi k hk => ?_, fun x hx => ?_, ?_, fun hne => ?_⟩
  · refine crOk_at (2 ^ l.length) w [] l (by simpa using hl.symm) ?_ i (Nat.zero_le _) hi k hk
    rw [show ([] : List Bool).length = 0 from rfl, lvlAt_zero]
    exact h2
  · have := List.all_eq_true.1 h3 x hx
    simpa using this
  · have hnd := (nodup_of _ 0 h4).1
    have he : (stack l).map cellOf = ((stack l).map fun x => x.natAbs).map fun (n : Nat) => (n : Int) - 1 := by
      rw [List.map_map]
      rfl
    rw [he]
    refine List.pairwise_map.2 (hnd.imp ?_)
    intro a b hab e
    exact hab (by omega)
  · rw [Bool.or_eq_true] at h5
    rcases h5 with h5 | h5
    · have hw0 : w = [] := by simpa using h5
      rw [hw0] at hl
      exact absurd hl.symm hne
    · rw [Bool.and_eq_true] at h5
      exact ⟨eq_of_beq h5.1, eq_of_beq h5.2⟩
end Go.Proofs.YtjpfbonnohodhaaDoor.St
