/- The mathematics of strips: what folds are, the stack they leave as the model folds it and as the program reckons it, creases, and the way back. All about the 127 folds is reckoned out. No program is named here. -/
namespace Go.Proofs.YtjpfbonnohodhaaDoor.St

/-- The letters: 76 is L, 82 is R. -/
def isLR (b : UInt8) : Bool := b == 76 || b == 82
def foldsB (l : List UInt8) : Bool := l.all isLR && decide (l.length ≤ 6)
def words : Nat → List (List UInt8)
  | 0 => [[]]
  | n + 1 => (words n).flatMap fun l => [76 :: l, 82 :: l]
def allFolds : List (List UInt8) := words 0 ++ words 1 ++ words 2 ++ words 3 ++ words 4 ++ words 5 ++ words 6

theorem words_len (n : Nat) : ∀ l ∈ words n, l.length = n := by
  induction n with
  | zero => intro l h; simp [words] at h; subst h; rfl
  | succ n ih =>
    intro l h
    simp only [words, List.mem_flatMap] at h
    obtain ⟨m, hm, h⟩ := h
    have := ih m hm
    simp at h
    rcases h with rfl | rfl <;> simp [this]
theorem words_mem (l : List UInt8) (h : l.all isLR = true) : l ∈ words l.length := by
  induction l with
  | nil => simp [words]
  | cons b l ih =>
    simp only [List.all_cons, Bool.and_eq_true] at h
    have hm := ih h.2
    simp only [List.length_cons, words, List.mem_flatMap]
    refine ⟨l, hm, ?_⟩
    have := h.1
    simp only [isLR, Bool.or_eq_true, beq_iff_eq] at this
    rcases this with rfl | rfl <;> simp
theorem folds_mem {l : List UInt8} (h : foldsB l = true) : l ∈ allFolds := by
  simp only [foldsB, Bool.and_eq_true, decide_eq_true_eq] at h
  have hm := words_mem l h.1
  have hl := h.2
  unfold allFolds
  simp only [List.mem_append]
  rcases hk : l.length with _ | _ | _ | _ | _ | _ | _ | k
  all_goals (first | (rw [hk] at hm; simp only [hm, true_or, or_true]) | omega)
theorem folds_len {l : List UInt8} (h : foldsB l = true) : l.length ≤ 6 := by
  simp only [foldsB, Bool.and_eq_true, decide_eq_true_eq] at h
  exact h.2
theorem folds_all {l : List UInt8} (h : foldsB l = true) : ∀ b ∈ l, b = 76 ∨ b = 82 := by
  simp only [foldsB, Bool.and_eq_true, List.all_eq_true] at h
  intro b hb
  have := h.1 b hb
  simpa [isLR] using this
theorem folds_of {l : List UInt8} (h : l ∈ allFolds) : foldsB l = true := by
  have : ∀ l ∈ allFolds, foldsB l = true := by decide +kernel
  exact this l h

/-! ### The model's stack -/
def turn (l : List Int) : List Int := l.reverse.map fun x => -x
def start (n : Nat) : List (List Int) := (List.range n).map fun (c : Nat) => [((c : Nat) : Int) + 1]
/-- One of the stacks after a fold, and all of them. -/
def over (ls : List (List Int)) (b : UInt8) (i : Nat) : List Int := ls.getD (if b = 76 then ls.length / 2 - 1 - i else ls.length - 1 - i) []
def under (ls : List (List Int)) (b : UInt8) (i : Nat) : List Int := ls.getD (if b = 76 then ls.length / 2 + i else i) []
def fold (ls : List (List Int)) (b : UInt8) : List (List Int) := (List.range (ls.length / 2)).map fun i => turn (over ls b i) ++ under ls b i
def foldAll (n : Nat) (l : List UInt8) : List (List Int) := l.foldl fold (start n)
def stack (l : List UInt8) : List Int := (foldAll (2 ^ l.length) l).headD []

/-! ### The program's stack: the mark at a place -/
structure M where
  height : Int
  width : Int
  column : Int
  place : Int
  down : Bool
def mstep (m : M) (b : UInt8) : M :=
  let h := m.height / 2
  let t := decide (m.place < h)
  let c := if t then m.width - 1 - m.column else m.column
  { height := h, width := 2 * m.width, column := if t = (b != 76) then c + m.width else c, place := if t then h - 1 - m.place else m.place - h, down := if t then !m.down else m.down }
def mrun (l : List UInt8) (place : Int) : M := l.reverse.foldl mstep { height := ((2 ^ l.length : Nat) : Int), width := 1, column := 0, place := place, down := false }
def mark (l : List UInt8) (place : Int) : Int := let m := mrun l place; if m.down then -(m.column + 1) else m.column + 1
def marksOf (l : List UInt8) : List Int := (List.range (2 ^ l.length)).map fun (p : Nat) => mark l ((p : Nat) : Int)

set_option maxRecDepth 100000 in
theorem marks_stack_all : ∀ l ∈ allFolds, marksOf l = stack l := by decide +kernel

/-! ### Cells of marks -/
def cellOf (x : Int) : Int := (x.natAbs : Int) - 1
end Go.Proofs.YtjpfbonnohodhaaDoor.St
