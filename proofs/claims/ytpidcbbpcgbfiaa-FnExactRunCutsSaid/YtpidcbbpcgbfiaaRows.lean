/-
  No cell of these rows narrows 'for every input' (looked for: loops, veiled, ifaces, maps, wideKeys, modest, calm, conditions, laid).
  DERIVED. THE GIVEN ROWS OF THIS SEAT. 7 by the template 'for every input the law returns true; each argument reads behind the call as it read before'; 0 by the template 'total and deterministic' (their statements: YtpidcbbpcgbfiaaTotals.lean).
  GIVEN WITH THE SEED: the statements are not yours to turn. If you find one false, say at which input.
  Laid BY PROGRAM, IN A SANDBOX (cutbox-rows.mjs): the forced cells as the released guide's own fill.sh prints them over the translation 3dc4390faaf647d6… (all of the seat's roots in one cut). By AI agents, Wed Nov 11 2026. No macro, syntax, notation, axiom, sorry.
-/
import Derived.Test.YtpidcbbpcgbfiaaChecked
import GoSem.Claim
import GoSem.ClaimJoined
import GoSem.ClaimMapViews
import Derived.JoinedTies
import Derived.KernelRfl
namespace Go.Proofs.Ytpidcbbpcgbfiaa
/- THE CELL 'sum', in the pinned program and in every row, IS THE sha256 OF THE DUMP (.gsa) THAT YtpidcbbpcgbfiaaProg.lean LOADS. Nothing in Lean hashes anything: it is a label: what it is worth is what the hold of that sum in a sandbox is worth. -/
noncomputable def Try.pinned : Pinned := { name := "ytpidcbbpcgbfiaa", sum := "3dc4390faaf647d68ed126c6fff90ac80ad682142218a90f287115c5516c031c", checked := Try.checked }
namespace Rows
def none {H : Type} : Left H := { results := [], args := [] }

/-- 'laws.FnExactIsPiece': WHATEVER THE INPUT: true; the input reads as it did. -/
def fnExactIsPieceSpec : ChangeSpec := { name := "fnExactIsPiece", fn := fun _ => fun
  | [d] => { results := [.lit (.bool true)], args := [d] }
  | _ => none }
def fnExactIsPieceRow : OpenClaim := { program := "ytpidcbbpcgbfiaa", sum := "3dc4390faaf647d68ed126c6fff90ac80ad682142218a90f287115c5516c031c", func := "loop.example/g00944/laws.FnExactIsPiece", spec := "fnExactIsPiece", apart := false }
def FnExactIsPieceSaid : Prop := fnExactIsPieceRow.holds Try.pinned (OpenSpec.ofChange fnExactIsPieceSpec)

/-- ITS FALSE NEIGHBOUR: 'it returns false'. Refute it at one input. -/
def fnExactIsPieceWrong : ChangeSpec := { name := "fnExactIsPiece", fn := fun _ => fun
  | [d] => { results := [.lit (.bool false)], args := [d] }
  | _ => none }
def FnExactIsPieceWrongFalsely : Prop := fnExactIsPieceRow.holds Try.pinned (OpenSpec.ofChange fnExactIsPieceWrong)

/-- 'laws.FnExactCanCut': WHATEVER THE INPUT: true; the input reads as it did. -/
def fnExactCanCutSpec : ChangeSpec := { name := "fnExactCanCut", fn := fun _ => fun
  | [d1, d2] => { results := [.lit (.bool true)], args := [d1, d2] }
  | _ => none }
def fnExactCanCutRow : OpenClaim := { program := "ytpidcbbpcgbfiaa", sum := "3dc4390faaf647d68ed126c6fff90ac80ad682142218a90f287115c5516c031c", func := "loop.example/g00944/laws.FnExactCanCut", spec := "fnExactCanCut", apart := false }
def FnExactCanCutSaid : Prop := fnExactCanCutRow.holds Try.pinned (OpenSpec.ofChange fnExactCanCutSpec)

/-- ITS FALSE NEIGHBOUR: 'it returns false'. Refute it at one input. -/
def fnExactCanCutWrong : ChangeSpec := { name := "fnExactCanCut", fn := fun _ => fun
  | [d1, d2] => { results := [.lit (.bool false)], args := [d1, d2] }
  | _ => none }
def FnExactCanCutWrongFalsely : Prop := fnExactCanCutRow.holds Try.pinned (OpenSpec.ofChange fnExactCanCutWrong)

/-- 'laws.FnExactMakeCut': WHATEVER THE INPUT: true; the input reads as it did. -/
def fnExactMakeCutSpec : ChangeSpec := { name := "fnExactMakeCut", fn := fun _ => fun
  | [d1, d2] => { results := [.lit (.bool true)], args := [d1, d2] }
  | _ => none }
def fnExactMakeCutRow : OpenClaim := { program := "ytpidcbbpcgbfiaa", sum := "3dc4390faaf647d68ed126c6fff90ac80ad682142218a90f287115c5516c031c", func := "loop.example/g00944/laws.FnExactMakeCut", spec := "fnExactMakeCut", apart := false }
def FnExactMakeCutSaid : Prop := fnExactMakeCutRow.holds Try.pinned (OpenSpec.ofChange fnExactMakeCutSpec)

/-- ITS FALSE NEIGHBOUR: 'it returns false'. Refute it at one input. -/
def fnExactMakeCutWrong : ChangeSpec := { name := "fnExactMakeCut", fn := fun _ => fun
  | [d1, d2] => { results := [.lit (.bool false)], args := [d1, d2] }
  | _ => none }
def FnExactMakeCutWrongFalsely : Prop := fnExactMakeCutRow.holds Try.pinned (OpenSpec.ofChange fnExactMakeCutWrong)

/-- 'laws.FnExactRunCuts': WHATEVER THE INPUT: true; the input reads as it did. -/
def fnExactRunCutsSpec : ChangeSpec := { name := "fnExactRunCuts", fn := fun _ => fun
  | [d1, d2] => { results := [.lit (.bool true)], args := [d1, d2] }
  | _ => none }
def fnExactRunCutsRow : OpenClaim := { program := "ytpidcbbpcgbfiaa", sum := "3dc4390faaf647d68ed126c6fff90ac80ad682142218a90f287115c5516c031c", func := "loop.example/g00944/laws.FnExactRunCuts", spec := "fnExactRunCuts", apart := false }
def FnExactRunCutsSaid : Prop := fnExactRunCutsRow.holds Try.pinned (OpenSpec.ofChange fnExactRunCutsSpec)

/-- ITS FALSE NEIGHBOUR: 'it returns false'. Refute it at one input. -/
def fnExactRunCutsWrong : ChangeSpec := { name := "fnExactRunCuts", fn := fun _ => fun
  | [d1, d2] => { results := [.lit (.bool false)], args := [d1, d2] }
  | _ => none }
def FnExactRunCutsWrongFalsely : Prop := fnExactRunCutsRow.holds Try.pinned (OpenSpec.ofChange fnExactRunCutsWrong)

/-- 'laws.FnExactAreaOf': WHATEVER THE INPUT: true; the input reads as it did. -/
def fnExactAreaOfSpec : ChangeSpec := { name := "fnExactAreaOf", fn := fun _ => fun
  | [d] => { results := [.lit (.bool true)], args := [d] }
  | _ => none }
def fnExactAreaOfRow : OpenClaim := { program := "ytpidcbbpcgbfiaa", sum := "3dc4390faaf647d68ed126c6fff90ac80ad682142218a90f287115c5516c031c", func := "loop.example/g00944/laws.FnExactAreaOf", spec := "fnExactAreaOf", apart := false }
def FnExactAreaOfSaid : Prop := fnExactAreaOfRow.holds Try.pinned (OpenSpec.ofChange fnExactAreaOfSpec)

/-- ITS FALSE NEIGHBOUR: 'it returns false'. Refute it at one input. -/
def fnExactAreaOfWrong : ChangeSpec := { name := "fnExactAreaOf", fn := fun _ => fun
  | [d] => { results := [.lit (.bool false)], args := [d] }
  | _ => none }
def FnExactAreaOfWrongFalsely : Prop := fnExactAreaOfRow.holds Try.pinned (OpenSpec.ofChange fnExactAreaOfWrong)

/-- 'laws.FnExactCountPieces': WHATEVER THE INPUT: true; the input reads as it did. -/
def fnExactCountPiecesSpec : ChangeSpec := { name := "fnExactCountPieces", fn := fun _ => fun
  | [d1, d2] => { results := [.lit (.bool true)], args := [d1, d2] }
  | _ => none }
def fnExactCountPiecesRow : OpenClaim := { program := "ytpidcbbpcgbfiaa", sum := "3dc4390faaf647d68ed126c6fff90ac80ad682142218a90f287115c5516c031c", func := "loop.example/g00944/laws.FnExactCountPieces", spec := "fnExactCountPieces", apart := false }
def FnExactCountPiecesSaid : Prop := fnExactCountPiecesRow.holds Try.pinned (OpenSpec.ofChange fnExactCountPiecesSpec)

/-- ITS FALSE NEIGHBOUR: 'it returns false'. Refute it at one input. -/
def fnExactCountPiecesWrong : ChangeSpec := { name := "fnExactCountPieces", fn := fun _ => fun
  | [d1, d2] => { results := [.lit (.bool false)], args := [d1, d2] }
  | _ => none }
def FnExactCountPiecesWrongFalsely : Prop := fnExactCountPiecesRow.holds Try.pinned (OpenSpec.ofChange fnExactCountPiecesWrong)

/-- 'laws.FnExactGridCuts': WHATEVER THE INPUT: true; the input reads as it did. -/
def fnExactGridCutsSpec : ChangeSpec := { name := "fnExactGridCuts", fn := fun _ => fun
  | [d1, d2, d3, d4] => { results := [.lit (.bool true)], args := [d1, d2, d3, d4] }
  | _ => none }
def fnExactGridCutsRow : OpenClaim := { program := "ytpidcbbpcgbfiaa", sum := "3dc4390faaf647d68ed126c6fff90ac80ad682142218a90f287115c5516c031c", func := "loop.example/g00944/laws.FnExactGridCuts", spec := "fnExactGridCuts", apart := false }
def FnExactGridCutsSaid : Prop := fnExactGridCutsRow.holds Try.pinned (OpenSpec.ofChange fnExactGridCutsSpec)

/-- ITS FALSE NEIGHBOUR: 'it returns false'. Refute it at one input. -/
def fnExactGridCutsWrong : ChangeSpec := { name := "fnExactGridCuts", fn := fun _ => fun
  | [d1, d2, d3, d4] => { results := [.lit (.bool false)], args := [d1, d2, d3, d4] }
  | _ => none }
def FnExactGridCutsWrongFalsely : Prop := fnExactGridCutsRow.holds Try.pinned (OpenSpec.ofChange fnExactGridCutsWrong)

/- THE SECOND FORM. 'bulk': how many values and letters a reading holds, each counted each time it is reached (what is shared counts as often as it is met; a slice's spare places count too). A statement '..UptoSaid' is the law's where the arguments, and the package variables that the reading takes, are together of bulk at most 1048576: NARROWER than '..Said'. Prove '..Said' where nothing that the law and all that it calls make is longer than what came in: it says more and counts as full. Else prove '..UptoSaid'. A law counts once. -/
mutual
def uptoBulk {H : Type} : DataW H → Nat
  | .lit (.string bytes) => bytes.length + 1
  | .lit _ => 1
  | .nil => 1
  | .ptr d => uptoBulk d + 1
  | .slice elems spare => uptoBulkAll elems + uptoBulkAll spare + 1
  | .agg parts => uptoBulkAll parts + 1
  | .iface _ d => uptoBulk d + 1
  | .map entries => uptoBulkEntries entries + 1
  | .held _ => 1
def uptoBulkAll {H : Type} : List (DataW H) → Nat
  | [] => 0
  | d :: r => uptoBulk d + uptoBulkAll r
def uptoBulkEntries {H : Type} : List (Lit × DataW H) → Nat
  | [] => 0
  | x :: r => uptoBulkEntry x + uptoBulkEntries r
def uptoBulkEntry {H : Type} : Lit × DataW H → Nat
  | (.string bytes, d) => bytes.length + uptoBulk d + 1
  | (_, d) => uptoBulk d + 1
 end
def uptoSmall : (H : Type) → List (DataW H) → Bool := fun _ ds => decide (uptoBulkAll ds ≤ 1048576)
def OpenSpec.upto (s : _root_.Go.ChangeSpec) : _root_.Go.OpenSpec := { _root_.Go.OpenSpec.ofChange s with cond := some uptoSmall }

/-- 'laws.FnExactIsPiece', WHERE WHAT IT READS IS OF BULK AT MOST 1048576: true; the input reads as it did. -/
def fnExactIsPieceUptoRow : OpenClaim := { program := "ytpidcbbpcgbfiaa", sum := "3dc4390faaf647d68ed126c6fff90ac80ad682142218a90f287115c5516c031c", func := "loop.example/g00944/laws.FnExactIsPiece", spec := "fnExactIsPiece", apart := false, narrowed := true }
def FnExactIsPieceUptoSaid : Prop := fnExactIsPieceUptoRow.holds Try.pinned (OpenSpec.upto fnExactIsPieceSpec)

/-- 'laws.FnExactCanCut', WHERE WHAT IT READS IS OF BULK AT MOST 1048576: true; the input reads as it did. -/
def fnExactCanCutUptoRow : OpenClaim := { program := "ytpidcbbpcgbfiaa", sum := "3dc4390faaf647d68ed126c6fff90ac80ad682142218a90f287115c5516c031c", func := "loop.example/g00944/laws.FnExactCanCut", spec := "fnExactCanCut", apart := false, narrowed := true }
def FnExactCanCutUptoSaid : Prop := fnExactCanCutUptoRow.holds Try.pinned (OpenSpec.upto fnExactCanCutSpec)

/-- 'laws.FnExactMakeCut', WHERE WHAT IT READS IS OF BULK AT MOST 1048576: true; the input reads as it did. -/
def fnExactMakeCutUptoRow : OpenClaim := { program := "ytpidcbbpcgbfiaa", sum := "3dc4390faaf647d68ed126c6fff90ac80ad682142218a90f287115c5516c031c", func := "loop.example/g00944/laws.FnExactMakeCut", spec := "fnExactMakeCut", apart := false, narrowed := true }
def FnExactMakeCutUptoSaid : Prop := fnExactMakeCutUptoRow.holds Try.pinned (OpenSpec.upto fnExactMakeCutSpec)

/-- 'laws.FnExactRunCuts', WHERE WHAT IT READS IS OF BULK AT MOST 1048576: true; the input reads as it did. -/
def fnExactRunCutsUptoRow : OpenClaim := { program := "ytpidcbbpcgbfiaa", sum := "3dc4390faaf647d68ed126c6fff90ac80ad682142218a90f287115c5516c031c", func := "loop.example/g00944/laws.FnExactRunCuts", spec := "fnExactRunCuts", apart := false, narrowed := true }
def FnExactRunCutsUptoSaid : Prop := fnExactRunCutsUptoRow.holds Try.pinned (OpenSpec.upto fnExactRunCutsSpec)

/-- 'laws.FnExactAreaOf', WHERE WHAT IT READS IS OF BULK AT MOST 1048576: true; the input reads as it did. -/
def fnExactAreaOfUptoRow : OpenClaim := { program := "ytpidcbbpcgbfiaa", sum := "3dc4390faaf647d68ed126c6fff90ac80ad682142218a90f287115c5516c031c", func := "loop.example/g00944/laws.FnExactAreaOf", spec := "fnExactAreaOf", apart := false, narrowed := true }
def FnExactAreaOfUptoSaid : Prop := fnExactAreaOfUptoRow.holds Try.pinned (OpenSpec.upto fnExactAreaOfSpec)

/-- 'laws.FnExactCountPieces', WHERE WHAT IT READS IS OF BULK AT MOST 1048576: true; the input reads as it did. -/
def fnExactCountPiecesUptoRow : OpenClaim := { program := "ytpidcbbpcgbfiaa", sum := "3dc4390faaf647d68ed126c6fff90ac80ad682142218a90f287115c5516c031c", func := "loop.example/g00944/laws.FnExactCountPieces", spec := "fnExactCountPieces", apart := false, narrowed := true }
def FnExactCountPiecesUptoSaid : Prop := fnExactCountPiecesUptoRow.holds Try.pinned (OpenSpec.upto fnExactCountPiecesSpec)

/-- 'laws.FnExactGridCuts', WHERE WHAT IT READS IS OF BULK AT MOST 1048576: true; the input reads as it did. -/
def fnExactGridCutsUptoRow : OpenClaim := { program := "ytpidcbbpcgbfiaa", sum := "3dc4390faaf647d68ed126c6fff90ac80ad682142218a90f287115c5516c031c", func := "loop.example/g00944/laws.FnExactGridCuts", spec := "fnExactGridCuts", apart := false, narrowed := true }
def FnExactGridCutsUptoSaid : Prop := fnExactGridCutsUptoRow.holds Try.pinned (OpenSpec.upto fnExactGridCutsSpec)

end Rows
end Go.Proofs.Ytpidcbbpcgbfiaa
