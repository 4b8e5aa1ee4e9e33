/-
  No cell of these rows narrows 'for every input' (looked for: loops, veiled, ifaces, maps, wideKeys, modest, calm, conditions, laid).
  DERIVED. THE GIVEN ROWS OF THIS SEAT. 16 by the template 'for every input the law returns true; each argument reads behind the call as it read before'; 0 by the template 'total and deterministic' (their statements: YtamnhbambklmkaaTotals.lean).
  GIVEN WITH THE SEED: the statements are not yours to turn. If you find one false, say at which input.
  Laid BY PROGRAM, IN A SANDBOX (cutbox-rows.mjs): the forced cells as the released guide's own fill.sh prints them over the translation 673ca91e2a8e54d5… (all of the seat's roots in one cut). By AI agents, Wed Nov 11 2026. No macro, syntax, notation, axiom, sorry.
-/
import Derived.Test.YtamnhbambklmkaaChecked
import GoSem.Claim
import GoSem.ClaimJoined
import GoSem.ClaimMapViews
import Derived.JoinedTies
import Derived.KernelRfl
namespace Go.Proofs.Ytamnhbambklmkaa
/- THE CELL 'sum', in the pinned program and in every row, IS THE sha256 OF THE DUMP (.gsa) THAT YtamnhbambklmkaaProg.lean LOADS. Nothing in Lean hashes anything: it is a label: what it is worth is what the hold of that sum in a sandbox is worth. -/
noncomputable def Try.pinned : Pinned := { name := "ytamnhbambklmkaa", sum := "673ca91e2a8e54d5302688a8a73897e9e56c3b74482a36c7fd9ad74d3d8e2779", checked := Try.checked }
namespace Rows
def none {H : Type} : Left H := { results := [], args := [] }

/-- 'laws.FnSignatures': WHATEVER THE INPUT: true; the input reads as it did. -/
def fnSignaturesSpec : ChangeSpec := { name := "fnSignatures", fn := fun _ => fun
  | [d] => { results := [.lit (.bool true)], args := [d] }
  | _ => none }
def fnSignaturesRow : OpenClaim := { program := "ytamnhbambklmkaa", sum := "673ca91e2a8e54d5302688a8a73897e9e56c3b74482a36c7fd9ad74d3d8e2779", func := "loop.example/g00944/laws.FnSignatures", spec := "fnSignatures", apart := false }
def FnSignaturesSaid : Prop := fnSignaturesRow.holds Try.pinned (OpenSpec.ofChange fnSignaturesSpec)

/-- ITS FALSE NEIGHBOUR: 'it returns false'. Refute it at one input. -/
def fnSignaturesWrong : ChangeSpec := { name := "fnSignatures", fn := fun _ => fun
  | [d] => { results := [.lit (.bool false)], args := [d] }
  | _ => none }
def FnSignaturesWrongFalsely : Prop := fnSignaturesRow.holds Try.pinned (OpenSpec.ofChange fnSignaturesWrong)

/-- 'laws.FnUnits': WHATEVER THE INPUT: true; the input reads as it did. -/
def fnUnitsSpec : ChangeSpec := { name := "fnUnits", fn := fun _ => fun
  | [d] => { results := [.lit (.bool true)], args := [d] }
  | _ => none }
def fnUnitsRow : OpenClaim := { program := "ytamnhbambklmkaa", sum := "673ca91e2a8e54d5302688a8a73897e9e56c3b74482a36c7fd9ad74d3d8e2779", func := "loop.example/g00944/laws.FnUnits", spec := "fnUnits", unfollowed := true, recurses := true, apart := false }
def FnUnitsSaid : Prop := fnUnitsRow.holds Try.pinned (OpenSpec.ofChange fnUnitsSpec)

/-- ITS FALSE NEIGHBOUR: 'it returns false'. Refute it at one input. -/
def fnUnitsWrong : ChangeSpec := { name := "fnUnits", fn := fun _ => fun
  | [d] => { results := [.lit (.bool false)], args := [d] }
  | _ => none }
def FnUnitsWrongFalsely : Prop := fnUnitsRow.holds Try.pinned (OpenSpec.ofChange fnUnitsWrong)

/-- 'laws.FnCreep': WHATEVER THE INPUT: true; the input reads as it did. -/
def fnCreepSpec : ChangeSpec := { name := "fnCreep", fn := fun _ => fun
  | [d] => { results := [.lit (.bool true)], args := [d] }
  | _ => none }
def fnCreepRow : OpenClaim := { program := "ytamnhbambklmkaa", sum := "673ca91e2a8e54d5302688a8a73897e9e56c3b74482a36c7fd9ad74d3d8e2779", func := "loop.example/g00944/laws.FnCreep", spec := "fnCreep", apart := false }
def FnCreepSaid : Prop := fnCreepRow.holds Try.pinned (OpenSpec.ofChange fnCreepSpec)

/-- ITS FALSE NEIGHBOUR: 'it returns false'. Refute it at one input. -/
def fnCreepWrong : ChangeSpec := { name := "fnCreep", fn := fun _ => fun
  | [d] => { results := [.lit (.bool false)], args := [d] }
  | _ => none }
def FnCreepWrongFalsely : Prop := fnCreepRow.holds Try.pinned (OpenSpec.ofChange fnCreepWrong)

/-- 'laws.FnBlocks': WHATEVER THE INPUT: true; the input reads as it did. -/
def fnBlocksSpec : ChangeSpec := { name := "fnBlocks", fn := fun _ => fun
  | [d] => { results := [.lit (.bool true)], args := [d] }
  | _ => none }
def fnBlocksRow : OpenClaim := { program := "ytamnhbambklmkaa", sum := "673ca91e2a8e54d5302688a8a73897e9e56c3b74482a36c7fd9ad74d3d8e2779", func := "loop.example/g00944/laws.FnBlocks", spec := "fnBlocks", apart := false }
def FnBlocksSaid : Prop := fnBlocksRow.holds Try.pinned (OpenSpec.ofChange fnBlocksSpec)

/-- ITS FALSE NEIGHBOUR: 'it returns false'. Refute it at one input. -/
def fnBlocksWrong : ChangeSpec := { name := "fnBlocks", fn := fun _ => fun
  | [d] => { results := [.lit (.bool false)], args := [d] }
  | _ => none }
def FnBlocksWrongFalsely : Prop := fnBlocksRow.holds Try.pinned (OpenSpec.ofChange fnBlocksWrong)

/-- 'laws.FnExactSignatureCount': WHATEVER THE INPUT: true; the input reads as it did. -/
def fnExactSignatureCountSpec : ChangeSpec := { name := "fnExactSignatureCount", fn := fun _ => fun
  | [d1, d2] => { results := [.lit (.bool true)], args := [d1, d2] }
  | _ => none }
def fnExactSignatureCountRow : OpenClaim := { program := "ytamnhbambklmkaa", sum := "673ca91e2a8e54d5302688a8a73897e9e56c3b74482a36c7fd9ad74d3d8e2779", func := "loop.example/g00944/laws.FnExactSignatureCount", spec := "fnExactSignatureCount", apart := false }
def FnExactSignatureCountSaid : Prop := fnExactSignatureCountRow.holds Try.pinned (OpenSpec.ofChange fnExactSignatureCountSpec)

/-- ITS FALSE NEIGHBOUR: 'it returns false'. Refute it at one input. -/
def fnExactSignatureCountWrong : ChangeSpec := { name := "fnExactSignatureCount", fn := fun _ => fun
  | [d1, d2] => { results := [.lit (.bool false)], args := [d1, d2] }
  | _ => none }
def FnExactSignatureCountWrongFalsely : Prop := fnExactSignatureCountRow.holds Try.pinned (OpenSpec.ofChange fnExactSignatureCountWrong)

/-- 'laws.FnExactSignatureOf': WHATEVER THE INPUT: true; the input reads as it did. -/
def fnExactSignatureOfSpec : ChangeSpec := { name := "fnExactSignatureOf", fn := fun _ => fun
  | [d1, d2, d3] => { results := [.lit (.bool true)], args := [d1, d2, d3] }
  | _ => none }
def fnExactSignatureOfRow : OpenClaim := { program := "ytamnhbambklmkaa", sum := "673ca91e2a8e54d5302688a8a73897e9e56c3b74482a36c7fd9ad74d3d8e2779", func := "loop.example/g00944/laws.FnExactSignatureOf", spec := "fnExactSignatureOf", apart := false }
def FnExactSignatureOfSaid : Prop := fnExactSignatureOfRow.holds Try.pinned (OpenSpec.ofChange fnExactSignatureOfSpec)

/-- ITS FALSE NEIGHBOUR: 'it returns false'. Refute it at one input. -/
def fnExactSignatureOfWrong : ChangeSpec := { name := "fnExactSignatureOf", fn := fun _ => fun
  | [d1, d2, d3] => { results := [.lit (.bool false)], args := [d1, d2, d3] }
  | _ => none }
def FnExactSignatureOfWrongFalsely : Prop := fnExactSignatureOfRow.holds Try.pinned (OpenSpec.ofChange fnExactSignatureOfWrong)

/-- 'laws.FnExactGatherPages': WHATEVER THE INPUT: true; the input reads as it did. -/
def fnExactGatherPagesSpec : ChangeSpec := { name := "fnExactGatherPages", fn := fun _ => fun
  | [d1, d2, d3] => { results := [.lit (.bool true)], args := [d1, d2, d3] }
  | _ => none }
def fnExactGatherPagesRow : OpenClaim := { program := "ytamnhbambklmkaa", sum := "673ca91e2a8e54d5302688a8a73897e9e56c3b74482a36c7fd9ad74d3d8e2779", func := "loop.example/g00944/laws.FnExactGatherPages", spec := "fnExactGatherPages", apart := false }
def FnExactGatherPagesSaid : Prop := fnExactGatherPagesRow.holds Try.pinned (OpenSpec.ofChange fnExactGatherPagesSpec)

/-- ITS FALSE NEIGHBOUR: 'it returns false'. Refute it at one input. -/
def fnExactGatherPagesWrong : ChangeSpec := { name := "fnExactGatherPages", fn := fun _ => fun
  | [d1, d2, d3] => { results := [.lit (.bool false)], args := [d1, d2, d3] }
  | _ => none }
def FnExactGatherPagesWrongFalsely : Prop := fnExactGatherPagesRow.holds Try.pinned (OpenSpec.ofChange fnExactGatherPagesWrong)

/-- 'laws.FnExactBestUnits': WHATEVER THE INPUT: true; the input reads as it did. -/
def fnExactBestUnitsSpec : ChangeSpec := { name := "fnExactBestUnits", fn := fun _ => fun
  | [d1, d2] => { results := [.lit (.bool true)], args := [d1, d2] }
  | _ => none }
def fnExactBestUnitsRow : OpenClaim := { program := "ytamnhbambklmkaa", sum := "673ca91e2a8e54d5302688a8a73897e9e56c3b74482a36c7fd9ad74d3d8e2779", func := "loop.example/g00944/laws.FnExactBestUnits", spec := "fnExactBestUnits", unfollowed := true, recurses := true, apart := false }
def FnExactBestUnitsSaid : Prop := fnExactBestUnitsRow.holds Try.pinned (OpenSpec.ofChange fnExactBestUnitsSpec)

/-- ITS FALSE NEIGHBOUR: 'it returns false'. Refute it at one input. -/
def fnExactBestUnitsWrong : ChangeSpec := { name := "fnExactBestUnits", fn := fun _ => fun
  | [d1, d2] => { results := [.lit (.bool false)], args := [d1, d2] }
  | _ => none }
def FnExactBestUnitsWrongFalsely : Prop := fnExactBestUnitsRow.holds Try.pinned (OpenSpec.ofChange fnExactBestUnitsWrong)

/-- 'laws.FnExactCreepOf': WHATEVER THE INPUT: true; the input reads as it did. -/
def fnExactCreepOfSpec : ChangeSpec := { name := "fnExactCreepOf", fn := fun _ => fun
  | [d1, d2, d3] => { results := [.lit (.bool true)], args := [d1, d2, d3] }
  | _ => none }
def fnExactCreepOfRow : OpenClaim := { program := "ytamnhbambklmkaa", sum := "673ca91e2a8e54d5302688a8a73897e9e56c3b74482a36c7fd9ad74d3d8e2779", func := "loop.example/g00944/laws.FnExactCreepOf", spec := "fnExactCreepOf", apart := false }
def FnExactCreepOfSaid : Prop := fnExactCreepOfRow.holds Try.pinned (OpenSpec.ofChange fnExactCreepOfSpec)

/-- ITS FALSE NEIGHBOUR: 'it returns false'. Refute it at one input. -/
def fnExactCreepOfWrong : ChangeSpec := { name := "fnExactCreepOf", fn := fun _ => fun
  | [d1, d2, d3] => { results := [.lit (.bool false)], args := [d1, d2, d3] }
  | _ => none }
def FnExactCreepOfWrongFalsely : Prop := fnExactCreepOfRow.holds Try.pinned (OpenSpec.ofChange fnExactCreepOfWrong)

/-- 'laws.FnExactCreepTenths': WHATEVER THE INPUT: true; the input reads as it did. -/
def fnExactCreepTenthsSpec : ChangeSpec := { name := "fnExactCreepTenths", fn := fun _ => fun
  | [d1, d2] => { results := [.lit (.bool true)], args := [d1, d2] }
  | _ => none }
def fnExactCreepTenthsRow : OpenClaim := { program := "ytamnhbambklmkaa", sum := "673ca91e2a8e54d5302688a8a73897e9e56c3b74482a36c7fd9ad74d3d8e2779", func := "loop.example/g00944/laws.FnExactCreepTenths", spec := "fnExactCreepTenths", apart := false }
def FnExactCreepTenthsSaid : Prop := fnExactCreepTenthsRow.holds Try.pinned (OpenSpec.ofChange fnExactCreepTenthsSpec)

/-- ITS FALSE NEIGHBOUR: 'it returns false'. Refute it at one input. -/
def fnExactCreepTenthsWrong : ChangeSpec := { name := "fnExactCreepTenths", fn := fun _ => fun
  | [d1, d2] => { results := [.lit (.bool false)], args := [d1, d2] }
  | _ => none }
def FnExactCreepTenthsWrongFalsely : Prop := fnExactCreepTenthsRow.holds Try.pinned (OpenSpec.ofChange fnExactCreepTenthsWrong)

/-- 'laws.FnExactTrimLoss': WHATEVER THE INPUT: true; the input reads as it did. -/
def fnExactTrimLossSpec : ChangeSpec := { name := "fnExactTrimLoss", fn := fun _ => fun
  | [d1, d2] => { results := [.lit (.bool true)], args := [d1, d2] }
  | _ => none }
def fnExactTrimLossRow : OpenClaim := { program := "ytamnhbambklmkaa", sum := "673ca91e2a8e54d5302688a8a73897e9e56c3b74482a36c7fd9ad74d3d8e2779", func := "loop.example/g00944/laws.FnExactTrimLoss", spec := "fnExactTrimLoss", apart := false }
def FnExactTrimLossSaid : Prop := fnExactTrimLossRow.holds Try.pinned (OpenSpec.ofChange fnExactTrimLossSpec)

/-- ITS FALSE NEIGHBOUR: 'it returns false'. Refute it at one input. -/
def fnExactTrimLossWrong : ChangeSpec := { name := "fnExactTrimLoss", fn := fun _ => fun
  | [d1, d2] => { results := [.lit (.bool false)], args := [d1, d2] }
  | _ => none }
def FnExactTrimLossWrongFalsely : Prop := fnExactTrimLossRow.holds Try.pinned (OpenSpec.ofChange fnExactTrimLossWrong)

/-- 'laws.FnExactMarginsFor': WHATEVER THE INPUT: true; the input reads as it did. -/
def fnExactMarginsForSpec : ChangeSpec := { name := "fnExactMarginsFor", fn := fun _ => fun
  | [d1, d2, d3] => { results := [.lit (.bool true)], args := [d1, d2, d3] }
  | _ => none }
def fnExactMarginsForRow : OpenClaim := { program := "ytamnhbambklmkaa", sum := "673ca91e2a8e54d5302688a8a73897e9e56c3b74482a36c7fd9ad74d3d8e2779", func := "loop.example/g00944/laws.FnExactMarginsFor", spec := "fnExactMarginsFor", apart := false }
def FnExactMarginsForSaid : Prop := fnExactMarginsForRow.holds Try.pinned (OpenSpec.ofChange fnExactMarginsForSpec)

/-- ITS FALSE NEIGHBOUR: 'it returns false'. Refute it at one input. -/
def fnExactMarginsForWrong : ChangeSpec := { name := "fnExactMarginsFor", fn := fun _ => fun
  | [d1, d2, d3] => { results := [.lit (.bool false)], args := [d1, d2, d3] }
  | _ => none }
def FnExactMarginsForWrongFalsely : Prop := fnExactMarginsForRow.holds Try.pinned (OpenSpec.ofChange fnExactMarginsForWrong)

/-- 'laws.FnExactMostNested': WHATEVER THE INPUT: true; the input reads as it did. -/
def fnExactMostNestedSpec : ChangeSpec := { name := "fnExactMostNested", fn := fun _ => fun
  | [d1, d2] => { results := [.lit (.bool true)], args := [d1, d2] }
  | _ => none }
def fnExactMostNestedRow : OpenClaim := { program := "ytamnhbambklmkaa", sum := "673ca91e2a8e54d5302688a8a73897e9e56c3b74482a36c7fd9ad74d3d8e2779", func := "loop.example/g00944/laws.FnExactMostNested", spec := "fnExactMostNested", apart := false }
def FnExactMostNestedSaid : Prop := fnExactMostNestedRow.holds Try.pinned (OpenSpec.ofChange fnExactMostNestedSpec)

/-- ITS FALSE NEIGHBOUR: 'it returns false'. Refute it at one input. -/
def fnExactMostNestedWrong : ChangeSpec := { name := "fnExactMostNested", fn := fun _ => fun
  | [d1, d2] => { results := [.lit (.bool false)], args := [d1, d2] }
  | _ => none }
def FnExactMostNestedWrongFalsely : Prop := fnExactMostNestedRow.holds Try.pinned (OpenSpec.ofChange fnExactMostNestedWrong)

/-- 'laws.FnExactBlockThickness': WHATEVER THE INPUT: true; the input reads as it did. -/
def fnExactBlockThicknessSpec : ChangeSpec := { name := "fnExactBlockThickness", fn := fun _ => fun
  | [d1, d2] => { results := [.lit (.bool true)], args := [d1, d2] }
  | _ => none }
def fnExactBlockThicknessRow : OpenClaim := { program := "ytamnhbambklmkaa", sum := "673ca91e2a8e54d5302688a8a73897e9e56c3b74482a36c7fd9ad74d3d8e2779", func := "loop.example/g00944/laws.FnExactBlockThickness", spec := "fnExactBlockThickness", apart := false }
def FnExactBlockThicknessSaid : Prop := fnExactBlockThicknessRow.holds Try.pinned (OpenSpec.ofChange fnExactBlockThicknessSpec)

/-- ITS FALSE NEIGHBOUR: 'it returns false'. Refute it at one input. -/
def fnExactBlockThicknessWrong : ChangeSpec := { name := "fnExactBlockThickness", fn := fun _ => fun
  | [d1, d2] => { results := [.lit (.bool false)], args := [d1, d2] }
  | _ => none }
def FnExactBlockThicknessWrongFalsely : Prop := fnExactBlockThicknessRow.holds Try.pinned (OpenSpec.ofChange fnExactBlockThicknessWrong)

/-- 'laws.FnExactSpineWidth': WHATEVER THE INPUT: true; the input reads as it did. -/
def fnExactSpineWidthSpec : ChangeSpec := { name := "fnExactSpineWidth", fn := fun _ => fun
  | [d1, d2, d3] => { results := [.lit (.bool true)], args := [d1, d2, d3] }
  | _ => none }
def fnExactSpineWidthRow : OpenClaim := { program := "ytamnhbambklmkaa", sum := "673ca91e2a8e54d5302688a8a73897e9e56c3b74482a36c7fd9ad74d3d8e2779", func := "loop.example/g00944/laws.FnExactSpineWidth", spec := "fnExactSpineWidth", apart := false }
def FnExactSpineWidthSaid : Prop := fnExactSpineWidthRow.holds Try.pinned (OpenSpec.ofChange fnExactSpineWidthSpec)

/-- ITS FALSE NEIGHBOUR: 'it returns false'. Refute it at one input. -/
def fnExactSpineWidthWrong : ChangeSpec := { name := "fnExactSpineWidth", fn := fun _ => fun
  | [d1, d2, d3] => { results := [.lit (.bool false)], args := [d1, d2, d3] }
  | _ => none }
def FnExactSpineWidthWrongFalsely : Prop := fnExactSpineWidthRow.holds Try.pinned (OpenSpec.ofChange fnExactSpineWidthWrong)

/-- 'laws.FnExactThicknessRange': WHATEVER THE INPUT: true; the input reads as it did. -/
def fnExactThicknessRangeSpec : ChangeSpec := { name := "fnExactThicknessRange", fn := fun _ => fun
  | [d1, d2] => { results := [.lit (.bool true)], args := [d1, d2] }
  | _ => none }
def fnExactThicknessRangeRow : OpenClaim := { program := "ytamnhbambklmkaa", sum := "673ca91e2a8e54d5302688a8a73897e9e56c3b74482a36c7fd9ad74d3d8e2779", func := "loop.example/g00944/laws.FnExactThicknessRange", spec := "fnExactThicknessRange", apart := false }
def FnExactThicknessRangeSaid : Prop := fnExactThicknessRangeRow.holds Try.pinned (OpenSpec.ofChange fnExactThicknessRangeSpec)

/-- ITS FALSE NEIGHBOUR: 'it returns false'. Refute it at one input. -/
def fnExactThicknessRangeWrong : ChangeSpec := { name := "fnExactThicknessRange", fn := fun _ => fun
  | [d1, d2] => { results := [.lit (.bool false)], args := [d1, d2] }
  | _ => none }
def FnExactThicknessRangeWrongFalsely : Prop := fnExactThicknessRangeRow.holds Try.pinned (OpenSpec.ofChange fnExactThicknessRangeWrong)

/- THE SECOND FORM. 'bulk': how many values and letters a reading holds, each counted each time it is reached (what is shared counts as often as it is met; a slice's spare places count too). A statement '..UptoSaid' is the law's where the arguments, and the package variables that the reading takes, are together of bulk at most 1048576: NARROWER than '..Said'. Prove '..Said' where nothing that the law and all that it calls make is longer than what came in: it says more and counts as full. Else prove '..UptoSaid'. A law counts once. -/
mutual
def uptoBulk {H : Type} : DataW H → Nat
  | .lit (.string bytes) => bytes.length + 1
  | .lit _ => 1
  | .nil => 1
  | .ptr d => uptoBulk d + 1
  | .slice elems spare => uptoBulkAll elems + uptoBulkAll spare + 1
  | .agg parts => uptoBulkAll parts + 1
  | .iface _ d => uptoBulk d + 1
  | .map entries => uptoBulkEntries entries + 1
  | .held _ => 1
def uptoBulkAll {H : Type} : List (DataW H) → Nat
  | [] => 0
  | d :: r => uptoBulk d + uptoBulkAll r
def uptoBulkEntries {H : Type} : List (Lit × DataW H) → Nat
  | [] => 0
  | x :: r => uptoBulkEntry x + uptoBulkEntries r
def uptoBulkEntry {H : Type} : Lit × DataW H → Nat
  | (.string bytes, d) => bytes.length + uptoBulk d + 1
  | (_, d) => uptoBulk d + 1
 end
def uptoSmall : (H : Type) → List (DataW H) → Bool := fun _ ds => decide (uptoBulkAll ds ≤ 1048576)
def OpenSpec.upto (s : _root_.Go.ChangeSpec) : _root_.Go.OpenSpec := { _root_.Go.OpenSpec.ofChange s with cond := some uptoSmall }

/-- 'laws.FnSignatures', WHERE WHAT IT READS IS OF BULK AT MOST 1048576: true; the input reads as it did. -/
def fnSignaturesUptoRow : OpenClaim := { program := "ytamnhbambklmkaa", sum := "673ca91e2a8e54d5302688a8a73897e9e56c3b74482a36c7fd9ad74d3d8e2779", func := "loop.example/g00944/laws.FnSignatures", spec := "fnSignatures", apart := false, narrowed := true }
def FnSignaturesUptoSaid : Prop := fnSignaturesUptoRow.holds Try.pinned (OpenSpec.upto fnSignaturesSpec)

/-- 'laws.FnUnits', WHERE WHAT IT READS IS OF BULK AT MOST 1048576: true; the input reads as it did. -/
def fnUnitsUptoRow : OpenClaim := { program := "ytamnhbambklmkaa", sum := "673ca91e2a8e54d5302688a8a73897e9e56c3b74482a36c7fd9ad74d3d8e2779", func := "loop.example/g00944/laws.FnUnits", spec := "fnUnits", unfollowed := true, recurses := true, apart := false, narrowed := true }
def FnUnitsUptoSaid : Prop := fnUnitsUptoRow.holds Try.pinned (OpenSpec.upto fnUnitsSpec)

/-- 'laws.FnCreep', WHERE WHAT IT READS IS OF BULK AT MOST 1048576: true; the input reads as it did. -/
def fnCreepUptoRow : OpenClaim := { program := "ytamnhbambklmkaa", sum := "673ca91e2a8e54d5302688a8a73897e9e56c3b74482a36c7fd9ad74d3d8e2779", func := "loop.example/g00944/laws.FnCreep", spec := "fnCreep", apart := false, narrowed := true }
def FnCreepUptoSaid : Prop := fnCreepUptoRow.holds Try.pinned (OpenSpec.upto fnCreepSpec)

/-- 'laws.FnBlocks', WHERE WHAT IT READS IS OF BULK AT MOST 1048576: true; the input reads as it did. -/
def fnBlocksUptoRow : OpenClaim := { program := "ytamnhbambklmkaa", sum := "673ca91e2a8e54d5302688a8a73897e9e56c3b74482a36c7fd9ad74d3d8e2779", func := "loop.example/g00944/laws.FnBlocks", spec := "fnBlocks", apart := false, narrowed := true }
def FnBlocksUptoSaid : Prop := fnBlocksUptoRow.holds Try.pinned (OpenSpec.upto fnBlocksSpec)

/-- 'laws.FnExactSignatureCount', WHERE WHAT IT READS IS OF BULK AT MOST 1048576: true; the input reads as it did. -/
def fnExactSignatureCountUptoRow : OpenClaim := { program := "ytamnhbambklmkaa", sum := "673ca91e2a8e54d5302688a8a73897e9e56c3b74482a36c7fd9ad74d3d8e2779", func := "loop.example/g00944/laws.FnExactSignatureCount", spec := "fnExactSignatureCount", apart := false, narrowed := true }
def FnExactSignatureCountUptoSaid : Prop := fnExactSignatureCountUptoRow.holds Try.pinned (OpenSpec.upto fnExactSignatureCountSpec)

/-- 'laws.FnExactSignatureOf', WHERE WHAT IT READS IS OF BULK AT MOST 1048576: true; the input reads as it did. -/
def fnExactSignatureOfUptoRow : OpenClaim := { program := "ytamnhbambklmkaa", sum := "673ca91e2a8e54d5302688a8a73897e9e56c3b74482a36c7fd9ad74d3d8e2779", func := "loop.example/g00944/laws.FnExactSignatureOf", spec := "fnExactSignatureOf", apart := false, narrowed := true }
def FnExactSignatureOfUptoSaid : Prop := fnExactSignatureOfUptoRow.holds Try.pinned (OpenSpec.upto fnExactSignatureOfSpec)

/-- 'laws.FnExactGatherPages', WHERE WHAT IT READS IS OF BULK AT MOST 1048576: true; the input reads as it did. -/
def fnExactGatherPagesUptoRow : OpenClaim := { program := "ytamnhbambklmkaa", sum := "673ca91e2a8e54d5302688a8a73897e9e56c3b74482a36c7fd9ad74d3d8e2779", func := "loop.example/g00944/laws.FnExactGatherPages", spec := "fnExactGatherPages", apart := false, narrowed := true }
def FnExactGatherPagesUptoSaid : Prop := fnExactGatherPagesUptoRow.holds Try.pinned (OpenSpec.upto fnExactGatherPagesSpec)

/-- 'laws.FnExactBestUnits', WHERE WHAT IT READS IS OF BULK AT MOST 1048576: true; the input reads as it did. -/
def fnExactBestUnitsUptoRow : OpenClaim := { program := "ytamnhbambklmkaa", sum := "673ca91e2a8e54d5302688a8a73897e9e56c3b74482a36c7fd9ad74d3d8e2779", func := "loop.example/g00944/laws.FnExactBestUnits", spec := "fnExactBestUnits", unfollowed := true, recurses := true, apart := false, narrowed := true }
def FnExactBestUnitsUptoSaid : Prop := fnExactBestUnitsUptoRow.holds Try.pinned (OpenSpec.upto fnExactBestUnitsSpec)

/-- 'laws.FnExactCreepOf', WHERE WHAT IT READS IS OF BULK AT MOST 1048576: true; the input reads as it did. -/
def fnExactCreepOfUptoRow : OpenClaim := { program := "ytamnhbambklmkaa", sum := "673ca91e2a8e54d5302688a8a73897e9e56c3b74482a36c7fd9ad74d3d8e2779", func := "loop.example/g00944/laws.FnExactCreepOf", spec := "fnExactCreepOf", apart := false, narrowed := true }
def FnExactCreepOfUptoSaid : Prop := fnExactCreepOfUptoRow.holds Try.pinned (OpenSpec.upto fnExactCreepOfSpec)

/-- 'laws.FnExactCreepTenths', WHERE WHAT IT READS IS OF BULK AT MOST 1048576: true; the input reads as it did. -/
def fnExactCreepTenthsUptoRow : OpenClaim := { program := "ytamnhbambklmkaa", sum := "673ca91e2a8e54d5302688a8a73897e9e56c3b74482a36c7fd9ad74d3d8e2779", func := "loop.example/g00944/laws.FnExactCreepTenths", spec := "fnExactCreepTenths", apart := false, narrowed := true }
def FnExactCreepTenthsUptoSaid : Prop := fnExactCreepTenthsUptoRow.holds Try.pinned (OpenSpec.upto fnExactCreepTenthsSpec)

/-- 'laws.FnExactTrimLoss', WHERE WHAT IT READS IS OF BULK AT MOST 1048576: true; the input reads as it did. -/
def fnExactTrimLossUptoRow : OpenClaim := { program := "ytamnhbambklmkaa", sum := "673ca91e2a8e54d5302688a8a73897e9e56c3b74482a36c7fd9ad74d3d8e2779", func := "loop.example/g00944/laws.FnExactTrimLoss", spec := "fnExactTrimLoss", apart := false, narrowed := true }
def FnExactTrimLossUptoSaid : Prop := fnExactTrimLossUptoRow.holds Try.pinned (OpenSpec.upto fnExactTrimLossSpec)

/-- 'laws.FnExactMarginsFor', WHERE WHAT IT READS IS OF BULK AT MOST 1048576: true; the input reads as it did. -/
def fnExactMarginsForUptoRow : OpenClaim := { program := "ytamnhbambklmkaa", sum := "673ca91e2a8e54d5302688a8a73897e9e56c3b74482a36c7fd9ad74d3d8e2779", func := "loop.example/g00944/laws.FnExactMarginsFor", spec := "fnExactMarginsFor", apart := false, narrowed := true }
def FnExactMarginsForUptoSaid : Prop := fnExactMarginsForUptoRow.holds Try.pinned (OpenSpec.upto fnExactMarginsForSpec)

/-- 'laws.FnExactMostNested', WHERE WHAT IT READS IS OF BULK AT MOST 1048576: true; the input reads as it did. -/
def fnExactMostNestedUptoRow : OpenClaim := { program := "ytamnhbambklmkaa", sum := "673ca91e2a8e54d5302688a8a73897e9e56c3b74482a36c7fd9ad74d3d8e2779", func := "loop.example/g00944/laws.FnExactMostNested", spec := "fnExactMostNested", apart := false, narrowed := true }
def FnExactMostNestedUptoSaid : Prop := fnExactMostNestedUptoRow.holds Try.pinned (OpenSpec.upto fnExactMostNestedSpec)

/-- 'laws.FnExactBlockThickness', WHERE WHAT IT READS IS OF BULK AT MOST 1048576: true; the input reads as it did. -/
def fnExactBlockThicknessUptoRow : OpenClaim := { program := "ytamnhbambklmkaa", sum := "673ca91e2a8e54d5302688a8a73897e9e56c3b74482a36c7fd9ad74d3d8e2779", func := "loop.example/g00944/laws.FnExactBlockThickness", spec := "fnExactBlockThickness", apart := false, narrowed := true }
def FnExactBlockThicknessUptoSaid : Prop := fnExactBlockThicknessUptoRow.holds Try.pinned (OpenSpec.upto fnExactBlockThicknessSpec)

/-- 'laws.FnExactSpineWidth', WHERE WHAT IT READS IS OF BULK AT MOST 1048576: true; the input reads as it did. -/
def fnExactSpineWidthUptoRow : OpenClaim := { program := "ytamnhbambklmkaa", sum := "673ca91e2a8e54d5302688a8a73897e9e56c3b74482a36c7fd9ad74d3d8e2779", func := "loop.example/g00944/laws.FnExactSpineWidth", spec := "fnExactSpineWidth", apart := false, narrowed := true }
def FnExactSpineWidthUptoSaid : Prop := fnExactSpineWidthUptoRow.holds Try.pinned (OpenSpec.upto fnExactSpineWidthSpec)

/-- 'laws.FnExactThicknessRange', WHERE WHAT IT READS IS OF BULK AT MOST 1048576: true; the input reads as it did. -/
def fnExactThicknessRangeUptoRow : OpenClaim := { program := "ytamnhbambklmkaa", sum := "673ca91e2a8e54d5302688a8a73897e9e56c3b74482a36c7fd9ad74d3d8e2779", func := "loop.example/g00944/laws.FnExactThicknessRange", spec := "fnExactThicknessRange", apart := false, narrowed := true }
def FnExactThicknessRangeUptoSaid : Prop := fnExactThicknessRangeUptoRow.holds Try.pinned (OpenSpec.upto fnExactThicknessRangeSpec)

end Rows
end Go.Proofs.Ytamnhbambklmkaa
