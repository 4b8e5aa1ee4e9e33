/-
  No cell of these rows narrows 'for every input' (looked for: loops, veiled, ifaces, maps, wideKeys, modest, calm, conditions, laid).
  DERIVED. THE GIVEN ROWS OF THIS SEAT. 10 by the template 'for every input the law returns true; each argument reads behind the call as it read before'; 0 by the template 'total and deterministic' (their statements: YthepfejoneeaeaaTotals.lean).
  GIVEN WITH THE SEED: the statements are not yours to turn. If you find one false, say at which input.
  Laid BY PROGRAM, IN A SANDBOX (cutbox-rows.mjs): the forced cells as the released guide's own fill.sh prints them over the translation 50420b57602bd038… (all of the seat's roots in one cut). By AI agents, Wed Nov 11 2026. No macro, syntax, notation, axiom, sorry.
-/
import Derived.Test.YthepfejoneeaeaaChecked
import GoSem.Claim
import GoSem.ClaimJoined
import GoSem.ClaimMapViews
import Derived.JoinedTies
import Derived.KernelRfl
namespace Go.Proofs.Ythepfejoneeaeaa
/- THE CELL 'sum', in the pinned program and in every row, IS THE sha256 OF THE DUMP (.gsa) THAT YthepfejoneeaeaaProg.lean LOADS. Nothing in Lean hashes anything: it is a label: what it is worth is what the hold of that sum in a sandbox is worth. -/
noncomputable def Try.pinned : Pinned := { name := "ythepfejoneeaeaa", sum := "50420b57602bd038a9e1f3356b388fe0e27a5d7adc785a4dd86efecd3985d5e7", checked := Try.checked }
namespace Rows
def none {H : Type} : Left H := { results := [], args := [] }

/-- 'laws.FnGrids': WHATEVER THE INPUT: true; the input reads as it did. -/
def fnGridsSpec : ChangeSpec := { name := "fnGrids", fn := fun _ => fun
  | [d] => { results := [.lit (.bool true)], args := [d] }
  | _ => none }
def fnGridsRow : OpenClaim := { program := "ythepfejoneeaeaa", sum := "50420b57602bd038a9e1f3356b388fe0e27a5d7adc785a4dd86efecd3985d5e7", func := "loop.example/g00944/laws.FnGrids", spec := "fnGrids", apart := false }
def FnGridsSaid : Prop := fnGridsRow.holds Try.pinned (OpenSpec.ofChange fnGridsSpec)

/-- ITS FALSE NEIGHBOUR: 'it returns false'. Refute it at one input. -/
def fnGridsWrong : ChangeSpec := { name := "fnGrids", fn := fun _ => fun
  | [d] => { results := [.lit (.bool false)], args := [d] }
  | _ => none }
def FnGridsWrongFalsely : Prop := fnGridsRow.holds Try.pinned (OpenSpec.ofChange fnGridsWrong)

/-- 'laws.FnBestGrids': WHATEVER THE INPUT: true; the input reads as it did. -/
def fnBestGridsSpec : ChangeSpec := { name := "fnBestGrids", fn := fun _ => fun
  | [d] => { results := [.lit (.bool true)], args := [d] }
  | _ => none }
def fnBestGridsRow : OpenClaim := { program := "ythepfejoneeaeaa", sum := "50420b57602bd038a9e1f3356b388fe0e27a5d7adc785a4dd86efecd3985d5e7", func := "loop.example/g00944/laws.FnBestGrids", spec := "fnBestGrids", unfollowed := true, recurses := true, apart := false }
def FnBestGridsSaid : Prop := fnBestGridsRow.holds Try.pinned (OpenSpec.ofChange fnBestGridsSpec)

/-- ITS FALSE NEIGHBOUR: 'it returns false'. Refute it at one input. -/
def fnBestGridsWrong : ChangeSpec := { name := "fnBestGrids", fn := fun _ => fun
  | [d] => { results := [.lit (.bool false)], args := [d] }
  | _ => none }
def FnBestGridsWrongFalsely : Prop := fnBestGridsRow.holds Try.pinned (OpenSpec.ofChange fnBestGridsWrong)

/-- 'laws.FnExactIsPress': WHATEVER THE INPUT: true; the input reads as it did. -/
def fnExactIsPressSpec : ChangeSpec := { name := "fnExactIsPress", fn := fun _ => fun
  | [d] => { results := [.lit (.bool true)], args := [d] }
  | _ => none }
def fnExactIsPressRow : OpenClaim := { program := "ythepfejoneeaeaa", sum := "50420b57602bd038a9e1f3356b388fe0e27a5d7adc785a4dd86efecd3985d5e7", func := "loop.example/g00944/laws.FnExactIsPress", spec := "fnExactIsPress", apart := false }
def FnExactIsPressSaid : Prop := fnExactIsPressRow.holds Try.pinned (OpenSpec.ofChange fnExactIsPressSpec)

/-- ITS FALSE NEIGHBOUR: 'it returns false'. Refute it at one input. -/
def fnExactIsPressWrong : ChangeSpec := { name := "fnExactIsPress", fn := fun _ => fun
  | [d] => { results := [.lit (.bool false)], args := [d] }
  | _ => none }
def FnExactIsPressWrongFalsely : Prop := fnExactIsPressRow.holds Try.pinned (OpenSpec.ofChange fnExactIsPressWrong)

/-- 'laws.FnExactIsTrim': WHATEVER THE INPUT: true; the input reads as it did. -/
def fnExactIsTrimSpec : ChangeSpec := { name := "fnExactIsTrim", fn := fun _ => fun
  | [d] => { results := [.lit (.bool true)], args := [d] }
  | _ => none }
def fnExactIsTrimRow : OpenClaim := { program := "ythepfejoneeaeaa", sum := "50420b57602bd038a9e1f3356b388fe0e27a5d7adc785a4dd86efecd3985d5e7", func := "loop.example/g00944/laws.FnExactIsTrim", spec := "fnExactIsTrim", apart := false }
def FnExactIsTrimSaid : Prop := fnExactIsTrimRow.holds Try.pinned (OpenSpec.ofChange fnExactIsTrimSpec)

/-- ITS FALSE NEIGHBOUR: 'it returns false'. Refute it at one input. -/
def fnExactIsTrimWrong : ChangeSpec := { name := "fnExactIsTrim", fn := fun _ => fun
  | [d] => { results := [.lit (.bool false)], args := [d] }
  | _ => none }
def FnExactIsTrimWrongFalsely : Prop := fnExactIsTrimRow.holds Try.pinned (OpenSpec.ofChange fnExactIsTrimWrong)

/-- 'laws.FnExactGridOf': WHATEVER THE INPUT: true; the input reads as it did. -/
def fnExactGridOfSpec : ChangeSpec := { name := "fnExactGridOf", fn := fun _ => fun
  | [d1, d2] => { results := [.lit (.bool true)], args := [d1, d2] }
  | _ => none }
def fnExactGridOfRow : OpenClaim := { program := "ythepfejoneeaeaa", sum := "50420b57602bd038a9e1f3356b388fe0e27a5d7adc785a4dd86efecd3985d5e7", func := "loop.example/g00944/laws.FnExactGridOf", spec := "fnExactGridOf", apart := false }
def FnExactGridOfSaid : Prop := fnExactGridOfRow.holds Try.pinned (OpenSpec.ofChange fnExactGridOfSpec)

/-- ITS FALSE NEIGHBOUR: 'it returns false'. Refute it at one input. -/
def fnExactGridOfWrong : ChangeSpec := { name := "fnExactGridOf", fn := fun _ => fun
  | [d1, d2] => { results := [.lit (.bool false)], args := [d1, d2] }
  | _ => none }
def FnExactGridOfWrongFalsely : Prop := fnExactGridOfRow.holds Try.pinned (OpenSpec.ofChange fnExactGridOfWrong)

/-- 'laws.FnExactCornerOf': WHATEVER THE INPUT: true; the input reads as it did. -/
def fnExactCornerOfSpec : ChangeSpec := { name := "fnExactCornerOf", fn := fun _ => fun
  | [d1, d2, d3, d4] => { results := [.lit (.bool true)], args := [d1, d2, d3, d4] }
  | _ => none }
def fnExactCornerOfRow : OpenClaim := { program := "ythepfejoneeaeaa", sum := "50420b57602bd038a9e1f3356b388fe0e27a5d7adc785a4dd86efecd3985d5e7", func := "loop.example/g00944/laws.FnExactCornerOf", spec := "fnExactCornerOf", apart := false }
def FnExactCornerOfSaid : Prop := fnExactCornerOfRow.holds Try.pinned (OpenSpec.ofChange fnExactCornerOfSpec)

/-- ITS FALSE NEIGHBOUR: 'it returns false'. Refute it at one input. -/
def fnExactCornerOfWrong : ChangeSpec := { name := "fnExactCornerOf", fn := fun _ => fun
  | [d1, d2, d3, d4] => { results := [.lit (.bool false)], args := [d1, d2, d3, d4] }
  | _ => none }
def FnExactCornerOfWrongFalsely : Prop := fnExactCornerOfRow.holds Try.pinned (OpenSpec.ofChange fnExactCornerOfWrong)

/-- 'laws.FnExactTurnTrim': WHATEVER THE INPUT: true; the input reads as it did. -/
def fnExactTurnTrimSpec : ChangeSpec := { name := "fnExactTurnTrim", fn := fun _ => fun
  | [d] => { results := [.lit (.bool true)], args := [d] }
  | _ => none }
def fnExactTurnTrimRow : OpenClaim := { program := "ythepfejoneeaeaa", sum := "50420b57602bd038a9e1f3356b388fe0e27a5d7adc785a4dd86efecd3985d5e7", func := "loop.example/g00944/laws.FnExactTurnTrim", spec := "fnExactTurnTrim", apart := false }
def FnExactTurnTrimSaid : Prop := fnExactTurnTrimRow.holds Try.pinned (OpenSpec.ofChange fnExactTurnTrimSpec)

/-- ITS FALSE NEIGHBOUR: 'it returns false'. Refute it at one input. -/
def fnExactTurnTrimWrong : ChangeSpec := { name := "fnExactTurnTrim", fn := fun _ => fun
  | [d] => { results := [.lit (.bool false)], args := [d] }
  | _ => none }
def FnExactTurnTrimWrongFalsely : Prop := fnExactTurnTrimRow.holds Try.pinned (OpenSpec.ofChange fnExactTurnTrimWrong)

/-- 'laws.FnExactBestGrid': WHATEVER THE INPUT: true; the input reads as it did. -/
def fnExactBestGridSpec : ChangeSpec := { name := "fnExactBestGrid", fn := fun _ => fun
  | [d1, d2, d3] => { results := [.lit (.bool true)], args := [d1, d2, d3] }
  | _ => none }
def fnExactBestGridRow : OpenClaim := { program := "ythepfejoneeaeaa", sum := "50420b57602bd038a9e1f3356b388fe0e27a5d7adc785a4dd86efecd3985d5e7", func := "loop.example/g00944/laws.FnExactBestGrid", spec := "fnExactBestGrid", unfollowed := true, recurses := true, apart := false }
def FnExactBestGridSaid : Prop := fnExactBestGridRow.holds Try.pinned (OpenSpec.ofChange fnExactBestGridSpec)

/-- ITS FALSE NEIGHBOUR: 'it returns false'. Refute it at one input. -/
def fnExactBestGridWrong : ChangeSpec := { name := "fnExactBestGrid", fn := fun _ => fun
  | [d1, d2, d3] => { results := [.lit (.bool false)], args := [d1, d2, d3] }
  | _ => none }
def FnExactBestGridWrongFalsely : Prop := fnExactBestGridRow.holds Try.pinned (OpenSpec.ofChange fnExactBestGridWrong)

/-- 'laws.FnExactWasteArea': WHATEVER THE INPUT: true; the input reads as it did. -/
def fnExactWasteAreaSpec : ChangeSpec := { name := "fnExactWasteArea", fn := fun _ => fun
  | [d1, d2] => { results := [.lit (.bool true)], args := [d1, d2] }
  | _ => none }
def fnExactWasteAreaRow : OpenClaim := { program := "ythepfejoneeaeaa", sum := "50420b57602bd038a9e1f3356b388fe0e27a5d7adc785a4dd86efecd3985d5e7", func := "loop.example/g00944/laws.FnExactWasteArea", spec := "fnExactWasteArea", apart := false }
def FnExactWasteAreaSaid : Prop := fnExactWasteAreaRow.holds Try.pinned (OpenSpec.ofChange fnExactWasteAreaSpec)

/-- ITS FALSE NEIGHBOUR: 'it returns false'. Refute it at one input. -/
def fnExactWasteAreaWrong : ChangeSpec := { name := "fnExactWasteArea", fn := fun _ => fun
  | [d1, d2] => { results := [.lit (.bool false)], args := [d1, d2] }
  | _ => none }
def FnExactWasteAreaWrongFalsely : Prop := fnExactWasteAreaRow.holds Try.pinned (OpenSpec.ofChange fnExactWasteAreaWrong)

/-- 'laws.FnExactLeastSheet': WHATEVER THE INPUT: true; the input reads as it did. -/
def fnExactLeastSheetSpec : ChangeSpec := { name := "fnExactLeastSheet", fn := fun _ => fun
  | [d1, d2, d3, d4] => { results := [.lit (.bool true)], args := [d1, d2, d3, d4] }
  | _ => none }
def fnExactLeastSheetRow : OpenClaim := { program := "ythepfejoneeaeaa", sum := "50420b57602bd038a9e1f3356b388fe0e27a5d7adc785a4dd86efecd3985d5e7", func := "loop.example/g00944/laws.FnExactLeastSheet", spec := "fnExactLeastSheet", apart := false }
def FnExactLeastSheetSaid : Prop := fnExactLeastSheetRow.holds Try.pinned (OpenSpec.ofChange fnExactLeastSheetSpec)

/-- ITS FALSE NEIGHBOUR: 'it returns false'. Refute it at one input. -/
def fnExactLeastSheetWrong : ChangeSpec := { name := "fnExactLeastSheet", fn := fun _ => fun
  | [d1, d2, d3, d4] => { results := [.lit (.bool false)], args := [d1, d2, d3, d4] }
  | _ => none }
def FnExactLeastSheetWrongFalsely : Prop := fnExactLeastSheetRow.holds Try.pinned (OpenSpec.ofChange fnExactLeastSheetWrong)

/- THE SECOND FORM. 'bulk': how many values and letters a reading holds, each counted each time it is reached (what is shared counts as often as it is met; a slice's spare places count too). A statement '..UptoSaid' is the law's where the arguments, and the package variables that the reading takes, are together of bulk at most 1048576: NARROWER than '..Said'. Prove '..Said' where nothing that the law and all that it calls make is longer than what came in: it says more and counts as full. Else prove '..UptoSaid'. A law counts once. -/
mutual
def uptoBulk {H : Type} : DataW H → Nat
  | .lit (.string bytes) => bytes.length + 1
  | .lit _ => 1
  | .nil => 1
  | .ptr d => uptoBulk d + 1
  | .slice elems spare => uptoBulkAll elems + uptoBulkAll spare + 1
  | .agg parts => uptoBulkAll parts + 1
  | .iface _ d => uptoBulk d + 1
  | .map entries => uptoBulkEntries entries + 1
  | .held _ => 1
def uptoBulkAll {H : Type} : List (DataW H) → Nat
  | [] => 0
  | d :: r => uptoBulk d + uptoBulkAll r
def uptoBulkEntries {H : Type} : List (Lit × DataW H) → Nat
  | [] => 0
  | x :: r => uptoBulkEntry x + uptoBulkEntries r
def uptoBulkEntry {H : Type} : Lit × DataW H → Nat
  | (.string bytes, d) => bytes.length + uptoBulk d + 1
  | (_, d) => uptoBulk d + 1
 end
def uptoSmall : (H : Type) → List (DataW H) → Bool := fun _ ds => decide (uptoBulkAll ds ≤ 1048576)
def OpenSpec.upto (s : _root_.Go.ChangeSpec) : _root_.Go.OpenSpec := { _root_.Go.OpenSpec.ofChange s with cond := some uptoSmall }

/-- 'laws.FnGrids', WHERE WHAT IT READS IS OF BULK AT MOST 1048576: true; the input reads as it did. -/
def fnGridsUptoRow : OpenClaim := { program := "ythepfejoneeaeaa", sum := "50420b57602bd038a9e1f3356b388fe0e27a5d7adc785a4dd86efecd3985d5e7", func := "loop.example/g00944/laws.FnGrids", spec := "fnGrids", apart := false, narrowed := true }
def FnGridsUptoSaid : Prop := fnGridsUptoRow.holds Try.pinned (OpenSpec.upto fnGridsSpec)

/-- 'laws.FnBestGrids', WHERE WHAT IT READS IS OF BULK AT MOST 1048576: true; the input reads as it did. -/
def fnBestGridsUptoRow : OpenClaim := { program := "ythepfejoneeaeaa", sum := "50420b57602bd038a9e1f3356b388fe0e27a5d7adc785a4dd86efecd3985d5e7", func := "loop.example/g00944/laws.FnBestGrids", spec := "fnBestGrids", unfollowed := true, recurses := true, apart := false, narrowed := true }
def FnBestGridsUptoSaid : Prop := fnBestGridsUptoRow.holds Try.pinned (OpenSpec.upto fnBestGridsSpec)

/-- 'laws.FnExactIsPress', WHERE WHAT IT READS IS OF BULK AT MOST 1048576: true; the input reads as it did. -/
def fnExactIsPressUptoRow : OpenClaim := { program := "ythepfejoneeaeaa", sum := "50420b57602bd038a9e1f3356b388fe0e27a5d7adc785a4dd86efecd3985d5e7", func := "loop.example/g00944/laws.FnExactIsPress", spec := "fnExactIsPress", apart := false, narrowed := true }
def FnExactIsPressUptoSaid : Prop := fnExactIsPressUptoRow.holds Try.pinned (OpenSpec.upto fnExactIsPressSpec)

/-- 'laws.FnExactIsTrim', WHERE WHAT IT READS IS OF BULK AT MOST 1048576: true; the input reads as it did. -/
def fnExactIsTrimUptoRow : OpenClaim := { program := "ythepfejoneeaeaa", sum := "50420b57602bd038a9e1f3356b388fe0e27a5d7adc785a4dd86efecd3985d5e7", func := "loop.example/g00944/laws.FnExactIsTrim", spec := "fnExactIsTrim", apart := false, narrowed := true }
def FnExactIsTrimUptoSaid : Prop := fnExactIsTrimUptoRow.holds Try.pinned (OpenSpec.upto fnExactIsTrimSpec)

/-- 'laws.FnExactGridOf', WHERE WHAT IT READS IS OF BULK AT MOST 1048576: true; the input reads as it did. -/
def fnExactGridOfUptoRow : OpenClaim := { program := "ythepfejoneeaeaa", sum := "50420b57602bd038a9e1f3356b388fe0e27a5d7adc785a4dd86efecd3985d5e7", func := "loop.example/g00944/laws.FnExactGridOf", spec := "fnExactGridOf", apart := false, narrowed := true }
def FnExactGridOfUptoSaid : Prop := fnExactGridOfUptoRow.holds Try.pinned (OpenSpec.upto fnExactGridOfSpec)

/-- 'laws.FnExactCornerOf', WHERE WHAT IT READS IS OF BULK AT MOST 1048576: true; the input reads as it did. -/
def fnExactCornerOfUptoRow : OpenClaim := { program := "ythepfejoneeaeaa", sum := "50420b57602bd038a9e1f3356b388fe0e27a5d7adc785a4dd86efecd3985d5e7", func := "loop.example/g00944/laws.FnExactCornerOf", spec := "fnExactCornerOf", apart := false, narrowed := true }
def FnExactCornerOfUptoSaid : Prop := fnExactCornerOfUptoRow.holds Try.pinned (OpenSpec.upto fnExactCornerOfSpec)

/-- 'laws.FnExactTurnTrim', WHERE WHAT IT READS IS OF BULK AT MOST 1048576: true; the input reads as it did. -/
def fnExactTurnTrimUptoRow : OpenClaim := { program := "ythepfejoneeaeaa", sum := "50420b57602bd038a9e1f3356b388fe0e27a5d7adc785a4dd86efecd3985d5e7", func := "loop.example/g00944/laws.FnExactTurnTrim", spec := "fnExactTurnTrim", apart := false, narrowed := true }
def FnExactTurnTrimUptoSaid : Prop := fnExactTurnTrimUptoRow.holds Try.pinned (OpenSpec.upto fnExactTurnTrimSpec)

/-- 'laws.FnExactBestGrid', WHERE WHAT IT READS IS OF BULK AT MOST 1048576: true; the input reads as it did. -/
def fnExactBestGridUptoRow : OpenClaim := { program := "ythepfejoneeaeaa", sum := "50420b57602bd038a9e1f3356b388fe0e27a5d7adc785a4dd86efecd3985d5e7", func := "loop.example/g00944/laws.FnExactBestGrid", spec := "fnExactBestGrid", unfollowed := true, recurses := true, apart := false, narrowed := true }
def FnExactBestGridUptoSaid : Prop := fnExactBestGridUptoRow.holds Try.pinned (OpenSpec.upto fnExactBestGridSpec)

/-- 'laws.FnExactWasteArea', WHERE WHAT IT READS IS OF BULK AT MOST 1048576: true; the input reads as it did. -/
def fnExactWasteAreaUptoRow : OpenClaim := { program := "ythepfejoneeaeaa", sum := "50420b57602bd038a9e1f3356b388fe0e27a5d7adc785a4dd86efecd3985d5e7", func := "loop.example/g00944/laws.FnExactWasteArea", spec := "fnExactWasteArea", apart := false, narrowed := true }
def FnExactWasteAreaUptoSaid : Prop := fnExactWasteAreaUptoRow.holds Try.pinned (OpenSpec.upto fnExactWasteAreaSpec)

/-- 'laws.FnExactLeastSheet', WHERE WHAT IT READS IS OF BULK AT MOST 1048576: true; the input reads as it did. -/
def fnExactLeastSheetUptoRow : OpenClaim := { program := "ythepfejoneeaeaa", sum := "50420b57602bd038a9e1f3356b388fe0e27a5d7adc785a4dd86efecd3985d5e7", func := "loop.example/g00944/laws.FnExactLeastSheet", spec := "fnExactLeastSheet", apart := false, narrowed := true }
def FnExactLeastSheetUptoSaid : Prop := fnExactLeastSheetUptoRow.holds Try.pinned (OpenSpec.upto fnExactLeastSheetSpec)

end Rows
end Go.Proofs.Ythepfejoneeaeaa
