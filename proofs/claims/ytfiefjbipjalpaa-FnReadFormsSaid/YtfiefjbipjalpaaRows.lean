/-
  No cell of these rows narrows 'for every input' (looked for: loops, veiled, ifaces, maps, wideKeys, modest, calm, conditions, laid).
  DERIVED. THE GIVEN ROWS OF THIS SEAT. 12 by the template 'for every input the law returns true; each argument reads behind the call as it read before'; 0 by the template 'total and deterministic' (their statements: YtfiefjbipjalpaaTotals.lean).
  GIVEN WITH THE SEED: the statements are not yours to turn. If you find one false, say at which input.
  Laid BY PROGRAM, IN A SANDBOX (cutbox-rows.mjs): the forced cells as the released guide's own fill.sh prints them over the translation 747021af1ccd8ae9… (all of the seat's roots in one cut). By AI agents, Wed Nov 11 2026. No macro, syntax, notation, axiom, sorry.
-/
import Derived.Test.YtfiefjbipjalpaaChecked
import GoSem.Claim
import GoSem.ClaimJoined
import GoSem.ClaimMapViews
import Derived.JoinedTies
import Derived.KernelRfl
namespace Go.Proofs.Ytfiefjbipjalpaa
/- THE CELL 'sum', in the pinned program and in every row, IS THE sha256 OF THE DUMP (.gsa) THAT YtfiefjbipjalpaaProg.lean LOADS. Nothing in Lean hashes anything: it is a label: what it is worth is what the hold of that sum in a sandbox is worth. -/
noncomputable def Try.pinned : Pinned := { name := "ytfiefjbipjalpaa", sum := "747021af1ccd8ae91d7e8c57c17b034cb169d710722932f486a6b85d60e65076", checked := Try.checked }
namespace Rows
def none {H : Type} : Left H := { results := [], args := [] }

/-- 'laws.FnReadForms': WHATEVER THE INPUT: true; the input reads as it did. -/
def fnReadFormsSpec : ChangeSpec := { name := "fnReadForms", fn := fun _ => fun
  | [d] => { results := [.lit (.bool true)], args := [d] }
  | _ => none }
def fnReadFormsRow : OpenClaim := { program := "ytfiefjbipjalpaa", sum := "747021af1ccd8ae91d7e8c57c17b034cb169d710722932f486a6b85d60e65076", func := "loop.example/g00944/laws.FnReadForms", spec := "fnReadForms", inPlace := ["internal/bytealg.CountString", "internal/bytealg.IndexByteString", "internal/bytealg.IndexString"], unfollowed := true, recurses := true, named := ["internal/bytealg.MaxLen"], apart := false }
def FnReadFormsSaid : Prop := fnReadFormsRow.holds Try.pinned (OpenSpec.ofChange fnReadFormsSpec)

/-- ITS FALSE NEIGHBOUR: 'it returns false'. Refute it at one input. -/
def fnReadFormsWrong : ChangeSpec := { name := "fnReadForms", fn := fun _ => fun
  | [d] => { results := [.lit (.bool false)], args := [d] }
  | _ => none }
def FnReadFormsWrongFalsely : Prop := fnReadFormsRow.holds Try.pinned (OpenSpec.ofChange fnReadFormsWrong)

/-- 'laws.FnSignatures': WHATEVER THE INPUT: true; the input reads as it did. -/
def fnSignaturesSpec : ChangeSpec := { name := "fnSignatures", fn := fun _ => fun
  | [d] => { results := [.lit (.bool true)], args := [d] }
  | _ => none }
def fnSignaturesRow : OpenClaim := { program := "ytfiefjbipjalpaa", sum := "747021af1ccd8ae91d7e8c57c17b034cb169d710722932f486a6b85d60e65076", func := "loop.example/g00944/laws.FnSignatures", spec := "fnSignatures", apart := false }
def FnSignaturesSaid : Prop := fnSignaturesRow.holds Try.pinned (OpenSpec.ofChange fnSignaturesSpec)

/-- ITS FALSE NEIGHBOUR: 'it returns false'. Refute it at one input. -/
def fnSignaturesWrong : ChangeSpec := { name := "fnSignatures", fn := fun _ => fun
  | [d] => { results := [.lit (.bool false)], args := [d] }
  | _ => none }
def FnSignaturesWrongFalsely : Prop := fnSignaturesRow.holds Try.pinned (OpenSpec.ofChange fnSignaturesWrong)

/-- 'laws.FnUnits': WHATEVER THE INPUT: true; the input reads as it did. -/
def fnUnitsSpec : ChangeSpec := { name := "fnUnits", fn := fun _ => fun
  | [d] => { results := [.lit (.bool true)], args := [d] }
  | _ => none }
def fnUnitsRow : OpenClaim := { program := "ytfiefjbipjalpaa", sum := "747021af1ccd8ae91d7e8c57c17b034cb169d710722932f486a6b85d60e65076", func := "loop.example/g00944/laws.FnUnits", spec := "fnUnits", unfollowed := true, recurses := true, apart := false }
def FnUnitsSaid : Prop := fnUnitsRow.holds Try.pinned (OpenSpec.ofChange fnUnitsSpec)

/-- ITS FALSE NEIGHBOUR: 'it returns false'. Refute it at one input. -/
def fnUnitsWrong : ChangeSpec := { name := "fnUnits", fn := fun _ => fun
  | [d] => { results := [.lit (.bool false)], args := [d] }
  | _ => none }
def FnUnitsWrongFalsely : Prop := fnUnitsRow.holds Try.pinned (OpenSpec.ofChange fnUnitsWrong)

/-- 'laws.FnNested': WHATEVER THE INPUT: true; the input reads as it did. -/
def fnNestedSpec : ChangeSpec := { name := "fnNested", fn := fun _ => fun
  | [d] => { results := [.lit (.bool true)], args := [d] }
  | _ => none }
def fnNestedRow : OpenClaim := { program := "ytfiefjbipjalpaa", sum := "747021af1ccd8ae91d7e8c57c17b034cb169d710722932f486a6b85d60e65076", func := "loop.example/g00944/laws.FnNested", spec := "fnNested", apart := false }
def FnNestedSaid : Prop := fnNestedRow.holds Try.pinned (OpenSpec.ofChange fnNestedSpec)

/-- ITS FALSE NEIGHBOUR: 'it returns false'. Refute it at one input. -/
def fnNestedWrong : ChangeSpec := { name := "fnNested", fn := fun _ => fun
  | [d] => { results := [.lit (.bool false)], args := [d] }
  | _ => none }
def FnNestedWrongFalsely : Prop := fnNestedRow.holds Try.pinned (OpenSpec.ofChange fnNestedWrong)

/-- 'laws.FnExactIsUnit': WHATEVER THE INPUT: true; the input reads as it did. -/
def fnExactIsUnitSpec : ChangeSpec := { name := "fnExactIsUnit", fn := fun _ => fun
  | [d] => { results := [.lit (.bool true)], args := [d] }
  | _ => none }
def fnExactIsUnitRow : OpenClaim := { program := "ytfiefjbipjalpaa", sum := "747021af1ccd8ae91d7e8c57c17b034cb169d710722932f486a6b85d60e65076", func := "loop.example/g00944/laws.FnExactIsUnit", spec := "fnExactIsUnit", apart := false }
def FnExactIsUnitSaid : Prop := fnExactIsUnitRow.holds Try.pinned (OpenSpec.ofChange fnExactIsUnitSpec)

/-- ITS FALSE NEIGHBOUR: 'it returns false'. Refute it at one input. -/
def fnExactIsUnitWrong : ChangeSpec := { name := "fnExactIsUnit", fn := fun _ => fun
  | [d] => { results := [.lit (.bool false)], args := [d] }
  | _ => none }
def FnExactIsUnitWrongFalsely : Prop := fnExactIsUnitRow.holds Try.pinned (OpenSpec.ofChange fnExactIsUnitWrong)

/-- 'laws.FnExactSignatureCount': WHATEVER THE INPUT: true; the input reads as it did. -/
def fnExactSignatureCountSpec : ChangeSpec := { name := "fnExactSignatureCount", fn := fun _ => fun
  | [d1, d2] => { results := [.lit (.bool true)], args := [d1, d2] }
  | _ => none }
def fnExactSignatureCountRow : OpenClaim := { program := "ytfiefjbipjalpaa", sum := "747021af1ccd8ae91d7e8c57c17b034cb169d710722932f486a6b85d60e65076", func := "loop.example/g00944/laws.FnExactSignatureCount", spec := "fnExactSignatureCount", apart := false }
def FnExactSignatureCountSaid : Prop := fnExactSignatureCountRow.holds Try.pinned (OpenSpec.ofChange fnExactSignatureCountSpec)

/-- ITS FALSE NEIGHBOUR: 'it returns false'. Refute it at one input. -/
def fnExactSignatureCountWrong : ChangeSpec := { name := "fnExactSignatureCount", fn := fun _ => fun
  | [d1, d2] => { results := [.lit (.bool false)], args := [d1, d2] }
  | _ => none }
def FnExactSignatureCountWrongFalsely : Prop := fnExactSignatureCountRow.holds Try.pinned (OpenSpec.ofChange fnExactSignatureCountWrong)

/-- 'laws.FnExactSignatureOf': WHATEVER THE INPUT: true; the input reads as it did. -/
def fnExactSignatureOfSpec : ChangeSpec := { name := "fnExactSignatureOf", fn := fun _ => fun
  | [d1, d2, d3] => { results := [.lit (.bool true)], args := [d1, d2, d3] }
  | _ => none }
def fnExactSignatureOfRow : OpenClaim := { program := "ytfiefjbipjalpaa", sum := "747021af1ccd8ae91d7e8c57c17b034cb169d710722932f486a6b85d60e65076", func := "loop.example/g00944/laws.FnExactSignatureOf", spec := "fnExactSignatureOf", apart := false }
def FnExactSignatureOfSaid : Prop := fnExactSignatureOfRow.holds Try.pinned (OpenSpec.ofChange fnExactSignatureOfSpec)

/-- ITS FALSE NEIGHBOUR: 'it returns false'. Refute it at one input. -/
def fnExactSignatureOfWrong : ChangeSpec := { name := "fnExactSignatureOf", fn := fun _ => fun
  | [d1, d2, d3] => { results := [.lit (.bool false)], args := [d1, d2, d3] }
  | _ => none }
def FnExactSignatureOfWrongFalsely : Prop := fnExactSignatureOfRow.holds Try.pinned (OpenSpec.ofChange fnExactSignatureOfWrong)

/-- 'laws.FnExactGatherPages': WHATEVER THE INPUT: true; the input reads as it did. -/
def fnExactGatherPagesSpec : ChangeSpec := { name := "fnExactGatherPages", fn := fun _ => fun
  | [d1, d2, d3] => { results := [.lit (.bool true)], args := [d1, d2, d3] }
  | _ => none }
def fnExactGatherPagesRow : OpenClaim := { program := "ytfiefjbipjalpaa", sum := "747021af1ccd8ae91d7e8c57c17b034cb169d710722932f486a6b85d60e65076", func := "loop.example/g00944/laws.FnExactGatherPages", spec := "fnExactGatherPages", apart := false }
def FnExactGatherPagesSaid : Prop := fnExactGatherPagesRow.holds Try.pinned (OpenSpec.ofChange fnExactGatherPagesSpec)

/-- ITS FALSE NEIGHBOUR: 'it returns false'. Refute it at one input. -/
def fnExactGatherPagesWrong : ChangeSpec := { name := "fnExactGatherPages", fn := fun _ => fun
  | [d1, d2, d3] => { results := [.lit (.bool false)], args := [d1, d2, d3] }
  | _ => none }
def FnExactGatherPagesWrongFalsely : Prop := fnExactGatherPagesRow.holds Try.pinned (OpenSpec.ofChange fnExactGatherPagesWrong)

/-- 'laws.FnExactBestUnits': WHATEVER THE INPUT: true; the input reads as it did. -/
def fnExactBestUnitsSpec : ChangeSpec := { name := "fnExactBestUnits", fn := fun _ => fun
  | [d1, d2] => { results := [.lit (.bool true)], args := [d1, d2] }
  | _ => none }
def fnExactBestUnitsRow : OpenClaim := { program := "ytfiefjbipjalpaa", sum := "747021af1ccd8ae91d7e8c57c17b034cb169d710722932f486a6b85d60e65076", func := "loop.example/g00944/laws.FnExactBestUnits", spec := "fnExactBestUnits", unfollowed := true, recurses := true, apart := false }
def FnExactBestUnitsSaid : Prop := fnExactBestUnitsRow.holds Try.pinned (OpenSpec.ofChange fnExactBestUnitsSpec)

/-- ITS FALSE NEIGHBOUR: 'it returns false'. Refute it at one input. -/
def fnExactBestUnitsWrong : ChangeSpec := { name := "fnExactBestUnits", fn := fun _ => fun
  | [d1, d2] => { results := [.lit (.bool false)], args := [d1, d2] }
  | _ => none }
def FnExactBestUnitsWrongFalsely : Prop := fnExactBestUnitsRow.holds Try.pinned (OpenSpec.ofChange fnExactBestUnitsWrong)

/-- 'laws.FnExactNestedPages': WHATEVER THE INPUT: true; the input reads as it did. -/
def fnExactNestedPagesSpec : ChangeSpec := { name := "fnExactNestedPages", fn := fun _ => fun
  | [d1, d2] => { results := [.lit (.bool true)], args := [d1, d2] }
  | _ => none }
def fnExactNestedPagesRow : OpenClaim := { program := "ytfiefjbipjalpaa", sum := "747021af1ccd8ae91d7e8c57c17b034cb169d710722932f486a6b85d60e65076", func := "loop.example/g00944/laws.FnExactNestedPages", spec := "fnExactNestedPages", apart := false }
def FnExactNestedPagesSaid : Prop := fnExactNestedPagesRow.holds Try.pinned (OpenSpec.ofChange fnExactNestedPagesSpec)

/-- ITS FALSE NEIGHBOUR: 'it returns false'. Refute it at one input. -/
def fnExactNestedPagesWrong : ChangeSpec := { name := "fnExactNestedPages", fn := fun _ => fun
  | [d1, d2] => { results := [.lit (.bool false)], args := [d1, d2] }
  | _ => none }
def FnExactNestedPagesWrongFalsely : Prop := fnExactNestedPagesRow.holds Try.pinned (OpenSpec.ofChange fnExactNestedPagesWrong)

/-- 'laws.FnExactNestedPlace': WHATEVER THE INPUT: true; the input reads as it did. -/
def fnExactNestedPlaceSpec : ChangeSpec := { name := "fnExactNestedPlace", fn := fun _ => fun
  | [d1, d2] => { results := [.lit (.bool true)], args := [d1, d2] }
  | _ => none }
def fnExactNestedPlaceRow : OpenClaim := { program := "ytfiefjbipjalpaa", sum := "747021af1ccd8ae91d7e8c57c17b034cb169d710722932f486a6b85d60e65076", func := "loop.example/g00944/laws.FnExactNestedPlace", spec := "fnExactNestedPlace", apart := false }
def FnExactNestedPlaceSaid : Prop := fnExactNestedPlaceRow.holds Try.pinned (OpenSpec.ofChange fnExactNestedPlaceSpec)

/-- ITS FALSE NEIGHBOUR: 'it returns false'. Refute it at one input. -/
def fnExactNestedPlaceWrong : ChangeSpec := { name := "fnExactNestedPlace", fn := fun _ => fun
  | [d1, d2] => { results := [.lit (.bool false)], args := [d1, d2] }
  | _ => none }
def FnExactNestedPlaceWrongFalsely : Prop := fnExactNestedPlaceRow.holds Try.pinned (OpenSpec.ofChange fnExactNestedPlaceWrong)

/-- 'laws.FnExactPartnerOf': WHATEVER THE INPUT: true; the input reads as it did. -/
def fnExactPartnerOfSpec : ChangeSpec := { name := "fnExactPartnerOf", fn := fun _ => fun
  | [d1, d2] => { results := [.lit (.bool true)], args := [d1, d2] }
  | _ => none }
def fnExactPartnerOfRow : OpenClaim := { program := "ytfiefjbipjalpaa", sum := "747021af1ccd8ae91d7e8c57c17b034cb169d710722932f486a6b85d60e65076", func := "loop.example/g00944/laws.FnExactPartnerOf", spec := "fnExactPartnerOf", apart := false }
def FnExactPartnerOfSaid : Prop := fnExactPartnerOfRow.holds Try.pinned (OpenSpec.ofChange fnExactPartnerOfSpec)

/-- ITS FALSE NEIGHBOUR: 'it returns false'. Refute it at one input. -/
def fnExactPartnerOfWrong : ChangeSpec := { name := "fnExactPartnerOf", fn := fun _ => fun
  | [d1, d2] => { results := [.lit (.bool false)], args := [d1, d2] }
  | _ => none }
def FnExactPartnerOfWrongFalsely : Prop := fnExactPartnerOfRow.holds Try.pinned (OpenSpec.ofChange fnExactPartnerOfWrong)

/- THE SECOND FORM. 'bulk': how many values and letters a reading holds, each counted each time it is reached (what is shared counts as often as it is met; a slice's spare places count too). A statement '..UptoSaid' is the law's where the arguments, and the package variables that the reading takes, are together of bulk at most 1048576: NARROWER than '..Said'. Prove '..Said' where nothing that the law and all that it calls make is longer than what came in: it says more and counts as full. Else prove '..UptoSaid'. A law counts once. -/
mutual
def uptoBulk {H : Type} : DataW H → Nat
  | .lit (.string bytes) => bytes.length + 1
  | .lit _ => 1
  | .nil => 1
  | .ptr d => uptoBulk d + 1
  | .slice elems spare => uptoBulkAll elems + uptoBulkAll spare + 1
  | .agg parts => uptoBulkAll parts + 1
  | .iface _ d => uptoBulk d + 1
  | .map entries => uptoBulkEntries entries + 1
  | .held _ => 1
def uptoBulkAll {H : Type} : List (DataW H) → Nat
  | [] => 0
  | d :: r => uptoBulk d + uptoBulkAll r
def uptoBulkEntries {H : Type} : List (Lit × DataW H) → Nat
  | [] => 0
  | x :: r => uptoBulkEntry x + uptoBulkEntries r
def uptoBulkEntry {H : Type} : Lit × DataW H → Nat
  | (.string bytes, d) => bytes.length + uptoBulk d + 1
  | (_, d) => uptoBulk d + 1
 end
def uptoSmall : (H : Type) → List (DataW H) → Bool := fun _ ds => decide (uptoBulkAll ds ≤ 1048576)
def OpenSpec.upto (s : _root_.Go.ChangeSpec) : _root_.Go.OpenSpec := { _root_.Go.OpenSpec.ofChange s with cond := some uptoSmall }

/-- 'laws.FnReadForms', WHERE WHAT IT READS IS OF BULK AT MOST 1048576: true; the input reads as it did. -/
def fnReadFormsUptoRow : OpenClaim := { program := "ytfiefjbipjalpaa", sum := "747021af1ccd8ae91d7e8c57c17b034cb169d710722932f486a6b85d60e65076", func := "loop.example/g00944/laws.FnReadForms", spec := "fnReadForms", inPlace := ["internal/bytealg.CountString", "internal/bytealg.IndexByteString", "internal/bytealg.IndexString"], unfollowed := true, recurses := true, named := ["internal/bytealg.MaxLen"], apart := false, narrowed := true }
def FnReadFormsUptoSaid : Prop := fnReadFormsUptoRow.holds Try.pinned (OpenSpec.upto fnReadFormsSpec)

/-- 'laws.FnSignatures', WHERE WHAT IT READS IS OF BULK AT MOST 1048576: true; the input reads as it did. -/
def fnSignaturesUptoRow : OpenClaim := { program := "ytfiefjbipjalpaa", sum := "747021af1ccd8ae91d7e8c57c17b034cb169d710722932f486a6b85d60e65076", func := "loop.example/g00944/laws.FnSignatures", spec := "fnSignatures", apart := false, narrowed := true }
def FnSignaturesUptoSaid : Prop := fnSignaturesUptoRow.holds Try.pinned (OpenSpec.upto fnSignaturesSpec)

/-- 'laws.FnUnits', WHERE WHAT IT READS IS OF BULK AT MOST 1048576: true; the input reads as it did. -/
def fnUnitsUptoRow : OpenClaim := { program := "ytfiefjbipjalpaa", sum := "747021af1ccd8ae91d7e8c57c17b034cb169d710722932f486a6b85d60e65076", func := "loop.example/g00944/laws.FnUnits", spec := "fnUnits", unfollowed := true, recurses := true, apart := false, narrowed := true }
def FnUnitsUptoSaid : Prop := fnUnitsUptoRow.holds Try.pinned (OpenSpec.upto fnUnitsSpec)

/-- 'laws.FnNested', WHERE WHAT IT READS IS OF BULK AT MOST 1048576: true; the input reads as it did. -/
def fnNestedUptoRow : OpenClaim := { program := "ytfiefjbipjalpaa", sum := "747021af1ccd8ae91d7e8c57c17b034cb169d710722932f486a6b85d60e65076", func := "loop.example/g00944/laws.FnNested", spec := "fnNested", apart := false, narrowed := true }
def FnNestedUptoSaid : Prop := fnNestedUptoRow.holds Try.pinned (OpenSpec.upto fnNestedSpec)

/-- 'laws.FnExactIsUnit', WHERE WHAT IT READS IS OF BULK AT MOST 1048576: true; the input reads as it did. -/
def fnExactIsUnitUptoRow : OpenClaim := { program := "ytfiefjbipjalpaa", sum := "747021af1ccd8ae91d7e8c57c17b034cb169d710722932f486a6b85d60e65076", func := "loop.example/g00944/laws.FnExactIsUnit", spec := "fnExactIsUnit", apart := false, narrowed := true }
def FnExactIsUnitUptoSaid : Prop := fnExactIsUnitUptoRow.holds Try.pinned (OpenSpec.upto fnExactIsUnitSpec)

/-- 'laws.FnExactSignatureCount', WHERE WHAT IT READS IS OF BULK AT MOST 1048576: true; the input reads as it did. -/
def fnExactSignatureCountUptoRow : OpenClaim := { program := "ytfiefjbipjalpaa", sum := "747021af1ccd8ae91d7e8c57c17b034cb169d710722932f486a6b85d60e65076", func := "loop.example/g00944/laws.FnExactSignatureCount", spec := "fnExactSignatureCount", apart := false, narrowed := true }
def FnExactSignatureCountUptoSaid : Prop := fnExactSignatureCountUptoRow.holds Try.pinned (OpenSpec.upto fnExactSignatureCountSpec)

/-- 'laws.FnExactSignatureOf', WHERE WHAT IT READS IS OF BULK AT MOST 1048576: true; the input reads as it did. -/
def fnExactSignatureOfUptoRow : OpenClaim := { program := "ytfiefjbipjalpaa", sum := "747021af1ccd8ae91d7e8c57c17b034cb169d710722932f486a6b85d60e65076", func := "loop.example/g00944/laws.FnExactSignatureOf", spec := "fnExactSignatureOf", apart := false, narrowed := true }
def FnExactSignatureOfUptoSaid : Prop := fnExactSignatureOfUptoRow.holds Try.pinned (OpenSpec.upto fnExactSignatureOfSpec)

/-- 'laws.FnExactGatherPages', WHERE WHAT IT READS IS OF BULK AT MOST 1048576: true; the input reads as it did. -/
def fnExactGatherPagesUptoRow : OpenClaim := { program := "ytfiefjbipjalpaa", sum := "747021af1ccd8ae91d7e8c57c17b034cb169d710722932f486a6b85d60e65076", func := "loop.example/g00944/laws.FnExactGatherPages", spec := "fnExactGatherPages", apart := false, narrowed := true }
def FnExactGatherPagesUptoSaid : Prop := fnExactGatherPagesUptoRow.holds Try.pinned (OpenSpec.upto fnExactGatherPagesSpec)

/-- 'laws.FnExactBestUnits', WHERE WHAT IT READS IS OF BULK AT MOST 1048576: true; the input reads as it did. -/
def fnExactBestUnitsUptoRow : OpenClaim := { program := "ytfiefjbipjalpaa", sum := "747021af1ccd8ae91d7e8c57c17b034cb169d710722932f486a6b85d60e65076", func := "loop.example/g00944/laws.FnExactBestUnits", spec := "fnExactBestUnits", unfollowed := true, recurses := true, apart := false, narrowed := true }
def FnExactBestUnitsUptoSaid : Prop := fnExactBestUnitsUptoRow.holds Try.pinned (OpenSpec.upto fnExactBestUnitsSpec)

/-- 'laws.FnExactNestedPages', WHERE WHAT IT READS IS OF BULK AT MOST 1048576: true; the input reads as it did. -/
def fnExactNestedPagesUptoRow : OpenClaim := { program := "ytfiefjbipjalpaa", sum := "747021af1ccd8ae91d7e8c57c17b034cb169d710722932f486a6b85d60e65076", func := "loop.example/g00944/laws.FnExactNestedPages", spec := "fnExactNestedPages", apart := false, narrowed := true }
def FnExactNestedPagesUptoSaid : Prop := fnExactNestedPagesUptoRow.holds Try.pinned (OpenSpec.upto fnExactNestedPagesSpec)

/-- 'laws.FnExactNestedPlace', WHERE WHAT IT READS IS OF BULK AT MOST 1048576: true; the input reads as it did. -/
def fnExactNestedPlaceUptoRow : OpenClaim := { program := "ytfiefjbipjalpaa", sum := "747021af1ccd8ae91d7e8c57c17b034cb169d710722932f486a6b85d60e65076", func := "loop.example/g00944/laws.FnExactNestedPlace", spec := "fnExactNestedPlace", apart := false, narrowed := true }
def FnExactNestedPlaceUptoSaid : Prop := fnExactNestedPlaceUptoRow.holds Try.pinned (OpenSpec.upto fnExactNestedPlaceSpec)

/-- 'laws.FnExactPartnerOf', WHERE WHAT IT READS IS OF BULK AT MOST 1048576: true; the input reads as it did. -/
def fnExactPartnerOfUptoRow : OpenClaim := { program := "ytfiefjbipjalpaa", sum := "747021af1ccd8ae91d7e8c57c17b034cb169d710722932f486a6b85d60e65076", func := "loop.example/g00944/laws.FnExactPartnerOf", spec := "fnExactPartnerOf", apart := false, narrowed := true }
def FnExactPartnerOfUptoSaid : Prop := fnExactPartnerOfUptoRow.holds Try.pinned (OpenSpec.upto fnExactPartnerOfSpec)

end Rows
end Go.Proofs.Ytfiefjbipjalpaa
