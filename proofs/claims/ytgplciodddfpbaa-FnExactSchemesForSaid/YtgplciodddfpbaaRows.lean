/-
  No cell of these rows narrows 'for every input' (looked for: loops, veiled, ifaces, maps, wideKeys, modest, calm, conditions, laid).
  DERIVED. THE GIVEN ROWS OF THIS SEAT. 6 by the template 'for every input the law returns true; each argument reads behind the call as it read before'; 0 by the template 'total and deterministic' (their statements: YtgplciodddfpbaaTotals.lean).
  GIVEN WITH THE SEED: the statements are not yours to turn. If you find one false, say at which input.
  Laid BY PROGRAM, IN A SANDBOX (cutbox-rows.mjs): the forced cells as the released guide's own fill.sh prints them over the translation 6c225f03a0d01685… (all of the seat's roots in one cut). By AI agents, Wed Nov 11 2026. No macro, syntax, notation, axiom, sorry.
-/
import Derived.Test.YtgplciodddfpbaaChecked
import GoSem.Claim
import GoSem.ClaimJoined
import GoSem.ClaimMapViews
import Derived.JoinedTies
import Derived.KernelRfl
namespace Go.Proofs.Ytgplciodddfpbaa
/- THE CELL 'sum', in the pinned program and in every row, IS THE sha256 OF THE DUMP (.gsa) THAT YtgplciodddfpbaaProg.lean LOADS. Nothing in Lean hashes anything: it is a label: what it is worth is what the hold of that sum in a sandbox is worth. -/
noncomputable def Try.pinned : Pinned := { name := "ytgplciodddfpbaa", sum := "6c225f03a0d01685774ce4e4f2ed70df900ee8808ab01d1806ca7547370388fa", checked := Try.checked }
namespace Rows
def none {H : Type} : Left H := { results := [], args := [] }

/-- 'laws.FnImposed': WHATEVER THE INPUT: true; the input reads as it did. -/
def fnImposedSpec : ChangeSpec := { name := "fnImposed", fn := fun _ => fun
  | [d] => { results := [.lit (.bool true)], args := [d] }
  | _ => none }
def fnImposedRow : OpenClaim := { program := "ytgplciodddfpbaa", sum := "6c225f03a0d01685774ce4e4f2ed70df900ee8808ab01d1806ca7547370388fa", func := "loop.example/g00944/laws.FnImposed", spec := "fnImposed", inPlace := ["internal/bytealg.CountString", "internal/bytealg.IndexByteString", "internal/bytealg.IndexString"], unfollowed := true, recurses := true, named := ["internal/bytealg.MaxLen"], apart := false }
def FnImposedSaid : Prop := fnImposedRow.holds Try.pinned (OpenSpec.ofChange fnImposedSpec)

/-- ITS FALSE NEIGHBOUR: 'it returns false'. Refute it at one input. -/
def fnImposedWrong : ChangeSpec := { name := "fnImposed", fn := fun _ => fun
  | [d] => { results := [.lit (.bool false)], args := [d] }
  | _ => none }
def FnImposedWrongFalsely : Prop := fnImposedRow.holds Try.pinned (OpenSpec.ofChange fnImposedWrong)

/-- 'laws.FnReadForms': WHATEVER THE INPUT: true; the input reads as it did. -/
def fnReadFormsSpec : ChangeSpec := { name := "fnReadForms", fn := fun _ => fun
  | [d] => { results := [.lit (.bool true)], args := [d] }
  | _ => none }
def fnReadFormsRow : OpenClaim := { program := "ytgplciodddfpbaa", sum := "6c225f03a0d01685774ce4e4f2ed70df900ee8808ab01d1806ca7547370388fa", func := "loop.example/g00944/laws.FnReadForms", spec := "fnReadForms", inPlace := ["internal/bytealg.CountString", "internal/bytealg.IndexByteString", "internal/bytealg.IndexString"], unfollowed := true, recurses := true, named := ["internal/bytealg.MaxLen"], apart := false }
def FnReadFormsSaid : Prop := fnReadFormsRow.holds Try.pinned (OpenSpec.ofChange fnReadFormsSpec)

/-- ITS FALSE NEIGHBOUR: 'it returns false'. Refute it at one input. -/
def fnReadFormsWrong : ChangeSpec := { name := "fnReadForms", fn := fun _ => fun
  | [d] => { results := [.lit (.bool false)], args := [d] }
  | _ => none }
def FnReadFormsWrongFalsely : Prop := fnReadFormsRow.holds Try.pinned (OpenSpec.ofChange fnReadFormsWrong)

/-- 'laws.FnPagePlaces': WHATEVER THE INPUT: true; the input reads as it did. -/
def fnPagePlacesSpec : ChangeSpec := { name := "fnPagePlaces", fn := fun _ => fun
  | [d] => { results := [.lit (.bool true)], args := [d] }
  | _ => none }
def fnPagePlacesRow : OpenClaim := { program := "ytgplciodddfpbaa", sum := "6c225f03a0d01685774ce4e4f2ed70df900ee8808ab01d1806ca7547370388fa", func := "loop.example/g00944/laws.FnPagePlaces", spec := "fnPagePlaces", unfollowed := true, recurses := true, apart := false }
def FnPagePlacesSaid : Prop := fnPagePlacesRow.holds Try.pinned (OpenSpec.ofChange fnPagePlacesSpec)

/-- ITS FALSE NEIGHBOUR: 'it returns false'. Refute it at one input. -/
def fnPagePlacesWrong : ChangeSpec := { name := "fnPagePlaces", fn := fun _ => fun
  | [d] => { results := [.lit (.bool false)], args := [d] }
  | _ => none }
def FnPagePlacesWrongFalsely : Prop := fnPagePlacesRow.holds Try.pinned (OpenSpec.ofChange fnPagePlacesWrong)

/-- 'laws.FnExactShiftForm': WHATEVER THE INPUT: true; the input reads as it did. -/
def fnExactShiftFormSpec : ChangeSpec := { name := "fnExactShiftForm", fn := fun _ => fun
  | [d1, d2] => { results := [.lit (.bool true)], args := [d1, d2] }
  | _ => none }
def fnExactShiftFormRow : OpenClaim := { program := "ytgplciodddfpbaa", sum := "6c225f03a0d01685774ce4e4f2ed70df900ee8808ab01d1806ca7547370388fa", func := "loop.example/g00944/laws.FnExactShiftForm", spec := "fnExactShiftForm", apart := false }
def FnExactShiftFormSaid : Prop := fnExactShiftFormRow.holds Try.pinned (OpenSpec.ofChange fnExactShiftFormSpec)

/-- ITS FALSE NEIGHBOUR: 'it returns false'. Refute it at one input. -/
def fnExactShiftFormWrong : ChangeSpec := { name := "fnExactShiftForm", fn := fun _ => fun
  | [d1, d2] => { results := [.lit (.bool false)], args := [d1, d2] }
  | _ => none }
def FnExactShiftFormWrongFalsely : Prop := fnExactShiftFormRow.holds Try.pinned (OpenSpec.ofChange fnExactShiftFormWrong)

/-- 'laws.FnExactTurnForm': WHATEVER THE INPUT: true; the input reads as it did. -/
def fnExactTurnFormSpec : ChangeSpec := { name := "fnExactTurnForm", fn := fun _ => fun
  | [d] => { results := [.lit (.bool true)], args := [d] }
  | _ => none }
def fnExactTurnFormRow : OpenClaim := { program := "ytgplciodddfpbaa", sum := "6c225f03a0d01685774ce4e4f2ed70df900ee8808ab01d1806ca7547370388fa", func := "loop.example/g00944/laws.FnExactTurnForm", spec := "fnExactTurnForm", unfollowed := true, recurses := true, apart := false }
def FnExactTurnFormSaid : Prop := fnExactTurnFormRow.holds Try.pinned (OpenSpec.ofChange fnExactTurnFormSpec)

/-- ITS FALSE NEIGHBOUR: 'it returns false'. Refute it at one input. -/
def fnExactTurnFormWrong : ChangeSpec := { name := "fnExactTurnForm", fn := fun _ => fun
  | [d] => { results := [.lit (.bool false)], args := [d] }
  | _ => none }
def FnExactTurnFormWrongFalsely : Prop := fnExactTurnFormRow.holds Try.pinned (OpenSpec.ofChange fnExactTurnFormWrong)

/-- 'laws.FnExactSchemesFor': WHATEVER THE INPUT: true; the input reads as it did. -/
def fnExactSchemesForSpec : ChangeSpec := { name := "fnExactSchemesFor", fn := fun _ => fun
  | [d] => { results := [.lit (.bool true)], args := [d] }
  | _ => none }
def fnExactSchemesForRow : OpenClaim := { program := "ytgplciodddfpbaa", sum := "6c225f03a0d01685774ce4e4f2ed70df900ee8808ab01d1806ca7547370388fa", func := "loop.example/g00944/laws.FnExactSchemesFor", spec := "fnExactSchemesFor", unfollowed := true, recurses := true, apart := false }
def FnExactSchemesForSaid : Prop := fnExactSchemesForRow.holds Try.pinned (OpenSpec.ofChange fnExactSchemesForSpec)

/-- ITS FALSE NEIGHBOUR: 'it returns false'. Refute it at one input. -/
def fnExactSchemesForWrong : ChangeSpec := { name := "fnExactSchemesFor", fn := fun _ => fun
  | [d] => { results := [.lit (.bool false)], args := [d] }
  | _ => none }
def FnExactSchemesForWrongFalsely : Prop := fnExactSchemesForRow.holds Try.pinned (OpenSpec.ofChange fnExactSchemesForWrong)

/- THE SECOND FORM. 'bulk': how many values and letters a reading holds, each counted each time it is reached (what is shared counts as often as it is met; a slice's spare places count too). A statement '..UptoSaid' is the law's where the arguments, and the package variables that the reading takes, are together of bulk at most 1048576: NARROWER than '..Said'. Prove '..Said' where nothing that the law and all that it calls make is longer than what came in: it says more and counts as full. Else prove '..UptoSaid'. A law counts once. -/
mutual
def uptoBulk {H : Type} : DataW H → Nat
  | .lit (.string bytes) => bytes.length + 1
  | .lit _ => 1
  | .nil => 1
  | .ptr d => uptoBulk d + 1
  | .slice elems spare => uptoBulkAll elems + uptoBulkAll spare + 1
  | .agg parts => uptoBulkAll parts + 1
  | .iface _ d => uptoBulk d + 1
  | .map entries => uptoBulkEntries entries + 1
  | .held _ => 1
def uptoBulkAll {H : Type} : List (DataW H) → Nat
  | [] => 0
  | d :: r => uptoBulk d + uptoBulkAll r
def uptoBulkEntries {H : Type} : List (Lit × DataW H) → Nat
  | [] => 0
  | x :: r => uptoBulkEntry x + uptoBulkEntries r
def uptoBulkEntry {H : Type} : Lit × DataW H → Nat
  | (.string bytes, d) => bytes.length + uptoBulk d + 1
  | (_, d) => uptoBulk d + 1
 end
def uptoSmall : (H : Type) → List (DataW H) → Bool := fun _ ds => decide (uptoBulkAll ds ≤ 1048576)
def OpenSpec.upto (s : _root_.Go.ChangeSpec) : _root_.Go.OpenSpec := { _root_.Go.OpenSpec.ofChange s with cond := some uptoSmall }

/-- 'laws.FnImposed', WHERE WHAT IT READS IS OF BULK AT MOST 1048576: true; the input reads as it did. -/
def fnImposedUptoRow : OpenClaim := { program := "ytgplciodddfpbaa", sum := "6c225f03a0d01685774ce4e4f2ed70df900ee8808ab01d1806ca7547370388fa", func := "loop.example/g00944/laws.FnImposed", spec := "fnImposed", inPlace := ["internal/bytealg.CountString", "internal/bytealg.IndexByteString", "internal/bytealg.IndexString"], unfollowed := true, recurses := true, named := ["internal/bytealg.MaxLen"], apart := false, narrowed := true }
def FnImposedUptoSaid : Prop := fnImposedUptoRow.holds Try.pinned (OpenSpec.upto fnImposedSpec)

/-- 'laws.FnReadForms', WHERE WHAT IT READS IS OF BULK AT MOST 1048576: true; the input reads as it did. -/
def fnReadFormsUptoRow : OpenClaim := { program := "ytgplciodddfpbaa", sum := "6c225f03a0d01685774ce4e4f2ed70df900ee8808ab01d1806ca7547370388fa", func := "loop.example/g00944/laws.FnReadForms", spec := "fnReadForms", inPlace := ["internal/bytealg.CountString", "internal/bytealg.IndexByteString", "internal/bytealg.IndexString"], unfollowed := true, recurses := true, named := ["internal/bytealg.MaxLen"], apart := false, narrowed := true }
def FnReadFormsUptoSaid : Prop := fnReadFormsUptoRow.holds Try.pinned (OpenSpec.upto fnReadFormsSpec)

/-- 'laws.FnPagePlaces', WHERE WHAT IT READS IS OF BULK AT MOST 1048576: true; the input reads as it did. -/
def fnPagePlacesUptoRow : OpenClaim := { program := "ytgplciodddfpbaa", sum := "6c225f03a0d01685774ce4e4f2ed70df900ee8808ab01d1806ca7547370388fa", func := "loop.example/g00944/laws.FnPagePlaces", spec := "fnPagePlaces", unfollowed := true, recurses := true, apart := false, narrowed := true }
def FnPagePlacesUptoSaid : Prop := fnPagePlacesUptoRow.holds Try.pinned (OpenSpec.upto fnPagePlacesSpec)

/-- 'laws.FnExactShiftForm', WHERE WHAT IT READS IS OF BULK AT MOST 1048576: true; the input reads as it did. -/
def fnExactShiftFormUptoRow : OpenClaim := { program := "ytgplciodddfpbaa", sum := "6c225f03a0d01685774ce4e4f2ed70df900ee8808ab01d1806ca7547370388fa", func := "loop.example/g00944/laws.FnExactShiftForm", spec := "fnExactShiftForm", apart := false, narrowed := true }
def FnExactShiftFormUptoSaid : Prop := fnExactShiftFormUptoRow.holds Try.pinned (OpenSpec.upto fnExactShiftFormSpec)

/-- 'laws.FnExactTurnForm', WHERE WHAT IT READS IS OF BULK AT MOST 1048576: true; the input reads as it did. -/
def fnExactTurnFormUptoRow : OpenClaim := { program := "ytgplciodddfpbaa", sum := "6c225f03a0d01685774ce4e4f2ed70df900ee8808ab01d1806ca7547370388fa", func := "loop.example/g00944/laws.FnExactTurnForm", spec := "fnExactTurnForm", unfollowed := true, recurses := true, apart := false, narrowed := true }
def FnExactTurnFormUptoSaid : Prop := fnExactTurnFormUptoRow.holds Try.pinned (OpenSpec.upto fnExactTurnFormSpec)

/-- 'laws.FnExactSchemesFor', WHERE WHAT IT READS IS OF BULK AT MOST 1048576: true; the input reads as it did. -/
def fnExactSchemesForUptoRow : OpenClaim := { program := "ytgplciodddfpbaa", sum := "6c225f03a0d01685774ce4e4f2ed70df900ee8808ab01d1806ca7547370388fa", func := "loop.example/g00944/laws.FnExactSchemesFor", spec := "fnExactSchemesFor", unfollowed := true, recurses := true, apart := false, narrowed := true }
def FnExactSchemesForUptoSaid : Prop := fnExactSchemesForUptoRow.holds Try.pinned (OpenSpec.upto fnExactSchemesForSpec)

end Rows
end Go.Proofs.Ytgplciodddfpbaa
