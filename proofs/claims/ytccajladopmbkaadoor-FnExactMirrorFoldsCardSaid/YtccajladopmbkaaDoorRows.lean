/-
  NARROWER THAN 'FOR EVERY INPUT', by the rows' own cells (each row's printed sentence says how): FnStrips: laid · FnCreases: laid · FnExactIsFolds: laid · FnExactFoldStrip: laid · FnExactCreasesOf: laid · FnExactFindFolds: laid · FnExactPlaceOf: laid · FnExactMirrorFolds: laid · FnExactCountFaces: laid.
  DERIVED. THE GIVEN ROWS OF THIS SEAT. 9 by the template 'for every input the law returns true; each argument reads behind the call as it read before'; 0 by the template 'total and deterministic' (their statements: YtccajladopmbkaaDoorTotals.lean).
  GIVEN WITH THE SEED: the statements are not yours to turn. If you find one false, say at which input.
  Laid BY PROGRAM, IN A SANDBOX (cutbox-rows.mjs): the forced cells as the released guide's own fill.sh prints them over the translation 2551841b0b4c7df1… (all of the seat's roots in one cut). By AI agents, Wed Nov 11 2026. No macro, syntax, notation, axiom, sorry.
-/
import Derived.Test.YtccajladopmbkaaDoorChecked
import GoSem.PinnedTables
import GoSem.Claim
import GoSem.ClaimJoined
import GoSem.ClaimMapViews
import Derived.JoinedTies
import Derived.KernelRfl
namespace Go.Proofs.YtccajladopmbkaaDoor
/- THE CELL 'sum', in the pinned program and in every row, IS THE sha256 OF THE DUMP (.gsa) THAT YtccajladopmbkaaDoorProg.lean LOADS. Nothing in Lean hashes anything: it is a label: what it is worth is what the hold of that sum in a sandbox is worth. -/
noncomputable def Tryd.pinned : Pinned := { name := "ytccajladopmbkaadoor", sum := "2551841b0b4c7df14dd03346551204f3beb5280a5d8640ae0b65a6ed8605d778", checked := Tryd.checked }
namespace Rows
def none {H : Type} : Left H := { results := [], args := [] }

/- WHAT THE LISTED PACKAGE-LEVEL VARIABLES READ AS WHEN THE CALL BEGINS. Each datum BY PROGRAM (the guide's laid-datum.mjs) off the statement by which the dump's own 'gosem.cut.vars' lays the variable. In a bare row this is a premise. The card (YtccajladopmbkaaDoorCards.lean) ties it to the program's text. -/
def laid_unicode_utf8_acceptRanges {H : Type} : DataW H := .agg [.agg [.lit (.int .u8 128), .lit (.int .u8 191)], .agg [.lit (.int .u8 160), .lit (.int .u8 191)], .agg [.lit (.int .u8 128), .lit (.int .u8 159)], .agg [.lit (.int .u8 144), .lit (.int .u8 191)], .agg [.lit (.int .u8 128), .lit (.int .u8 143)], .agg [.lit (.int .u8 0), .lit (.int .u8 0)], .agg [.lit (.int .u8 0), .lit (.int .u8 0)], .agg [.lit (.int .u8 0), .lit (.int .u8 0)], .agg [.lit (.int .u8 0), .lit (.int .u8 0)], .agg [.lit (.int .u8 0), .lit (.int .u8 0)], .agg [.lit (.int .u8 0), .lit (.int .u8 0)], .agg [.lit (.int .u8 0), .lit (.int .u8 0)], .agg [.lit (.int .u8 0), .lit (.int .u8 0)], .agg [.lit (.int .u8 0), .lit (.int .u8 0)], .agg [.lit (.int .u8 0), .lit (.int .u8 0)], .agg [.lit (.int .u8 0), .lit (.int .u8 0)]]
/-- One of Go's own tables, pinned by name: the form's constant. -/
def laid_unicode_utf8_first : DataW Unit := Go.Pinned.utf8First

/-- 'laws.FnStrips': WHATEVER THE INPUT: true; the input reads as it did. -/
def fnStripsSpec : ChangeSpec := { name := "fnStrips", fn := fun _ => fun
  | [d] => { results := [.lit (.bool true)], args := [d] }
  | _ => none }
def fnStripsRow : OpenClaim := { program := "ytccajladopmbkaadoor", sum := "2551841b0b4c7df14dd03346551204f3beb5280a5d8640ae0b65a6ed8605d778", func := "loop.example/g00944/laws.FnStrips", spec := "fnStrips", inPlace := ["internal/bytealg.IndexByteString", "internal/bytealg.IndexString", "internal/abi.NoEscape"], unfollowed := true, recurses := true, named := ["unicode/utf8.first", "unicode/utf8.acceptRanges", "internal/bytealg.MaxLen"], apart := false, laid := [("unicode/utf8.acceptRanges", laid_unicode_utf8_acceptRanges), ("unicode/utf8.first", laid_unicode_utf8_first)] }
def FnStripsSaid : Prop := fnStripsRow.holds Tryd.pinned (OpenSpec.ofChange fnStripsSpec)

/-- ITS FALSE NEIGHBOUR: 'it returns false'. Refute it at one input. -/
def fnStripsWrong : ChangeSpec := { name := "fnStrips", fn := fun _ => fun
  | [d] => { results := [.lit (.bool false)], args := [d] }
  | _ => none }
def FnStripsWrongFalsely : Prop := fnStripsRow.holds Tryd.pinned (OpenSpec.ofChange fnStripsWrong)

/-- 'laws.FnCreases': WHATEVER THE INPUT: true; the input reads as it did. -/
def fnCreasesSpec : ChangeSpec := { name := "fnCreases", fn := fun _ => fun
  | [d] => { results := [.lit (.bool true)], args := [d] }
  | _ => none }
def fnCreasesRow : OpenClaim := { program := "ytccajladopmbkaadoor", sum := "2551841b0b4c7df14dd03346551204f3beb5280a5d8640ae0b65a6ed8605d778", func := "loop.example/g00944/laws.FnCreases", spec := "fnCreases", inPlace := ["internal/bytealg.IndexByteString", "internal/bytealg.IndexString", "internal/abi.NoEscape"], unfollowed := true, recurses := true, named := ["unicode/utf8.first", "unicode/utf8.acceptRanges", "internal/bytealg.MaxLen"], apart := false, laid := [("unicode/utf8.acceptRanges", laid_unicode_utf8_acceptRanges), ("unicode/utf8.first", laid_unicode_utf8_first)] }
def FnCreasesSaid : Prop := fnCreasesRow.holds Tryd.pinned (OpenSpec.ofChange fnCreasesSpec)

/-- ITS FALSE NEIGHBOUR: 'it returns false'. Refute it at one input. -/
def fnCreasesWrong : ChangeSpec := { name := "fnCreases", fn := fun _ => fun
  | [d] => { results := [.lit (.bool false)], args := [d] }
  | _ => none }
def FnCreasesWrongFalsely : Prop := fnCreasesRow.holds Tryd.pinned (OpenSpec.ofChange fnCreasesWrong)

/-- 'laws.FnExactIsFolds': WHATEVER THE INPUT: true; the input reads as it did. -/
def fnExactIsFoldsSpec : ChangeSpec := { name := "fnExactIsFolds", fn := fun _ => fun
  | [d] => { results := [.lit (.bool true)], args := [d] }
  | _ => none }
def fnExactIsFoldsRow : OpenClaim := { program := "ytccajladopmbkaadoor", sum := "2551841b0b4c7df14dd03346551204f3beb5280a5d8640ae0b65a6ed8605d778", func := "loop.example/g00944/laws.FnExactIsFolds", spec := "fnExactIsFolds", inPlace := ["internal/bytealg.IndexByteString", "internal/bytealg.IndexString"], named := ["unicode/utf8.first", "unicode/utf8.acceptRanges", "internal/bytealg.MaxLen"], apart := false, laid := [("unicode/utf8.acceptRanges", laid_unicode_utf8_acceptRanges), ("unicode/utf8.first", laid_unicode_utf8_first)] }
def FnExactIsFoldsSaid : Prop := fnExactIsFoldsRow.holds Tryd.pinned (OpenSpec.ofChange fnExactIsFoldsSpec)

/-- ITS FALSE NEIGHBOUR: 'it returns false'. Refute it at one input. -/
def fnExactIsFoldsWrong : ChangeSpec := { name := "fnExactIsFolds", fn := fun _ => fun
  | [d] => { results := [.lit (.bool false)], args := [d] }
  | _ => none }
def FnExactIsFoldsWrongFalsely : Prop := fnExactIsFoldsRow.holds Tryd.pinned (OpenSpec.ofChange fnExactIsFoldsWrong)

/-- 'laws.FnExactFoldStrip': WHATEVER THE INPUT: true; the input reads as it did. -/
def fnExactFoldStripSpec : ChangeSpec := { name := "fnExactFoldStrip", fn := fun _ => fun
  | [d] => { results := [.lit (.bool true)], args := [d] }
  | _ => none }
def fnExactFoldStripRow : OpenClaim := { program := "ytccajladopmbkaadoor", sum := "2551841b0b4c7df14dd03346551204f3beb5280a5d8640ae0b65a6ed8605d778", func := "loop.example/g00944/laws.FnExactFoldStrip", spec := "fnExactFoldStrip", inPlace := ["internal/bytealg.IndexByteString", "internal/bytealg.IndexString"], unfollowed := true, recurses := true, named := ["unicode/utf8.first", "unicode/utf8.acceptRanges", "internal/bytealg.MaxLen"], apart := false, laid := [("unicode/utf8.acceptRanges", laid_unicode_utf8_acceptRanges), ("unicode/utf8.first", laid_unicode_utf8_first)] }
def FnExactFoldStripSaid : Prop := fnExactFoldStripRow.holds Tryd.pinned (OpenSpec.ofChange fnExactFoldStripSpec)

/-- ITS FALSE NEIGHBOUR: 'it returns false'. Refute it at one input. -/
def fnExactFoldStripWrong : ChangeSpec := { name := "fnExactFoldStrip", fn := fun _ => fun
  | [d] => { results := [.lit (.bool false)], args := [d] }
  | _ => none }
def FnExactFoldStripWrongFalsely : Prop := fnExactFoldStripRow.holds Tryd.pinned (OpenSpec.ofChange fnExactFoldStripWrong)

/-- 'laws.FnExactCreasesOf': WHATEVER THE INPUT: true; the input reads as it did. -/
def fnExactCreasesOfSpec : ChangeSpec := { name := "fnExactCreasesOf", fn := fun _ => fun
  | [d] => { results := [.lit (.bool true)], args := [d] }
  | _ => none }
def fnExactCreasesOfRow : OpenClaim := { program := "ytccajladopmbkaadoor", sum := "2551841b0b4c7df14dd03346551204f3beb5280a5d8640ae0b65a6ed8605d778", func := "loop.example/g00944/laws.FnExactCreasesOf", spec := "fnExactCreasesOf", inPlace := ["internal/bytealg.IndexByteString", "internal/bytealg.IndexString", "internal/abi.NoEscape"], unfollowed := true, recurses := true, named := ["unicode/utf8.first", "unicode/utf8.acceptRanges", "internal/bytealg.MaxLen"], apart := false, laid := [("unicode/utf8.acceptRanges", laid_unicode_utf8_acceptRanges), ("unicode/utf8.first", laid_unicode_utf8_first)] }
def FnExactCreasesOfSaid : Prop := fnExactCreasesOfRow.holds Tryd.pinned (OpenSpec.ofChange fnExactCreasesOfSpec)

/-- ITS FALSE NEIGHBOUR: 'it returns false'. Refute it at one input. -/
def fnExactCreasesOfWrong : ChangeSpec := { name := "fnExactCreasesOf", fn := fun _ => fun
  | [d] => { results := [.lit (.bool false)], args := [d] }
  | _ => none }
def FnExactCreasesOfWrongFalsely : Prop := fnExactCreasesOfRow.holds Tryd.pinned (OpenSpec.ofChange fnExactCreasesOfWrong)

/-- 'laws.FnExactFindFolds': WHATEVER THE INPUT: true; the input reads as it did. -/
def fnExactFindFoldsSpec : ChangeSpec := { name := "fnExactFindFolds", fn := fun _ => fun
  | [d] => { results := [.lit (.bool true)], args := [d] }
  | _ => none }
def fnExactFindFoldsRow : OpenClaim := { program := "ytccajladopmbkaadoor", sum := "2551841b0b4c7df14dd03346551204f3beb5280a5d8640ae0b65a6ed8605d778", func := "loop.example/g00944/laws.FnExactFindFolds", spec := "fnExactFindFolds", inPlace := ["internal/abi.NoEscape", "internal/bytealg.IndexByteString", "internal/bytealg.IndexString"], unfollowed := true, recurses := true, named := ["unicode/utf8.first", "unicode/utf8.acceptRanges", "internal/bytealg.MaxLen"], apart := false, laid := [("unicode/utf8.acceptRanges", laid_unicode_utf8_acceptRanges), ("unicode/utf8.first", laid_unicode_utf8_first)] }
def FnExactFindFoldsSaid : Prop := fnExactFindFoldsRow.holds Tryd.pinned (OpenSpec.ofChange fnExactFindFoldsSpec)

/-- ITS FALSE NEIGHBOUR: 'it returns false'. Refute it at one input. -/
def fnExactFindFoldsWrong : ChangeSpec := { name := "fnExactFindFolds", fn := fun _ => fun
  | [d] => { results := [.lit (.bool false)], args := [d] }
  | _ => none }
def FnExactFindFoldsWrongFalsely : Prop := fnExactFindFoldsRow.holds Tryd.pinned (OpenSpec.ofChange fnExactFindFoldsWrong)

/-- 'laws.FnExactPlaceOf': WHATEVER THE INPUT: true; the input reads as it did. -/
def fnExactPlaceOfSpec : ChangeSpec := { name := "fnExactPlaceOf", fn := fun _ => fun
  | [d1, d2] => { results := [.lit (.bool true)], args := [d1, d2] }
  | _ => none }
def fnExactPlaceOfRow : OpenClaim := { program := "ytccajladopmbkaadoor", sum := "2551841b0b4c7df14dd03346551204f3beb5280a5d8640ae0b65a6ed8605d778", func := "loop.example/g00944/laws.FnExactPlaceOf", spec := "fnExactPlaceOf", inPlace := ["internal/bytealg.IndexByteString", "internal/bytealg.IndexString"], unfollowed := true, recurses := true, named := ["unicode/utf8.first", "unicode/utf8.acceptRanges", "internal/bytealg.MaxLen"], apart := false, laid := [("unicode/utf8.acceptRanges", laid_unicode_utf8_acceptRanges), ("unicode/utf8.first", laid_unicode_utf8_first)] }
def FnExactPlaceOfSaid : Prop := fnExactPlaceOfRow.holds Tryd.pinned (OpenSpec.ofChange fnExactPlaceOfSpec)

/-- ITS FALSE NEIGHBOUR: 'it returns false'. Refute it at one input. -/
def fnExactPlaceOfWrong : ChangeSpec := { name := "fnExactPlaceOf", fn := fun _ => fun
  | [d1, d2] => { results := [.lit (.bool false)], args := [d1, d2] }
  | _ => none }
def FnExactPlaceOfWrongFalsely : Prop := fnExactPlaceOfRow.holds Tryd.pinned (OpenSpec.ofChange fnExactPlaceOfWrong)

/-- 'laws.FnExactMirrorFolds': WHATEVER THE INPUT: true; the input reads as it did. -/
def fnExactMirrorFoldsSpec : ChangeSpec := { name := "fnExactMirrorFolds", fn := fun _ => fun
  | [d] => { results := [.lit (.bool true)], args := [d] }
  | _ => none }
def fnExactMirrorFoldsRow : OpenClaim := { program := "ytccajladopmbkaadoor", sum := "2551841b0b4c7df14dd03346551204f3beb5280a5d8640ae0b65a6ed8605d778", func := "loop.example/g00944/laws.FnExactMirrorFolds", spec := "fnExactMirrorFolds", inPlace := ["internal/bytealg.IndexByteString", "internal/bytealg.IndexString", "sync/atomic.LoadUint32", "(*internal/sync.Mutex).Lock", "internal/race.Disable", "sync/atomic.CompareAndSwapInt32", "internal/race.Enable", "internal/race.Acquire", "(*internal/sync.Mutex).lockSlow", "internal/sync.runtime_canSpin", "internal/sync.runtime_doSpin", "internal/sync.throw", "internal/sync.runtime_nanotime", "internal/sync.runtime_SemacquireMutex", "sync/atomic.AddInt32", "(*internal/sync.Mutex).Unlock", "internal/race.ReleaseMerge", "(*internal/sync.Mutex).unlockSlow", "internal/sync.fatal", "internal/sync.runtime_Semrelease", "sync/atomic.StoreUint32"], unfollowed := true, recurses := true, named := ["unicode/utf8.first", "unicode/utf8.acceptRanges", "internal/bytealg.MaxLen"], apart := false, laid := [("unicode/utf8.acceptRanges", laid_unicode_utf8_acceptRanges), ("unicode/utf8.first", laid_unicode_utf8_first)] }
def FnExactMirrorFoldsSaid : Prop := fnExactMirrorFoldsRow.holds Tryd.pinned (OpenSpec.ofChange fnExactMirrorFoldsSpec)

/-- ITS FALSE NEIGHBOUR: 'it returns false'. Refute it at one input. -/
def fnExactMirrorFoldsWrong : ChangeSpec := { name := "fnExactMirrorFolds", fn := fun _ => fun
  | [d] => { results := [.lit (.bool false)], args := [d] }
  | _ => none }
def FnExactMirrorFoldsWrongFalsely : Prop := fnExactMirrorFoldsRow.holds Tryd.pinned (OpenSpec.ofChange fnExactMirrorFoldsWrong)

/-- 'laws.FnExactCountFaces': WHATEVER THE INPUT: true; the input reads as it did. -/
def fnExactCountFacesSpec : ChangeSpec := { name := "fnExactCountFaces", fn := fun _ => fun
  | [d] => { results := [.lit (.bool true)], args := [d] }
  | _ => none }
def fnExactCountFacesRow : OpenClaim := { program := "ytccajladopmbkaadoor", sum := "2551841b0b4c7df14dd03346551204f3beb5280a5d8640ae0b65a6ed8605d778", func := "loop.example/g00944/laws.FnExactCountFaces", spec := "fnExactCountFaces", inPlace := ["internal/bytealg.IndexByteString", "internal/bytealg.IndexString"], unfollowed := true, recurses := true, named := ["unicode/utf8.first", "unicode/utf8.acceptRanges", "internal/bytealg.MaxLen"], apart := false, laid := [("unicode/utf8.acceptRanges", laid_unicode_utf8_acceptRanges), ("unicode/utf8.first", laid_unicode_utf8_first)] }
def FnExactCountFacesSaid : Prop := fnExactCountFacesRow.holds Tryd.pinned (OpenSpec.ofChange fnExactCountFacesSpec)

/-- ITS FALSE NEIGHBOUR: 'it returns false'. Refute it at one input. -/
def fnExactCountFacesWrong : ChangeSpec := { name := "fnExactCountFaces", fn := fun _ => fun
  | [d] => { results := [.lit (.bool false)], args := [d] }
  | _ => none }
def FnExactCountFacesWrongFalsely : Prop := fnExactCountFacesRow.holds Tryd.pinned (OpenSpec.ofChange fnExactCountFacesWrong)

/- THE SECOND FORM. 'bulk': how many values and letters a reading holds, each counted each time it is reached (what is shared counts as often as it is met; a slice's spare places count too). A statement '..UptoSaid' is the law's where the arguments, and the package variables that the reading takes, are together of bulk at most 1048576: NARROWER than '..Said'. Prove '..Said' where nothing that the law and all that it calls make is longer than what came in: it says more and counts as full. Else prove '..UptoSaid'. A law counts once. -/
mutual
def uptoBulk {H : Type} : DataW H → Nat
  | .lit (.string bytes) => bytes.length + 1
  | .lit _ => 1
  | .nil => 1
  | .ptr d => uptoBulk d + 1
  | .slice elems spare => uptoBulkAll elems + uptoBulkAll spare + 1
  | .agg parts => uptoBulkAll parts + 1
  | .iface _ d => uptoBulk d + 1
  | .map entries => uptoBulkEntries entries + 1
  | .held _ => 1
def uptoBulkAll {H : Type} : List (DataW H) → Nat
  | [] => 0
  | d :: r => uptoBulk d + uptoBulkAll r
def uptoBulkEntries {H : Type} : List (Lit × DataW H) → Nat
  | [] => 0
  | x :: r => uptoBulkEntry x + uptoBulkEntries r
def uptoBulkEntry {H : Type} : Lit × DataW H → Nat
  | (.string bytes, d) => bytes.length + uptoBulk d + 1
  | (_, d) => uptoBulk d + 1
 end
def uptoSmall : (H : Type) → List (DataW H) → Bool := fun _ ds => decide (uptoBulkAll ds ≤ 1048576)
def OpenSpec.upto (s : _root_.Go.ChangeSpec) : _root_.Go.OpenSpec := { _root_.Go.OpenSpec.ofChange s with cond := some uptoSmall }

/-- 'laws.FnStrips', WHERE WHAT IT READS IS OF BULK AT MOST 1048576: true; the input reads as it did. -/
def fnStripsUptoRow : OpenClaim := { program := "ytccajladopmbkaadoor", sum := "2551841b0b4c7df14dd03346551204f3beb5280a5d8640ae0b65a6ed8605d778", func := "loop.example/g00944/laws.FnStrips", spec := "fnStrips", inPlace := ["internal/bytealg.IndexByteString", "internal/bytealg.IndexString", "internal/abi.NoEscape"], unfollowed := true, recurses := true, named := ["unicode/utf8.first", "unicode/utf8.acceptRanges", "internal/bytealg.MaxLen"], apart := false, laid := [("unicode/utf8.acceptRanges", laid_unicode_utf8_acceptRanges), ("unicode/utf8.first", laid_unicode_utf8_first)], narrowed := true }
def FnStripsUptoSaid : Prop := fnStripsUptoRow.holds Tryd.pinned (OpenSpec.upto fnStripsSpec)

/-- 'laws.FnCreases', WHERE WHAT IT READS IS OF BULK AT MOST 1048576: true; the input reads as it did. -/
def fnCreasesUptoRow : OpenClaim := { program := "ytccajladopmbkaadoor", sum := "2551841b0b4c7df14dd03346551204f3beb5280a5d8640ae0b65a6ed8605d778", func := "loop.example/g00944/laws.FnCreases", spec := "fnCreases", inPlace := ["internal/bytealg.IndexByteString", "internal/bytealg.IndexString", "internal/abi.NoEscape"], unfollowed := true, recurses := true, named := ["unicode/utf8.first", "unicode/utf8.acceptRanges", "internal/bytealg.MaxLen"], apart := false, laid := [("unicode/utf8.acceptRanges", laid_unicode_utf8_acceptRanges), ("unicode/utf8.first", laid_unicode_utf8_first)], narrowed := true }
def FnCreasesUptoSaid : Prop := fnCreasesUptoRow.holds Tryd.pinned (OpenSpec.upto fnCreasesSpec)

/-- 'laws.FnExactIsFolds', WHERE WHAT IT READS IS OF BULK AT MOST 1048576: true; the input reads as it did. -/
def fnExactIsFoldsUptoRow : OpenClaim := { program := "ytccajladopmbkaadoor", sum := "2551841b0b4c7df14dd03346551204f3beb5280a5d8640ae0b65a6ed8605d778", func := "loop.example/g00944/laws.FnExactIsFolds", spec := "fnExactIsFolds", inPlace := ["internal/bytealg.IndexByteString", "internal/bytealg.IndexString"], named := ["unicode/utf8.first", "unicode/utf8.acceptRanges", "internal/bytealg.MaxLen"], apart := false, laid := [("unicode/utf8.acceptRanges", laid_unicode_utf8_acceptRanges), ("unicode/utf8.first", laid_unicode_utf8_first)], narrowed := true }
def FnExactIsFoldsUptoSaid : Prop := fnExactIsFoldsUptoRow.holds Tryd.pinned (OpenSpec.upto fnExactIsFoldsSpec)

/-- 'laws.FnExactFoldStrip', WHERE WHAT IT READS IS OF BULK AT MOST 1048576: true; the input reads as it did. -/
def fnExactFoldStripUptoRow : OpenClaim := { program := "ytccajladopmbkaadoor", sum := "2551841b0b4c7df14dd03346551204f3beb5280a5d8640ae0b65a6ed8605d778", func := "loop.example/g00944/laws.FnExactFoldStrip", spec := "fnExactFoldStrip", inPlace := ["internal/bytealg.IndexByteString", "internal/bytealg.IndexString"], unfollowed := true, recurses := true, named := ["unicode/utf8.first", "unicode/utf8.acceptRanges", "internal/bytealg.MaxLen"], apart := false, laid := [("unicode/utf8.acceptRanges", laid_unicode_utf8_acceptRanges), ("unicode/utf8.first", laid_unicode_utf8_first)], narrowed := true }
def FnExactFoldStripUptoSaid : Prop := fnExactFoldStripUptoRow.holds Tryd.pinned (OpenSpec.upto fnExactFoldStripSpec)

/-- 'laws.FnExactCreasesOf', WHERE WHAT IT READS IS OF BULK AT MOST 1048576: true; the input reads as it did. -/
def fnExactCreasesOfUptoRow : OpenClaim := { program := "ytccajladopmbkaadoor", sum := "2551841b0b4c7df14dd03346551204f3beb5280a5d8640ae0b65a6ed8605d778", func := "loop.example/g00944/laws.FnExactCreasesOf", spec := "fnExactCreasesOf", inPlace := ["internal/bytealg.IndexByteString", "internal/bytealg.IndexString", "internal/abi.NoEscape"], unfollowed := true, recurses := true, named := ["unicode/utf8.first", "unicode/utf8.acceptRanges", "internal/bytealg.MaxLen"], apart := false, laid := [("unicode/utf8.acceptRanges", laid_unicode_utf8_acceptRanges), ("unicode/utf8.first", laid_unicode_utf8_first)], narrowed := true }
def FnExactCreasesOfUptoSaid : Prop := fnExactCreasesOfUptoRow.holds Tryd.pinned (OpenSpec.upto fnExactCreasesOfSpec)

/-- 'laws.FnExactFindFolds', WHERE WHAT IT READS IS OF BULK AT MOST 1048576: true; the input reads as it did. -/
def fnExactFindFoldsUptoRow : OpenClaim := { program := "ytccajladopmbkaadoor", sum := "2551841b0b4c7df14dd03346551204f3beb5280a5d8640ae0b65a6ed8605d778", func := "loop.example/g00944/laws.FnExactFindFolds", spec := "fnExactFindFolds", inPlace := ["internal/abi.NoEscape", "internal/bytealg.IndexByteString", "internal/bytealg.IndexString"], unfollowed := true, recurses := true, named := ["unicode/utf8.first", "unicode/utf8.acceptRanges", "internal/bytealg.MaxLen"], apart := false, laid := [("unicode/utf8.acceptRanges", laid_unicode_utf8_acceptRanges), ("unicode/utf8.first", laid_unicode_utf8_first)], narrowed := true }
def FnExactFindFoldsUptoSaid : Prop := fnExactFindFoldsUptoRow.holds Tryd.pinned (OpenSpec.upto fnExactFindFoldsSpec)

/-- 'laws.FnExactPlaceOf', WHERE WHAT IT READS IS OF BULK AT MOST 1048576: true; the input reads as it did. -/
def fnExactPlaceOfUptoRow : OpenClaim := { program := "ytccajladopmbkaadoor", sum := "2551841b0b4c7df14dd03346551204f3beb5280a5d8640ae0b65a6ed8605d778", func := "loop.example/g00944/laws.FnExactPlaceOf", spec := "fnExactPlaceOf", inPlace := ["internal/bytealg.IndexByteString", "internal/bytealg.IndexString"], unfollowed := true, recurses := true, named := ["unicode/utf8.first", "unicode/utf8.acceptRanges", "internal/bytealg.MaxLen"], apart := false, laid := [("unicode/utf8.acceptRanges", laid_unicode_utf8_acceptRanges), ("unicode/utf8.first", laid_unicode_utf8_first)], narrowed := true }
def FnExactPlaceOfUptoSaid : Prop := fnExactPlaceOfUptoRow.holds Tryd.pinned (OpenSpec.upto fnExactPlaceOfSpec)

/-- 'laws.FnExactMirrorFolds', WHERE WHAT IT READS IS OF BULK AT MOST 1048576: true; the input reads as it did. -/
def fnExactMirrorFoldsUptoRow : OpenClaim := { program := "ytccajladopmbkaadoor", sum := "2551841b0b4c7df14dd03346551204f3beb5280a5d8640ae0b65a6ed8605d778", func := "loop.example/g00944/laws.FnExactMirrorFolds", spec := "fnExactMirrorFolds", inPlace := ["internal/bytealg.IndexByteString", "internal/bytealg.IndexString", "sync/atomic.LoadUint32", "(*internal/sync.Mutex).Lock", "internal/race.Disable", "sync/atomic.CompareAndSwapInt32", "internal/race.Enable", "internal/race.Acquire", "(*internal/sync.Mutex).lockSlow", "internal/sync.runtime_canSpin", "internal/sync.runtime_doSpin", "internal/sync.throw", "internal/sync.runtime_nanotime", "internal/sync.runtime_SemacquireMutex", "sync/atomic.AddInt32", "(*internal/sync.Mutex).Unlock", "internal/race.ReleaseMerge", "(*internal/sync.Mutex).unlockSlow", "internal/sync.fatal", "internal/sync.runtime_Semrelease", "sync/atomic.StoreUint32"], unfollowed := true, recurses := true, named := ["unicode/utf8.first", "unicode/utf8.acceptRanges", "internal/bytealg.MaxLen"], apart := false, laid := [("unicode/utf8.acceptRanges", laid_unicode_utf8_acceptRanges), ("unicode/utf8.first", laid_unicode_utf8_first)], narrowed := true }
def FnExactMirrorFoldsUptoSaid : Prop := fnExactMirrorFoldsUptoRow.holds Tryd.pinned (OpenSpec.upto fnExactMirrorFoldsSpec)

/-- 'laws.FnExactCountFaces', WHERE WHAT IT READS IS OF BULK AT MOST 1048576: true; the input reads as it did. -/
def fnExactCountFacesUptoRow : OpenClaim := { program := "ytccajladopmbkaadoor", sum := "2551841b0b4c7df14dd03346551204f3beb5280a5d8640ae0b65a6ed8605d778", func := "loop.example/g00944/laws.FnExactCountFaces", spec := "fnExactCountFaces", inPlace := ["internal/bytealg.IndexByteString", "internal/bytealg.IndexString"], unfollowed := true, recurses := true, named := ["unicode/utf8.first", "unicode/utf8.acceptRanges", "internal/bytealg.MaxLen"], apart := false, laid := [("unicode/utf8.acceptRanges", laid_unicode_utf8_acceptRanges), ("unicode/utf8.first", laid_unicode_utf8_first)], narrowed := true }
def FnExactCountFacesUptoSaid : Prop := fnExactCountFacesUptoRow.holds Tryd.pinned (OpenSpec.upto fnExactCountFacesSpec)

end Rows
end Go.Proofs.YtccajladopmbkaaDoor
