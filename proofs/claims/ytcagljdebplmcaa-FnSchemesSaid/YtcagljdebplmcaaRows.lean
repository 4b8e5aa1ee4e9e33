/-
  No cell of these rows narrows 'for every input' (looked for: loops, veiled, ifaces, maps, wideKeys, modest, calm, conditions, laid).
  DERIVED. THE GIVEN ROWS OF THIS SEAT. 11 by the template 'for every input the law returns true; each argument reads behind the call as it read before'; 0 by the template 'total and deterministic' (their statements: YtcagljdebplmcaaTotals.lean).
  GIVEN WITH THE SEED: the statements are not yours to turn. If you find one false, say at which input.
  Laid BY PROGRAM, IN A SANDBOX (cutbox-rows.mjs): the forced cells as the released guide's own fill.sh prints them over the translation c64f510186b1f75a… (all of the seat's roots in one cut). By AI agents, Wed Nov 11 2026. No macro, syntax, notation, axiom, sorry.
-/
import Derived.Test.YtcagljdebplmcaaChecked
import GoSem.Claim
import GoSem.ClaimJoined
import GoSem.ClaimMapViews
import Derived.JoinedTies
import Derived.KernelRfl
namespace Go.Proofs.Ytcagljdebplmcaa
/- THE CELL 'sum', in the pinned program and in every row, IS THE sha256 OF THE DUMP (.gsa) THAT YtcagljdebplmcaaProg.lean LOADS. Nothing in Lean hashes anything: it is a label: what it is worth is what the hold of that sum in a sandbox is worth. -/
noncomputable def Try.pinned : Pinned := { name := "ytcagljdebplmcaa", sum := "c64f510186b1f75a7e2b7b2d57000f510d302cab3c1493760c61029c3be31dbf", checked := Try.checked }
namespace Rows
def none {H : Type} : Left H := { results := [], args := [] }

/-- 'laws.FnFolded': WHATEVER THE INPUT: true; the input reads as it did. -/
def fnFoldedSpec : ChangeSpec := { name := "fnFolded", fn := fun _ => fun
  | [d] => { results := [.lit (.bool true)], args := [d] }
  | _ => none }
def fnFoldedRow : OpenClaim := { program := "ytcagljdebplmcaa", sum := "c64f510186b1f75a7e2b7b2d57000f510d302cab3c1493760c61029c3be31dbf", func := "loop.example/g00944/laws.FnFolded", spec := "fnFolded", inPlace := ["internal/bytealg.CountString", "internal/bytealg.IndexByteString", "internal/bytealg.IndexString"], unfollowed := true, recurses := true, named := ["internal/bytealg.MaxLen"], plainKeys := false, apart := false }
def FnFoldedSaid : Prop := fnFoldedRow.holds Try.pinned (OpenSpec.ofChange fnFoldedSpec)

/-- ITS FALSE NEIGHBOUR: 'it returns false'. Refute it at one input. -/
def fnFoldedWrong : ChangeSpec := { name := "fnFolded", fn := fun _ => fun
  | [d] => { results := [.lit (.bool false)], args := [d] }
  | _ => none }
def FnFoldedWrongFalsely : Prop := fnFoldedRow.holds Try.pinned (OpenSpec.ofChange fnFoldedWrong)

/-- 'laws.FnSchemes': WHATEVER THE INPUT: true; the input reads as it did. -/
def fnSchemesSpec : ChangeSpec := { name := "fnSchemes", fn := fun _ => fun
  | [d] => { results := [.lit (.bool true)], args := [d] }
  | _ => none }
def fnSchemesRow : OpenClaim := { program := "ytcagljdebplmcaa", sum := "c64f510186b1f75a7e2b7b2d57000f510d302cab3c1493760c61029c3be31dbf", func := "loop.example/g00944/laws.FnSchemes", spec := "fnSchemes", inPlace := ["internal/bytealg.CountString", "internal/bytealg.IndexByteString", "internal/bytealg.IndexString"], unfollowed := true, recurses := true, named := ["internal/bytealg.MaxLen"], plainKeys := false, apart := false }
def FnSchemesSaid : Prop := fnSchemesRow.holds Try.pinned (OpenSpec.ofChange fnSchemesSpec)

/-- ITS FALSE NEIGHBOUR: 'it returns false'. Refute it at one input. -/
def fnSchemesWrong : ChangeSpec := { name := "fnSchemes", fn := fun _ => fun
  | [d] => { results := [.lit (.bool false)], args := [d] }
  | _ => none }
def FnSchemesWrongFalsely : Prop := fnSchemesRow.holds Try.pinned (OpenSpec.ofChange fnSchemesWrong)

/-- 'laws.FnMirroredSheets': WHATEVER THE INPUT: true; the input reads as it did. -/
def fnMirroredSheetsSpec : ChangeSpec := { name := "fnMirroredSheets", fn := fun _ => fun
  | [d] => { results := [.lit (.bool true)], args := [d] }
  | _ => none }
def fnMirroredSheetsRow : OpenClaim := { program := "ytcagljdebplmcaa", sum := "c64f510186b1f75a7e2b7b2d57000f510d302cab3c1493760c61029c3be31dbf", func := "loop.example/g00944/laws.FnMirroredSheets", spec := "fnMirroredSheets", inPlace := ["internal/bytealg.CountString", "internal/bytealg.IndexByteString", "internal/bytealg.IndexString", "sync/atomic.LoadUint32", "(*internal/sync.Mutex).Lock", "internal/race.Disable", "sync/atomic.CompareAndSwapInt32", "internal/race.Enable", "internal/race.Acquire", "(*internal/sync.Mutex).lockSlow", "internal/sync.runtime_canSpin", "internal/sync.runtime_doSpin", "internal/sync.throw", "internal/sync.runtime_nanotime", "internal/sync.runtime_SemacquireMutex", "sync/atomic.AddInt32", "(*internal/sync.Mutex).Unlock", "internal/race.ReleaseMerge", "(*internal/sync.Mutex).unlockSlow", "internal/sync.fatal", "internal/sync.runtime_Semrelease", "sync/atomic.StoreUint32"], unfollowed := true, recurses := true, named := ["internal/bytealg.MaxLen"], plainKeys := false, apart := false }
def FnMirroredSheetsSaid : Prop := fnMirroredSheetsRow.holds Try.pinned (OpenSpec.ofChange fnMirroredSheetsSpec)

/-- ITS FALSE NEIGHBOUR: 'it returns false'. Refute it at one input. -/
def fnMirroredSheetsWrong : ChangeSpec := { name := "fnMirroredSheets", fn := fun _ => fun
  | [d] => { results := [.lit (.bool false)], args := [d] }
  | _ => none }
def FnMirroredSheetsWrongFalsely : Prop := fnMirroredSheetsRow.holds Try.pinned (OpenSpec.ofChange fnMirroredSheetsWrong)

/-- 'laws.FnExactIsScheme': WHATEVER THE INPUT: true; the input reads as it did. -/
def fnExactIsSchemeSpec : ChangeSpec := { name := "fnExactIsScheme", fn := fun _ => fun
  | [d1, d2, d3] => { results := [.lit (.bool true)], args := [d1, d2, d3] }
  | _ => none }
def fnExactIsSchemeRow : OpenClaim := { program := "ytcagljdebplmcaa", sum := "c64f510186b1f75a7e2b7b2d57000f510d302cab3c1493760c61029c3be31dbf", func := "loop.example/g00944/laws.FnExactIsScheme", spec := "fnExactIsScheme", inPlace := ["internal/bytealg.CountString", "internal/bytealg.IndexByteString", "internal/bytealg.IndexString"], named := ["internal/bytealg.MaxLen"], plainKeys := false, apart := false }
def FnExactIsSchemeSaid : Prop := fnExactIsSchemeRow.holds Try.pinned (OpenSpec.ofChange fnExactIsSchemeSpec)

/-- ITS FALSE NEIGHBOUR: 'it returns false'. Refute it at one input. -/
def fnExactIsSchemeWrong : ChangeSpec := { name := "fnExactIsScheme", fn := fun _ => fun
  | [d1, d2, d3] => { results := [.lit (.bool false)], args := [d1, d2, d3] }
  | _ => none }
def FnExactIsSchemeWrongFalsely : Prop := fnExactIsSchemeRow.holds Try.pinned (OpenSpec.ofChange fnExactIsSchemeWrong)

/-- 'laws.FnExactFoldSheet': WHATEVER THE INPUT: true; the input reads as it did. -/
def fnExactFoldSheetSpec : ChangeSpec := { name := "fnExactFoldSheet", fn := fun _ => fun
  | [d1, d2, d3] => { results := [.lit (.bool true)], args := [d1, d2, d3] }
  | _ => none }
def fnExactFoldSheetRow : OpenClaim := { program := "ytcagljdebplmcaa", sum := "c64f510186b1f75a7e2b7b2d57000f510d302cab3c1493760c61029c3be31dbf", func := "loop.example/g00944/laws.FnExactFoldSheet", spec := "fnExactFoldSheet", inPlace := ["internal/bytealg.CountString", "internal/bytealg.IndexByteString", "internal/bytealg.IndexString"], unfollowed := true, recurses := true, named := ["internal/bytealg.MaxLen"], plainKeys := false, apart := false }
def FnExactFoldSheetSaid : Prop := fnExactFoldSheetRow.holds Try.pinned (OpenSpec.ofChange fnExactFoldSheetSpec)

/-- ITS FALSE NEIGHBOUR: 'it returns false'. Refute it at one input. -/
def fnExactFoldSheetWrong : ChangeSpec := { name := "fnExactFoldSheet", fn := fun _ => fun
  | [d1, d2, d3] => { results := [.lit (.bool false)], args := [d1, d2, d3] }
  | _ => none }
def FnExactFoldSheetWrongFalsely : Prop := fnExactFoldSheetRow.holds Try.pinned (OpenSpec.ofChange fnExactFoldSheetWrong)

/-- 'laws.FnExactSchemesOf': WHATEVER THE INPUT: true; the input reads as it did. -/
def fnExactSchemesOfSpec : ChangeSpec := { name := "fnExactSchemesOf", fn := fun _ => fun
  | [d1, d2] => { results := [.lit (.bool true)], args := [d1, d2] }
  | _ => none }
def fnExactSchemesOfRow : OpenClaim := { program := "ytcagljdebplmcaa", sum := "c64f510186b1f75a7e2b7b2d57000f510d302cab3c1493760c61029c3be31dbf", func := "loop.example/g00944/laws.FnExactSchemesOf", spec := "fnExactSchemesOf", unfollowed := true, recurses := true, plainKeys := false, apart := false }
def FnExactSchemesOfSaid : Prop := fnExactSchemesOfRow.holds Try.pinned (OpenSpec.ofChange fnExactSchemesOfSpec)

/-- ITS FALSE NEIGHBOUR: 'it returns false'. Refute it at one input. -/
def fnExactSchemesOfWrong : ChangeSpec := { name := "fnExactSchemesOf", fn := fun _ => fun
  | [d1, d2] => { results := [.lit (.bool false)], args := [d1, d2] }
  | _ => none }
def FnExactSchemesOfWrongFalsely : Prop := fnExactSchemesOfRow.holds Try.pinned (OpenSpec.ofChange fnExactSchemesOfWrong)

/-- 'laws.FnExactCountSchemes': WHATEVER THE INPUT: true; the input reads as it did. -/
def fnExactCountSchemesSpec : ChangeSpec := { name := "fnExactCountSchemes", fn := fun _ => fun
  | [d1, d2] => { results := [.lit (.bool true)], args := [d1, d2] }
  | _ => none }
def fnExactCountSchemesRow : OpenClaim := { program := "ytcagljdebplmcaa", sum := "c64f510186b1f75a7e2b7b2d57000f510d302cab3c1493760c61029c3be31dbf", func := "loop.example/g00944/laws.FnExactCountSchemes", spec := "fnExactCountSchemes", unfollowed := true, recurses := true, plainKeys := false, apart := false }
def FnExactCountSchemesSaid : Prop := fnExactCountSchemesRow.holds Try.pinned (OpenSpec.ofChange fnExactCountSchemesSpec)

/-- ITS FALSE NEIGHBOUR: 'it returns false'. Refute it at one input. -/
def fnExactCountSchemesWrong : ChangeSpec := { name := "fnExactCountSchemes", fn := fun _ => fun
  | [d1, d2] => { results := [.lit (.bool false)], args := [d1, d2] }
  | _ => none }
def FnExactCountSchemesWrongFalsely : Prop := fnExactCountSchemesRow.holds Try.pinned (OpenSpec.ofChange fnExactCountSchemesWrong)

/-- 'laws.FnExactLeafOf': WHATEVER THE INPUT: true; the input reads as it did. -/
def fnExactLeafOfSpec : ChangeSpec := { name := "fnExactLeafOf", fn := fun _ => fun
  | [d1, d2, d3, d4, d5] => { results := [.lit (.bool true)], args := [d1, d2, d3, d4, d5] }
  | _ => none }
def fnExactLeafOfRow : OpenClaim := { program := "ytcagljdebplmcaa", sum := "c64f510186b1f75a7e2b7b2d57000f510d302cab3c1493760c61029c3be31dbf", func := "loop.example/g00944/laws.FnExactLeafOf", spec := "fnExactLeafOf", inPlace := ["internal/bytealg.CountString", "internal/bytealg.IndexByteString", "internal/bytealg.IndexString"], unfollowed := true, recurses := true, named := ["internal/bytealg.MaxLen"], plainKeys := false, apart := false }
def FnExactLeafOfSaid : Prop := fnExactLeafOfRow.holds Try.pinned (OpenSpec.ofChange fnExactLeafOfSpec)

/-- ITS FALSE NEIGHBOUR: 'it returns false'. Refute it at one input. -/
def fnExactLeafOfWrong : ChangeSpec := { name := "fnExactLeafOf", fn := fun _ => fun
  | [d1, d2, d3, d4, d5] => { results := [.lit (.bool false)], args := [d1, d2, d3, d4, d5] }
  | _ => none }
def FnExactLeafOfWrongFalsely : Prop := fnExactLeafOfRow.holds Try.pinned (OpenSpec.ofChange fnExactLeafOfWrong)

/-- 'laws.FnExactMirrorScheme': WHATEVER THE INPUT: true; the input reads as it did. -/
def fnExactMirrorSchemeSpec : ChangeSpec := { name := "fnExactMirrorScheme", fn := fun _ => fun
  | [d1, d2, d3] => { results := [.lit (.bool true)], args := [d1, d2, d3] }
  | _ => none }
def fnExactMirrorSchemeRow : OpenClaim := { program := "ytcagljdebplmcaa", sum := "c64f510186b1f75a7e2b7b2d57000f510d302cab3c1493760c61029c3be31dbf", func := "loop.example/g00944/laws.FnExactMirrorScheme", spec := "fnExactMirrorScheme", inPlace := ["internal/bytealg.CountString", "internal/bytealg.IndexByteString", "internal/bytealg.IndexString", "sync/atomic.LoadUint32", "(*internal/sync.Mutex).Lock", "internal/race.Disable", "sync/atomic.CompareAndSwapInt32", "internal/race.Enable", "internal/race.Acquire", "(*internal/sync.Mutex).lockSlow", "internal/sync.runtime_canSpin", "internal/sync.runtime_doSpin", "internal/sync.throw", "internal/sync.runtime_nanotime", "internal/sync.runtime_SemacquireMutex", "sync/atomic.AddInt32", "(*internal/sync.Mutex).Unlock", "internal/race.ReleaseMerge", "(*internal/sync.Mutex).unlockSlow", "internal/sync.fatal", "internal/sync.runtime_Semrelease", "sync/atomic.StoreUint32"], unfollowed := true, recurses := true, named := ["internal/bytealg.MaxLen"], plainKeys := false, apart := false }
def FnExactMirrorSchemeSaid : Prop := fnExactMirrorSchemeRow.holds Try.pinned (OpenSpec.ofChange fnExactMirrorSchemeSpec)

/-- ITS FALSE NEIGHBOUR: 'it returns false'. Refute it at one input. -/
def fnExactMirrorSchemeWrong : ChangeSpec := { name := "fnExactMirrorScheme", fn := fun _ => fun
  | [d1, d2, d3] => { results := [.lit (.bool false)], args := [d1, d2, d3] }
  | _ => none }
def FnExactMirrorSchemeWrongFalsely : Prop := fnExactMirrorSchemeRow.holds Try.pinned (OpenSpec.ofChange fnExactMirrorSchemeWrong)

/-- 'laws.FnExactFindScheme': WHATEVER THE INPUT: true; the input reads as it did. -/
def fnExactFindSchemeSpec : ChangeSpec := { name := "fnExactFindScheme", fn := fun _ => fun
  | [d1, d2, d3] => { results := [.lit (.bool true)], args := [d1, d2, d3] }
  | _ => none }
def fnExactFindSchemeRow : OpenClaim := { program := "ytcagljdebplmcaa", sum := "c64f510186b1f75a7e2b7b2d57000f510d302cab3c1493760c61029c3be31dbf", func := "loop.example/g00944/laws.FnExactFindScheme", spec := "fnExactFindScheme", unfollowed := true, recurses := true, plainKeys := false, apart := false }
def FnExactFindSchemeSaid : Prop := fnExactFindSchemeRow.holds Try.pinned (OpenSpec.ofChange fnExactFindSchemeSpec)

/-- ITS FALSE NEIGHBOUR: 'it returns false'. Refute it at one input. -/
def fnExactFindSchemeWrong : ChangeSpec := { name := "fnExactFindScheme", fn := fun _ => fun
  | [d1, d2, d3] => { results := [.lit (.bool false)], args := [d1, d2, d3] }
  | _ => none }
def FnExactFindSchemeWrongFalsely : Prop := fnExactFindSchemeRow.holds Try.pinned (OpenSpec.ofChange fnExactFindSchemeWrong)

/-- 'laws.FnExactFacesDown': WHATEVER THE INPUT: true; the input reads as it did. -/
def fnExactFacesDownSpec : ChangeSpec := { name := "fnExactFacesDown", fn := fun _ => fun
  | [d1, d2, d3] => { results := [.lit (.bool true)], args := [d1, d2, d3] }
  | _ => none }
def fnExactFacesDownRow : OpenClaim := { program := "ytcagljdebplmcaa", sum := "c64f510186b1f75a7e2b7b2d57000f510d302cab3c1493760c61029c3be31dbf", func := "loop.example/g00944/laws.FnExactFacesDown", spec := "fnExactFacesDown", inPlace := ["internal/bytealg.CountString", "internal/bytealg.IndexByteString", "internal/bytealg.IndexString"], unfollowed := true, recurses := true, named := ["internal/bytealg.MaxLen"], plainKeys := false, apart := false }
def FnExactFacesDownSaid : Prop := fnExactFacesDownRow.holds Try.pinned (OpenSpec.ofChange fnExactFacesDownSpec)

/-- ITS FALSE NEIGHBOUR: 'it returns false'. Refute it at one input. -/
def fnExactFacesDownWrong : ChangeSpec := { name := "fnExactFacesDown", fn := fun _ => fun
  | [d1, d2, d3] => { results := [.lit (.bool false)], args := [d1, d2, d3] }
  | _ => none }
def FnExactFacesDownWrongFalsely : Prop := fnExactFacesDownRow.holds Try.pinned (OpenSpec.ofChange fnExactFacesDownWrong)

/- THE SECOND FORM. 'bulk': how many values and letters a reading holds, each counted each time it is reached (what is shared counts as often as it is met; a slice's spare places count too). A statement '..UptoSaid' is the law's where the arguments, and the package variables that the reading takes, are together of bulk at most 1048576: NARROWER than '..Said'. Prove '..Said' where nothing that the law and all that it calls make is longer than what came in: it says more and counts as full. Else prove '..UptoSaid'. A law counts once. -/
mutual
def uptoBulk {H : Type} : DataW H → Nat
  | .lit (.string bytes) => bytes.length + 1
  | .lit _ => 1
  | .nil => 1
  | .ptr d => uptoBulk d + 1
  | .slice elems spare => uptoBulkAll elems + uptoBulkAll spare + 1
  | .agg parts => uptoBulkAll parts + 1
  | .iface _ d => uptoBulk d + 1
  | .map entries => uptoBulkEntries entries + 1
  | .held _ => 1
def uptoBulkAll {H : Type} : List (DataW H) → Nat
  | [] => 0
  | d :: r => uptoBulk d + uptoBulkAll r
def uptoBulkEntries {H : Type} : List (Lit × DataW H) → Nat
  | [] => 0
  | x :: r => uptoBulkEntry x + uptoBulkEntries r
def uptoBulkEntry {H : Type} : Lit × DataW H → Nat
  | (.string bytes, d) => bytes.length + uptoBulk d + 1
  | (_, d) => uptoBulk d + 1
 end
def uptoSmall : (H : Type) → List (DataW H) → Bool := fun _ ds => decide (uptoBulkAll ds ≤ 1048576)
def OpenSpec.upto (s : _root_.Go.ChangeSpec) : _root_.Go.OpenSpec := { _root_.Go.OpenSpec.ofChange s with cond := some uptoSmall }

/-- 'laws.FnFolded', WHERE WHAT IT READS IS OF BULK AT MOST 1048576: true; the input reads as it did. -/
def fnFoldedUptoRow : OpenClaim := { program := "ytcagljdebplmcaa", sum := "c64f510186b1f75a7e2b7b2d57000f510d302cab3c1493760c61029c3be31dbf", func := "loop.example/g00944/laws.FnFolded", spec := "fnFolded", inPlace := ["internal/bytealg.CountString", "internal/bytealg.IndexByteString", "internal/bytealg.IndexString"], unfollowed := true, recurses := true, named := ["internal/bytealg.MaxLen"], plainKeys := false, apart := false, narrowed := true }
def FnFoldedUptoSaid : Prop := fnFoldedUptoRow.holds Try.pinned (OpenSpec.upto fnFoldedSpec)

/-- 'laws.FnSchemes', WHERE WHAT IT READS IS OF BULK AT MOST 1048576: true; the input reads as it did. -/
def fnSchemesUptoRow : OpenClaim := { program := "ytcagljdebplmcaa", sum := "c64f510186b1f75a7e2b7b2d57000f510d302cab3c1493760c61029c3be31dbf", func := "loop.example/g00944/laws.FnSchemes", spec := "fnSchemes", inPlace := ["internal/bytealg.CountString", "internal/bytealg.IndexByteString", "internal/bytealg.IndexString"], unfollowed := true, recurses := true, named := ["internal/bytealg.MaxLen"], plainKeys := false, apart := false, narrowed := true }
def FnSchemesUptoSaid : Prop := fnSchemesUptoRow.holds Try.pinned (OpenSpec.upto fnSchemesSpec)

/-- 'laws.FnMirroredSheets', WHERE WHAT IT READS IS OF BULK AT MOST 1048576: true; the input reads as it did. -/
def fnMirroredSheetsUptoRow : OpenClaim := { program := "ytcagljdebplmcaa", sum := "c64f510186b1f75a7e2b7b2d57000f510d302cab3c1493760c61029c3be31dbf", func := "loop.example/g00944/laws.FnMirroredSheets", spec := "fnMirroredSheets", inPlace := ["internal/bytealg.CountString", "internal/bytealg.IndexByteString", "internal/bytealg.IndexString", "sync/atomic.LoadUint32", "(*internal/sync.Mutex).Lock", "internal/race.Disable", "sync/atomic.CompareAndSwapInt32", "internal/race.Enable", "internal/race.Acquire", "(*internal/sync.Mutex).lockSlow", "internal/sync.runtime_canSpin", "internal/sync.runtime_doSpin", "internal/sync.throw", "internal/sync.runtime_nanotime", "internal/sync.runtime_SemacquireMutex", "sync/atomic.AddInt32", "(*internal/sync.Mutex).Unlock", "internal/race.ReleaseMerge", "(*internal/sync.Mutex).unlockSlow", "internal/sync.fatal", "internal/sync.runtime_Semrelease", "sync/atomic.StoreUint32"], unfollowed := true, recurses := true, named := ["internal/bytealg.MaxLen"], plainKeys := false, apart := false, narrowed := true }
def FnMirroredSheetsUptoSaid : Prop := fnMirroredSheetsUptoRow.holds Try.pinned (OpenSpec.upto fnMirroredSheetsSpec)

/-- 'laws.FnExactIsScheme', WHERE WHAT IT READS IS OF BULK AT MOST 1048576: true; the input reads as it did. -/
def fnExactIsSchemeUptoRow : OpenClaim := { program := "ytcagljdebplmcaa", sum := "c64f510186b1f75a7e2b7b2d57000f510d302cab3c1493760c61029c3be31dbf", func := "loop.example/g00944/laws.FnExactIsScheme", spec := "fnExactIsScheme", inPlace := ["internal/bytealg.CountString", "internal/bytealg.IndexByteString", "internal/bytealg.IndexString"], named := ["internal/bytealg.MaxLen"], plainKeys := false, apart := false, narrowed := true }
def FnExactIsSchemeUptoSaid : Prop := fnExactIsSchemeUptoRow.holds Try.pinned (OpenSpec.upto fnExactIsSchemeSpec)

/-- 'laws.FnExactFoldSheet', WHERE WHAT IT READS IS OF BULK AT MOST 1048576: true; the input reads as it did. -/
def fnExactFoldSheetUptoRow : OpenClaim := { program := "ytcagljdebplmcaa", sum := "c64f510186b1f75a7e2b7b2d57000f510d302cab3c1493760c61029c3be31dbf", func := "loop.example/g00944/laws.FnExactFoldSheet", spec := "fnExactFoldSheet", inPlace := ["internal/bytealg.CountString", "internal/bytealg.IndexByteString", "internal/bytealg.IndexString"], unfollowed := true, recurses := true, named := ["internal/bytealg.MaxLen"], plainKeys := false, apart := false, narrowed := true }
def FnExactFoldSheetUptoSaid : Prop := fnExactFoldSheetUptoRow.holds Try.pinned (OpenSpec.upto fnExactFoldSheetSpec)

/-- 'laws.FnExactSchemesOf', WHERE WHAT IT READS IS OF BULK AT MOST 1048576: true; the input reads as it did. -/
def fnExactSchemesOfUptoRow : OpenClaim := { program := "ytcagljdebplmcaa", sum := "c64f510186b1f75a7e2b7b2d57000f510d302cab3c1493760c61029c3be31dbf", func := "loop.example/g00944/laws.FnExactSchemesOf", spec := "fnExactSchemesOf", unfollowed := true, recurses := true, plainKeys := false, apart := false, narrowed := true }
def FnExactSchemesOfUptoSaid : Prop := fnExactSchemesOfUptoRow.holds Try.pinned (OpenSpec.upto fnExactSchemesOfSpec)

/-- 'laws.FnExactCountSchemes', WHERE WHAT IT READS IS OF BULK AT MOST 1048576: true; the input reads as it did. -/
def fnExactCountSchemesUptoRow : OpenClaim := { program := "ytcagljdebplmcaa", sum := "c64f510186b1f75a7e2b7b2d57000f510d302cab3c1493760c61029c3be31dbf", func := "loop.example/g00944/laws.FnExactCountSchemes", spec := "fnExactCountSchemes", unfollowed := true, recurses := true, plainKeys := false, apart := false, narrowed := true }
def FnExactCountSchemesUptoSaid : Prop := fnExactCountSchemesUptoRow.holds Try.pinned (OpenSpec.upto fnExactCountSchemesSpec)

/-- 'laws.FnExactLeafOf', WHERE WHAT IT READS IS OF BULK AT MOST 1048576: true; the input reads as it did. -/
def fnExactLeafOfUptoRow : OpenClaim := { program := "ytcagljdebplmcaa", sum := "c64f510186b1f75a7e2b7b2d57000f510d302cab3c1493760c61029c3be31dbf", func := "loop.example/g00944/laws.FnExactLeafOf", spec := "fnExactLeafOf", inPlace := ["internal/bytealg.CountString", "internal/bytealg.IndexByteString", "internal/bytealg.IndexString"], unfollowed := true, recurses := true, named := ["internal/bytealg.MaxLen"], plainKeys := false, apart := false, narrowed := true }
def FnExactLeafOfUptoSaid : Prop := fnExactLeafOfUptoRow.holds Try.pinned (OpenSpec.upto fnExactLeafOfSpec)

/-- 'laws.FnExactMirrorScheme', WHERE WHAT IT READS IS OF BULK AT MOST 1048576: true; the input reads as it did. -/
def fnExactMirrorSchemeUptoRow : OpenClaim := { program := "ytcagljdebplmcaa", sum := "c64f510186b1f75a7e2b7b2d57000f510d302cab3c1493760c61029c3be31dbf", func := "loop.example/g00944/laws.FnExactMirrorScheme", spec := "fnExactMirrorScheme", inPlace := ["internal/bytealg.CountString", "internal/bytealg.IndexByteString", "internal/bytealg.IndexString", "sync/atomic.LoadUint32", "(*internal/sync.Mutex).Lock", "internal/race.Disable", "sync/atomic.CompareAndSwapInt32", "internal/race.Enable", "internal/race.Acquire", "(*internal/sync.Mutex).lockSlow", "internal/sync.runtime_canSpin", "internal/sync.runtime_doSpin", "internal/sync.throw", "internal/sync.runtime_nanotime", "internal/sync.runtime_SemacquireMutex", "sync/atomic.AddInt32", "(*internal/sync.Mutex).Unlock", "internal/race.ReleaseMerge", "(*internal/sync.Mutex).unlockSlow", "internal/sync.fatal", "internal/sync.runtime_Semrelease", "sync/atomic.StoreUint32"], unfollowed := true, recurses := true, named := ["internal/bytealg.MaxLen"], plainKeys := false, apart := false, narrowed := true }
def FnExactMirrorSchemeUptoSaid : Prop := fnExactMirrorSchemeUptoRow.holds Try.pinned (OpenSpec.upto fnExactMirrorSchemeSpec)

/-- 'laws.FnExactFindScheme', WHERE WHAT IT READS IS OF BULK AT MOST 1048576: true; the input reads as it did. -/
def fnExactFindSchemeUptoRow : OpenClaim := { program := "ytcagljdebplmcaa", sum := "c64f510186b1f75a7e2b7b2d57000f510d302cab3c1493760c61029c3be31dbf", func := "loop.example/g00944/laws.FnExactFindScheme", spec := "fnExactFindScheme", unfollowed := true, recurses := true, plainKeys := false, apart := false, narrowed := true }
def FnExactFindSchemeUptoSaid : Prop := fnExactFindSchemeUptoRow.holds Try.pinned (OpenSpec.upto fnExactFindSchemeSpec)

/-- 'laws.FnExactFacesDown', WHERE WHAT IT READS IS OF BULK AT MOST 1048576: true; the input reads as it did. -/
def fnExactFacesDownUptoRow : OpenClaim := { program := "ytcagljdebplmcaa", sum := "c64f510186b1f75a7e2b7b2d57000f510d302cab3c1493760c61029c3be31dbf", func := "loop.example/g00944/laws.FnExactFacesDown", spec := "fnExactFacesDown", inPlace := ["internal/bytealg.CountString", "internal/bytealg.IndexByteString", "internal/bytealg.IndexString"], unfollowed := true, recurses := true, named := ["internal/bytealg.MaxLen"], plainKeys := false, apart := false, narrowed := true }
def FnExactFacesDownUptoSaid : Prop := fnExactFacesDownUptoRow.holds Try.pinned (OpenSpec.upto fnExactFacesDownSpec)

end Rows
end Go.Proofs.Ytcagljdebplmcaa
