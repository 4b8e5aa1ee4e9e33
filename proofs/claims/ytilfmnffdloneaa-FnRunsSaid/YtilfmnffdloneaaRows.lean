/-
  No cell of these rows narrows 'for every input' (looked for: loops, veiled, ifaces, maps, wideKeys, modest, calm, conditions, laid).
  DERIVED. THE GIVEN ROWS OF THIS SEAT. 10 by the template 'for every input the law returns true; each argument reads behind the call as it read before'; 0 by the template 'total and deterministic' (their statements: YtilfmnffdloneaaTotals.lean).
  GIVEN WITH THE SEED: the statements are not yours to turn. If you find one false, say at which input.
  Laid BY PROGRAM, IN A SANDBOX (cutbox-rows.mjs): the forced cells as the released guide's own fill.sh prints them over the translation 4d0ad60d671387ef… (all of the seat's roots in one cut). By AI agents, Wed Nov 11 2026. No macro, syntax, notation, axiom, sorry.
-/
import Derived.Test.YtilfmnffdloneaaChecked
import GoSem.Claim
import GoSem.ClaimJoined
import GoSem.ClaimMapViews
import Derived.JoinedTies
import Derived.KernelRfl
namespace Go.Proofs.Ytilfmnffdloneaa
/- THE CELL 'sum', in the pinned program and in every row, IS THE sha256 OF THE DUMP (.gsa) THAT YtilfmnffdloneaaProg.lean LOADS. Nothing in Lean hashes anything: it is a label: what it is worth is what the hold of that sum in a sandbox is worth. -/
noncomputable def Try.pinned : Pinned := { name := "ytilfmnffdloneaa", sum := "4d0ad60d671387ef90f82f5d01e2a8962cae58be49e8a504d9b9c2641dc5b923", checked := Try.checked }
namespace Rows
def none {H : Type} : Left H := { results := [], args := [] }

/-- 'laws.FnRuns': WHATEVER THE INPUT: true; the input reads as it did. -/
def fnRunsSpec : ChangeSpec := { name := "fnRuns", fn := fun _ => fun
  | [d] => { results := [.lit (.bool true)], args := [d] }
  | _ => none }
def fnRunsRow : OpenClaim := { program := "ytilfmnffdloneaa", sum := "4d0ad60d671387ef90f82f5d01e2a8962cae58be49e8a504d9b9c2641dc5b923", func := "loop.example/g00944/laws.FnRuns", spec := "fnRuns", unfollowed := true, recurses := true, leaving := true, apart := false }
def FnRunsSaid : Prop := fnRunsRow.holds Try.pinned (OpenSpec.ofChange fnRunsSpec)

/-- ITS FALSE NEIGHBOUR: 'it returns false'. Refute it at one input. -/
def fnRunsWrong : ChangeSpec := { name := "fnRuns", fn := fun _ => fun
  | [d] => { results := [.lit (.bool false)], args := [d] }
  | _ => none }
def FnRunsWrongFalsely : Prop := fnRunsRow.holds Try.pinned (OpenSpec.ofChange fnRunsWrong)

/-- 'laws.FnDivisions': WHATEVER THE INPUT: true; the input reads as it did. -/
def fnDivisionsSpec : ChangeSpec := { name := "fnDivisions", fn := fun _ => fun
  | [d] => { results := [.lit (.bool true)], args := [d] }
  | _ => none }
def fnDivisionsRow : OpenClaim := { program := "ytilfmnffdloneaa", sum := "4d0ad60d671387ef90f82f5d01e2a8962cae58be49e8a504d9b9c2641dc5b923", func := "loop.example/g00944/laws.FnDivisions", spec := "fnDivisions", inPlace := ["(*sync.WaitGroup).Add", "internal/race.ReleaseMerge", "internal/race.Disable", "internal/race.Enable", "internal/synctest.IsInBubble", "internal/synctest.Associate[sync.WaitGroup]", "sync.fatal", "sync/atomic.OrUint64", "sync/atomic.AddUint64", "internal/race.Read", "sync/atomic.LoadUint64", "sync/atomic.StoreUint64", "internal/synctest.Disassociate[sync.WaitGroup]", "sync.runtime_Semrelease", "(*sync.WaitGroup).Done", "(*sync.WaitGroup).Wait", "internal/race.Acquire", "internal/synctest.IsAssociated[sync.WaitGroup]", "sync/atomic.CompareAndSwapUint64", "internal/race.Write", "sync.runtime_SemacquireWaitGroup"], unfollowed := true, recurses := true, leaving := true, apart := false }
def FnDivisionsSaid : Prop := fnDivisionsRow.holds Try.pinned (OpenSpec.ofChange fnDivisionsSpec)

/-- ITS FALSE NEIGHBOUR: 'it returns false'. Refute it at one input. -/
def fnDivisionsWrong : ChangeSpec := { name := "fnDivisions", fn := fun _ => fun
  | [d] => { results := [.lit (.bool false)], args := [d] }
  | _ => none }
def FnDivisionsWrongFalsely : Prop := fnDivisionsRow.holds Try.pinned (OpenSpec.ofChange fnDivisionsWrong)

/-- 'laws.FnExactIsGang': WHATEVER THE INPUT: true; the input reads as it did. -/
def fnExactIsGangSpec : ChangeSpec := { name := "fnExactIsGang", fn := fun _ => fun
  | [d1, d2] => { results := [.lit (.bool true)], args := [d1, d2] }
  | _ => none }
def fnExactIsGangRow : OpenClaim := { program := "ytilfmnffdloneaa", sum := "4d0ad60d671387ef90f82f5d01e2a8962cae58be49e8a504d9b9c2641dc5b923", func := "loop.example/g00944/laws.FnExactIsGang", spec := "fnExactIsGang", apart := false }
def FnExactIsGangSaid : Prop := fnExactIsGangRow.holds Try.pinned (OpenSpec.ofChange fnExactIsGangSpec)

/-- ITS FALSE NEIGHBOUR: 'it returns false'. Refute it at one input. -/
def fnExactIsGangWrong : ChangeSpec := { name := "fnExactIsGang", fn := fun _ => fun
  | [d1, d2] => { results := [.lit (.bool false)], args := [d1, d2] }
  | _ => none }
def FnExactIsGangWrongFalsely : Prop := fnExactIsGangRow.holds Try.pinned (OpenSpec.ofChange fnExactIsGangWrong)

/-- 'laws.FnExactRunFor': WHATEVER THE INPUT: true; the input reads as it did. -/
def fnExactRunForSpec : ChangeSpec := { name := "fnExactRunFor", fn := fun _ => fun
  | [d1, d2, d3] => { results := [.lit (.bool true)], args := [d1, d2, d3] }
  | _ => none }
def fnExactRunForRow : OpenClaim := { program := "ytilfmnffdloneaa", sum := "4d0ad60d671387ef90f82f5d01e2a8962cae58be49e8a504d9b9c2641dc5b923", func := "loop.example/g00944/laws.FnExactRunFor", spec := "fnExactRunFor", apart := false }
def FnExactRunForSaid : Prop := fnExactRunForRow.holds Try.pinned (OpenSpec.ofChange fnExactRunForSpec)

/-- ITS FALSE NEIGHBOUR: 'it returns false'. Refute it at one input. -/
def fnExactRunForWrong : ChangeSpec := { name := "fnExactRunFor", fn := fun _ => fun
  | [d1, d2, d3] => { results := [.lit (.bool false)], args := [d1, d2, d3] }
  | _ => none }
def FnExactRunForWrongFalsely : Prop := fnExactRunForRow.holds Try.pinned (OpenSpec.ofChange fnExactRunForWrong)

/-- 'laws.FnExactOversOf': WHATEVER THE INPUT: true; the input reads as it did. -/
def fnExactOversOfSpec : ChangeSpec := { name := "fnExactOversOf", fn := fun _ => fun
  | [d1, d2, d3] => { results := [.lit (.bool true)], args := [d1, d2, d3] }
  | _ => none }
def fnExactOversOfRow : OpenClaim := { program := "ytilfmnffdloneaa", sum := "4d0ad60d671387ef90f82f5d01e2a8962cae58be49e8a504d9b9c2641dc5b923", func := "loop.example/g00944/laws.FnExactOversOf", spec := "fnExactOversOf", apart := false }
def FnExactOversOfSaid : Prop := fnExactOversOfRow.holds Try.pinned (OpenSpec.ofChange fnExactOversOfSpec)

/-- ITS FALSE NEIGHBOUR: 'it returns false'. Refute it at one input. -/
def fnExactOversOfWrong : ChangeSpec := { name := "fnExactOversOf", fn := fun _ => fun
  | [d1, d2, d3] => { results := [.lit (.bool false)], args := [d1, d2, d3] }
  | _ => none }
def FnExactOversOfWrongFalsely : Prop := fnExactOversOfRow.holds Try.pinned (OpenSpec.ofChange fnExactOversOfWrong)

/-- 'laws.FnExactUpsFor': WHATEVER THE INPUT: true; the input reads as it did. -/
def fnExactUpsForSpec : ChangeSpec := { name := "fnExactUpsFor", fn := fun _ => fun
  | [d1, d2, d3] => { results := [.lit (.bool true)], args := [d1, d2, d3] }
  | _ => none }
def fnExactUpsForRow : OpenClaim := { program := "ytilfmnffdloneaa", sum := "4d0ad60d671387ef90f82f5d01e2a8962cae58be49e8a504d9b9c2641dc5b923", func := "loop.example/g00944/laws.FnExactUpsFor", spec := "fnExactUpsFor", apart := false }
def FnExactUpsForSaid : Prop := fnExactUpsForRow.holds Try.pinned (OpenSpec.ofChange fnExactUpsForSpec)

/-- ITS FALSE NEIGHBOUR: 'it returns false'. Refute it at one input. -/
def fnExactUpsForWrong : ChangeSpec := { name := "fnExactUpsFor", fn := fun _ => fun
  | [d1, d2, d3] => { results := [.lit (.bool false)], args := [d1, d2, d3] }
  | _ => none }
def FnExactUpsForWrongFalsely : Prop := fnExactUpsForRow.holds Try.pinned (OpenSpec.ofChange fnExactUpsForWrong)

/-- 'laws.FnExactLeastRun': WHATEVER THE INPUT: true; the input reads as it did. -/
def fnExactLeastRunSpec : ChangeSpec := { name := "fnExactLeastRun", fn := fun _ => fun
  | [d1, d2] => { results := [.lit (.bool true)], args := [d1, d2] }
  | _ => none }
def fnExactLeastRunRow : OpenClaim := { program := "ytilfmnffdloneaa", sum := "4d0ad60d671387ef90f82f5d01e2a8962cae58be49e8a504d9b9c2641dc5b923", func := "loop.example/g00944/laws.FnExactLeastRun", spec := "fnExactLeastRun", unfollowed := true, recurses := true, leaving := true, apart := false }
def FnExactLeastRunSaid : Prop := fnExactLeastRunRow.holds Try.pinned (OpenSpec.ofChange fnExactLeastRunSpec)

/-- ITS FALSE NEIGHBOUR: 'it returns false'. Refute it at one input. -/
def fnExactLeastRunWrong : ChangeSpec := { name := "fnExactLeastRun", fn := fun _ => fun
  | [d1, d2] => { results := [.lit (.bool false)], args := [d1, d2] }
  | _ => none }
def FnExactLeastRunWrongFalsely : Prop := fnExactLeastRunRow.holds Try.pinned (OpenSpec.ofChange fnExactLeastRunWrong)

/-- 'laws.FnExactBestUps': WHATEVER THE INPUT: true; the input reads as it did. -/
def fnExactBestUpsSpec : ChangeSpec := { name := "fnExactBestUps", fn := fun _ => fun
  | [d1, d2] => { results := [.lit (.bool true)], args := [d1, d2] }
  | _ => none }
def fnExactBestUpsRow : OpenClaim := { program := "ytilfmnffdloneaa", sum := "4d0ad60d671387ef90f82f5d01e2a8962cae58be49e8a504d9b9c2641dc5b923", func := "loop.example/g00944/laws.FnExactBestUps", spec := "fnExactBestUps", unfollowed := true, recurses := true, leaving := true, apart := false }
def FnExactBestUpsSaid : Prop := fnExactBestUpsRow.holds Try.pinned (OpenSpec.ofChange fnExactBestUpsSpec)

/-- ITS FALSE NEIGHBOUR: 'it returns false'. Refute it at one input. -/
def fnExactBestUpsWrong : ChangeSpec := { name := "fnExactBestUps", fn := fun _ => fun
  | [d1, d2] => { results := [.lit (.bool false)], args := [d1, d2] }
  | _ => none }
def FnExactBestUpsWrongFalsely : Prop := fnExactBestUpsRow.holds Try.pinned (OpenSpec.ofChange fnExactBestUpsWrong)

/-- 'laws.FnExactDividedCost': WHATEVER THE INPUT: true; the input reads as it did. -/
def fnExactDividedCostSpec : ChangeSpec := { name := "fnExactDividedCost", fn := fun _ => fun
  | [d1, d2, d3, d4] => { results := [.lit (.bool true)], args := [d1, d2, d3, d4] }
  | _ => none }
def fnExactDividedCostRow : OpenClaim := { program := "ytilfmnffdloneaa", sum := "4d0ad60d671387ef90f82f5d01e2a8962cae58be49e8a504d9b9c2641dc5b923", func := "loop.example/g00944/laws.FnExactDividedCost", spec := "fnExactDividedCost", unfollowed := true, recurses := true, leaving := true, apart := false }
def FnExactDividedCostSaid : Prop := fnExactDividedCostRow.holds Try.pinned (OpenSpec.ofChange fnExactDividedCostSpec)

/-- ITS FALSE NEIGHBOUR: 'it returns false'. Refute it at one input. -/
def fnExactDividedCostWrong : ChangeSpec := { name := "fnExactDividedCost", fn := fun _ => fun
  | [d1, d2, d3, d4] => { results := [.lit (.bool false)], args := [d1, d2, d3, d4] }
  | _ => none }
def FnExactDividedCostWrongFalsely : Prop := fnExactDividedCostRow.holds Try.pinned (OpenSpec.ofChange fnExactDividedCostWrong)

/-- 'laws.FnExactBestDivision': WHATEVER THE INPUT: true; the input reads as it did. -/
def fnExactBestDivisionSpec : ChangeSpec := { name := "fnExactBestDivision", fn := fun _ => fun
  | [d1, d2, d3] => { results := [.lit (.bool true)], args := [d1, d2, d3] }
  | _ => none }
def fnExactBestDivisionRow : OpenClaim := { program := "ytilfmnffdloneaa", sum := "4d0ad60d671387ef90f82f5d01e2a8962cae58be49e8a504d9b9c2641dc5b923", func := "loop.example/g00944/laws.FnExactBestDivision", spec := "fnExactBestDivision", inPlace := ["(*sync.WaitGroup).Add", "internal/race.ReleaseMerge", "internal/race.Disable", "internal/race.Enable", "internal/synctest.IsInBubble", "internal/synctest.Associate[sync.WaitGroup]", "sync.fatal", "sync/atomic.OrUint64", "sync/atomic.AddUint64", "internal/race.Read", "sync/atomic.LoadUint64", "sync/atomic.StoreUint64", "internal/synctest.Disassociate[sync.WaitGroup]", "sync.runtime_Semrelease", "(*sync.WaitGroup).Done", "(*sync.WaitGroup).Wait", "internal/race.Acquire", "internal/synctest.IsAssociated[sync.WaitGroup]", "sync/atomic.CompareAndSwapUint64", "internal/race.Write", "sync.runtime_SemacquireWaitGroup"], unfollowed := true, recurses := true, leaving := true, apart := false }
def FnExactBestDivisionSaid : Prop := fnExactBestDivisionRow.holds Try.pinned (OpenSpec.ofChange fnExactBestDivisionSpec)

/-- ITS FALSE NEIGHBOUR: 'it returns false'. Refute it at one input. -/
def fnExactBestDivisionWrong : ChangeSpec := { name := "fnExactBestDivision", fn := fun _ => fun
  | [d1, d2, d3] => { results := [.lit (.bool false)], args := [d1, d2, d3] }
  | _ => none }
def FnExactBestDivisionWrongFalsely : Prop := fnExactBestDivisionRow.holds Try.pinned (OpenSpec.ofChange fnExactBestDivisionWrong)

/- THE SECOND FORM. 'bulk': how many values and letters a reading holds, each counted each time it is reached (what is shared counts as often as it is met; a slice's spare places count too). A statement '..UptoSaid' is the law's where the arguments, and the package variables that the reading takes, are together of bulk at most 1048576: NARROWER than '..Said'. Prove '..Said' where nothing that the law and all that it calls make is longer than what came in: it says more and counts as full. Else prove '..UptoSaid'. A law counts once. -/
mutual
def uptoBulk {H : Type} : DataW H → Nat
  | .lit (.string bytes) => bytes.length + 1
  | .lit _ => 1
  | .nil => 1
  | .ptr d => uptoBulk d + 1
  | .slice elems spare => uptoBulkAll elems + uptoBulkAll spare + 1
  | .agg parts => uptoBulkAll parts + 1
  | .iface _ d => uptoBulk d + 1
  | .map entries => uptoBulkEntries entries + 1
  | .held _ => 1
def uptoBulkAll {H : Type} : List (DataW H) → Nat
  | [] => 0
  | d :: r => uptoBulk d + uptoBulkAll r
def uptoBulkEntries {H : Type} : List (Lit × DataW H) → Nat
  | [] => 0
  | x :: r => uptoBulkEntry x + uptoBulkEntries r
def uptoBulkEntry {H : Type} : Lit × DataW H → Nat
  | (.string bytes, d) => bytes.length + uptoBulk d + 1
  | (_, d) => uptoBulk d + 1
 end
def uptoSmall : (H : Type) → List (DataW H) → Bool := fun _ ds => decide (uptoBulkAll ds ≤ 1048576)
def OpenSpec.upto (s : _root_.Go.ChangeSpec) : _root_.Go.OpenSpec := { _root_.Go.OpenSpec.ofChange s with cond := some uptoSmall }

/-- 'laws.FnRuns', WHERE WHAT IT READS IS OF BULK AT MOST 1048576: true; the input reads as it did. -/
def fnRunsUptoRow : OpenClaim := { program := "ytilfmnffdloneaa", sum := "4d0ad60d671387ef90f82f5d01e2a8962cae58be49e8a504d9b9c2641dc5b923", func := "loop.example/g00944/laws.FnRuns", spec := "fnRuns", unfollowed := true, recurses := true, leaving := true, apart := false, narrowed := true }
def FnRunsUptoSaid : Prop := fnRunsUptoRow.holds Try.pinned (OpenSpec.upto fnRunsSpec)

/-- 'laws.FnDivisions', WHERE WHAT IT READS IS OF BULK AT MOST 1048576: true; the input reads as it did. -/
def fnDivisionsUptoRow : OpenClaim := { program := "ytilfmnffdloneaa", sum := "4d0ad60d671387ef90f82f5d01e2a8962cae58be49e8a504d9b9c2641dc5b923", func := "loop.example/g00944/laws.FnDivisions", spec := "fnDivisions", inPlace := ["(*sync.WaitGroup).Add", "internal/race.ReleaseMerge", "internal/race.Disable", "internal/race.Enable", "internal/synctest.IsInBubble", "internal/synctest.Associate[sync.WaitGroup]", "sync.fatal", "sync/atomic.OrUint64", "sync/atomic.AddUint64", "internal/race.Read", "sync/atomic.LoadUint64", "sync/atomic.StoreUint64", "internal/synctest.Disassociate[sync.WaitGroup]", "sync.runtime_Semrelease", "(*sync.WaitGroup).Done", "(*sync.WaitGroup).Wait", "internal/race.Acquire", "internal/synctest.IsAssociated[sync.WaitGroup]", "sync/atomic.CompareAndSwapUint64", "internal/race.Write", "sync.runtime_SemacquireWaitGroup"], unfollowed := true, recurses := true, leaving := true, apart := false, narrowed := true }
def FnDivisionsUptoSaid : Prop := fnDivisionsUptoRow.holds Try.pinned (OpenSpec.upto fnDivisionsSpec)

/-- 'laws.FnExactIsGang', WHERE WHAT IT READS IS OF BULK AT MOST 1048576: true; the input reads as it did. -/
def fnExactIsGangUptoRow : OpenClaim := { program := "ytilfmnffdloneaa", sum := "4d0ad60d671387ef90f82f5d01e2a8962cae58be49e8a504d9b9c2641dc5b923", func := "loop.example/g00944/laws.FnExactIsGang", spec := "fnExactIsGang", apart := false, narrowed := true }
def FnExactIsGangUptoSaid : Prop := fnExactIsGangUptoRow.holds Try.pinned (OpenSpec.upto fnExactIsGangSpec)

/-- 'laws.FnExactRunFor', WHERE WHAT IT READS IS OF BULK AT MOST 1048576: true; the input reads as it did. -/
def fnExactRunForUptoRow : OpenClaim := { program := "ytilfmnffdloneaa", sum := "4d0ad60d671387ef90f82f5d01e2a8962cae58be49e8a504d9b9c2641dc5b923", func := "loop.example/g00944/laws.FnExactRunFor", spec := "fnExactRunFor", apart := false, narrowed := true }
def FnExactRunForUptoSaid : Prop := fnExactRunForUptoRow.holds Try.pinned (OpenSpec.upto fnExactRunForSpec)

/-- 'laws.FnExactOversOf', WHERE WHAT IT READS IS OF BULK AT MOST 1048576: true; the input reads as it did. -/
def fnExactOversOfUptoRow : OpenClaim := { program := "ytilfmnffdloneaa", sum := "4d0ad60d671387ef90f82f5d01e2a8962cae58be49e8a504d9b9c2641dc5b923", func := "loop.example/g00944/laws.FnExactOversOf", spec := "fnExactOversOf", apart := false, narrowed := true }
def FnExactOversOfUptoSaid : Prop := fnExactOversOfUptoRow.holds Try.pinned (OpenSpec.upto fnExactOversOfSpec)

/-- 'laws.FnExactUpsFor', WHERE WHAT IT READS IS OF BULK AT MOST 1048576: true; the input reads as it did. -/
def fnExactUpsForUptoRow : OpenClaim := { program := "ytilfmnffdloneaa", sum := "4d0ad60d671387ef90f82f5d01e2a8962cae58be49e8a504d9b9c2641dc5b923", func := "loop.example/g00944/laws.FnExactUpsFor", spec := "fnExactUpsFor", apart := false, narrowed := true }
def FnExactUpsForUptoSaid : Prop := fnExactUpsForUptoRow.holds Try.pinned (OpenSpec.upto fnExactUpsForSpec)

/-- 'laws.FnExactLeastRun', WHERE WHAT IT READS IS OF BULK AT MOST 1048576: true; the input reads as it did. -/
def fnExactLeastRunUptoRow : OpenClaim := { program := "ytilfmnffdloneaa", sum := "4d0ad60d671387ef90f82f5d01e2a8962cae58be49e8a504d9b9c2641dc5b923", func := "loop.example/g00944/laws.FnExactLeastRun", spec := "fnExactLeastRun", unfollowed := true, recurses := true, leaving := true, apart := false, narrowed := true }
def FnExactLeastRunUptoSaid : Prop := fnExactLeastRunUptoRow.holds Try.pinned (OpenSpec.upto fnExactLeastRunSpec)

/-- 'laws.FnExactBestUps', WHERE WHAT IT READS IS OF BULK AT MOST 1048576: true; the input reads as it did. -/
def fnExactBestUpsUptoRow : OpenClaim := { program := "ytilfmnffdloneaa", sum := "4d0ad60d671387ef90f82f5d01e2a8962cae58be49e8a504d9b9c2641dc5b923", func := "loop.example/g00944/laws.FnExactBestUps", spec := "fnExactBestUps", unfollowed := true, recurses := true, leaving := true, apart := false, narrowed := true }
def FnExactBestUpsUptoSaid : Prop := fnExactBestUpsUptoRow.holds Try.pinned (OpenSpec.upto fnExactBestUpsSpec)

/-- 'laws.FnExactDividedCost', WHERE WHAT IT READS IS OF BULK AT MOST 1048576: true; the input reads as it did. -/
def fnExactDividedCostUptoRow : OpenClaim := { program := "ytilfmnffdloneaa", sum := "4d0ad60d671387ef90f82f5d01e2a8962cae58be49e8a504d9b9c2641dc5b923", func := "loop.example/g00944/laws.FnExactDividedCost", spec := "fnExactDividedCost", unfollowed := true, recurses := true, leaving := true, apart := false, narrowed := true }
def FnExactDividedCostUptoSaid : Prop := fnExactDividedCostUptoRow.holds Try.pinned (OpenSpec.upto fnExactDividedCostSpec)

/-- 'laws.FnExactBestDivision', WHERE WHAT IT READS IS OF BULK AT MOST 1048576: true; the input reads as it did. -/
def fnExactBestDivisionUptoRow : OpenClaim := { program := "ytilfmnffdloneaa", sum := "4d0ad60d671387ef90f82f5d01e2a8962cae58be49e8a504d9b9c2641dc5b923", func := "loop.example/g00944/laws.FnExactBestDivision", spec := "fnExactBestDivision", inPlace := ["(*sync.WaitGroup).Add", "internal/race.ReleaseMerge", "internal/race.Disable", "internal/race.Enable", "internal/synctest.IsInBubble", "internal/synctest.Associate[sync.WaitGroup]", "sync.fatal", "sync/atomic.OrUint64", "sync/atomic.AddUint64", "internal/race.Read", "sync/atomic.LoadUint64", "sync/atomic.StoreUint64", "internal/synctest.Disassociate[sync.WaitGroup]", "sync.runtime_Semrelease", "(*sync.WaitGroup).Done", "(*sync.WaitGroup).Wait", "internal/race.Acquire", "internal/synctest.IsAssociated[sync.WaitGroup]", "sync/atomic.CompareAndSwapUint64", "internal/race.Write", "sync.runtime_SemacquireWaitGroup"], unfollowed := true, recurses := true, leaving := true, apart := false, narrowed := true }
def FnExactBestDivisionUptoSaid : Prop := fnExactBestDivisionUptoRow.holds Try.pinned (OpenSpec.upto fnExactBestDivisionSpec)

end Rows
end Go.Proofs.Ytilfmnffdloneaa
