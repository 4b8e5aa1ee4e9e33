/-
  No cell of these rows narrows 'for every input' (looked for: loops, veiled, ifaces, maps, wideKeys, modest, calm, conditions, laid).
  DERIVED. THE GIVEN ROWS OF THIS SEAT. 7 by the template 'for every input the law returns true; each argument reads behind the call as it read before'; 0 by the template 'total and deterministic' (their statements: YtoanopgafihjiaaTotals.lean).
  GIVEN WITH THE SEED: the statements are not yours to turn. If you find one false, say at which input.
  Laid BY PROGRAM, IN A SANDBOX (cutbox-rows.mjs): the forced cells as the released guide's own fill.sh prints them over the translation 1ec891538e39e957… (all of the seat's roots in one cut). By AI agents, Wed Nov 11 2026. No macro, syntax, notation, axiom, sorry.
-/
import Derived.Test.YtoanopgafihjiaaChecked
import GoSem.Claim
import GoSem.ClaimJoined
import GoSem.ClaimMapViews
import Derived.JoinedTies
import Derived.KernelRfl
namespace Go.Proofs.Ytoanopgafihjiaa
/- THE CELL 'sum', in the pinned program and in every row, IS THE sha256 OF THE DUMP (.gsa) THAT YtoanopgafihjiaaProg.lean LOADS. Nothing in Lean hashes anything: it is a label: what it is worth is what the hold of that sum in a sandbox is worth. -/
noncomputable def Try.pinned : Pinned := { name := "ytoanopgafihjiaa", sum := "1ec891538e39e9571381ef185fbdf1451fbf1381e4ff620bdefea641e9ee8457", checked := Try.checked }
namespace Rows
def none {H : Type} : Left H := { results := [], args := [] }

/-- 'laws.FnChapters': WHATEVER THE INPUT: true; the input reads as it did. -/
def fnChaptersSpec : ChangeSpec := { name := "fnChapters", fn := fun _ => fun
  | [d] => { results := [.lit (.bool true)], args := [d] }
  | _ => none }
def fnChaptersRow : OpenClaim := { program := "ytoanopgafihjiaa", sum := "1ec891538e39e9571381ef185fbdf1451fbf1381e4ff620bdefea641e9ee8457", func := "loop.example/g00944/laws.FnChapters", spec := "fnChapters", apart := false }
def FnChaptersSaid : Prop := fnChaptersRow.holds Try.pinned (OpenSpec.ofChange fnChaptersSpec)

/-- ITS FALSE NEIGHBOUR: 'it returns false'. Refute it at one input. -/
def fnChaptersWrong : ChangeSpec := { name := "fnChapters", fn := fun _ => fun
  | [d] => { results := [.lit (.bool false)], args := [d] }
  | _ => none }
def FnChaptersWrongFalsely : Prop := fnChaptersRow.holds Try.pinned (OpenSpec.ofChange fnChaptersWrong)

/-- 'laws.FnExactIsBook': WHATEVER THE INPUT: true; the input reads as it did. -/
def fnExactIsBookSpec : ChangeSpec := { name := "fnExactIsBook", fn := fun _ => fun
  | [d] => { results := [.lit (.bool true)], args := [d] }
  | _ => none }
def fnExactIsBookRow : OpenClaim := { program := "ytoanopgafihjiaa", sum := "1ec891538e39e9571381ef185fbdf1451fbf1381e4ff620bdefea641e9ee8457", func := "loop.example/g00944/laws.FnExactIsBook", spec := "fnExactIsBook", apart := false }
def FnExactIsBookSaid : Prop := fnExactIsBookRow.holds Try.pinned (OpenSpec.ofChange fnExactIsBookSpec)

/-- ITS FALSE NEIGHBOUR: 'it returns false'. Refute it at one input. -/
def fnExactIsBookWrong : ChangeSpec := { name := "fnExactIsBook", fn := fun _ => fun
  | [d] => { results := [.lit (.bool false)], args := [d] }
  | _ => none }
def FnExactIsBookWrongFalsely : Prop := fnExactIsBookRow.holds Try.pinned (OpenSpec.ofChange fnExactIsBookWrong)

/-- 'laws.FnExactChapterStarts': WHATEVER THE INPUT: true; the input reads as it did. -/
def fnExactChapterStartsSpec : ChangeSpec := { name := "fnExactChapterStarts", fn := fun _ => fun
  | [d] => { results := [.lit (.bool true)], args := [d] }
  | _ => none }
def fnExactChapterStartsRow : OpenClaim := { program := "ytoanopgafihjiaa", sum := "1ec891538e39e9571381ef185fbdf1451fbf1381e4ff620bdefea641e9ee8457", func := "loop.example/g00944/laws.FnExactChapterStarts", spec := "fnExactChapterStarts", apart := false }
def FnExactChapterStartsSaid : Prop := fnExactChapterStartsRow.holds Try.pinned (OpenSpec.ofChange fnExactChapterStartsSpec)

/-- ITS FALSE NEIGHBOUR: 'it returns false'. Refute it at one input. -/
def fnExactChapterStartsWrong : ChangeSpec := { name := "fnExactChapterStarts", fn := fun _ => fun
  | [d] => { results := [.lit (.bool false)], args := [d] }
  | _ => none }
def FnExactChapterStartsWrongFalsely : Prop := fnExactChapterStartsRow.holds Try.pinned (OpenSpec.ofChange fnExactChapterStartsWrong)

/-- 'laws.FnExactBlankPages': WHATEVER THE INPUT: true; the input reads as it did. -/
def fnExactBlankPagesSpec : ChangeSpec := { name := "fnExactBlankPages", fn := fun _ => fun
  | [d] => { results := [.lit (.bool true)], args := [d] }
  | _ => none }
def fnExactBlankPagesRow : OpenClaim := { program := "ytoanopgafihjiaa", sum := "1ec891538e39e9571381ef185fbdf1451fbf1381e4ff620bdefea641e9ee8457", func := "loop.example/g00944/laws.FnExactBlankPages", spec := "fnExactBlankPages", apart := false }
def FnExactBlankPagesSaid : Prop := fnExactBlankPagesRow.holds Try.pinned (OpenSpec.ofChange fnExactBlankPagesSpec)

/-- ITS FALSE NEIGHBOUR: 'it returns false'. Refute it at one input. -/
def fnExactBlankPagesWrong : ChangeSpec := { name := "fnExactBlankPages", fn := fun _ => fun
  | [d] => { results := [.lit (.bool false)], args := [d] }
  | _ => none }
def FnExactBlankPagesWrongFalsely : Prop := fnExactBlankPagesRow.holds Try.pinned (OpenSpec.ofChange fnExactBlankPagesWrong)

/-- 'laws.FnExactPageCount': WHATEVER THE INPUT: true; the input reads as it did. -/
def fnExactPageCountSpec : ChangeSpec := { name := "fnExactPageCount", fn := fun _ => fun
  | [d] => { results := [.lit (.bool true)], args := [d] }
  | _ => none }
def fnExactPageCountRow : OpenClaim := { program := "ytoanopgafihjiaa", sum := "1ec891538e39e9571381ef185fbdf1451fbf1381e4ff620bdefea641e9ee8457", func := "loop.example/g00944/laws.FnExactPageCount", spec := "fnExactPageCount", apart := false }
def FnExactPageCountSaid : Prop := fnExactPageCountRow.holds Try.pinned (OpenSpec.ofChange fnExactPageCountSpec)

/-- ITS FALSE NEIGHBOUR: 'it returns false'. Refute it at one input. -/
def fnExactPageCountWrong : ChangeSpec := { name := "fnExactPageCount", fn := fun _ => fun
  | [d] => { results := [.lit (.bool false)], args := [d] }
  | _ => none }
def FnExactPageCountWrongFalsely : Prop := fnExactPageCountRow.holds Try.pinned (OpenSpec.ofChange fnExactPageCountWrong)

/-- 'laws.FnExactPaddedCount': WHATEVER THE INPUT: true; the input reads as it did. -/
def fnExactPaddedCountSpec : ChangeSpec := { name := "fnExactPaddedCount", fn := fun _ => fun
  | [d1, d2] => { results := [.lit (.bool true)], args := [d1, d2] }
  | _ => none }
def fnExactPaddedCountRow : OpenClaim := { program := "ytoanopgafihjiaa", sum := "1ec891538e39e9571381ef185fbdf1451fbf1381e4ff620bdefea641e9ee8457", func := "loop.example/g00944/laws.FnExactPaddedCount", spec := "fnExactPaddedCount", apart := false }
def FnExactPaddedCountSaid : Prop := fnExactPaddedCountRow.holds Try.pinned (OpenSpec.ofChange fnExactPaddedCountSpec)

/-- ITS FALSE NEIGHBOUR: 'it returns false'. Refute it at one input. -/
def fnExactPaddedCountWrong : ChangeSpec := { name := "fnExactPaddedCount", fn := fun _ => fun
  | [d1, d2] => { results := [.lit (.bool false)], args := [d1, d2] }
  | _ => none }
def FnExactPaddedCountWrongFalsely : Prop := fnExactPaddedCountRow.holds Try.pinned (OpenSpec.ofChange fnExactPaddedCountWrong)

/-- 'laws.FnExactChapterOf': WHATEVER THE INPUT: true; the input reads as it did. -/
def fnExactChapterOfSpec : ChangeSpec := { name := "fnExactChapterOf", fn := fun _ => fun
  | [d1, d2] => { results := [.lit (.bool true)], args := [d1, d2] }
  | _ => none }
def fnExactChapterOfRow : OpenClaim := { program := "ytoanopgafihjiaa", sum := "1ec891538e39e9571381ef185fbdf1451fbf1381e4ff620bdefea641e9ee8457", func := "loop.example/g00944/laws.FnExactChapterOf", spec := "fnExactChapterOf", apart := false }
def FnExactChapterOfSaid : Prop := fnExactChapterOfRow.holds Try.pinned (OpenSpec.ofChange fnExactChapterOfSpec)

/-- ITS FALSE NEIGHBOUR: 'it returns false'. Refute it at one input. -/
def fnExactChapterOfWrong : ChangeSpec := { name := "fnExactChapterOf", fn := fun _ => fun
  | [d1, d2] => { results := [.lit (.bool false)], args := [d1, d2] }
  | _ => none }
def FnExactChapterOfWrongFalsely : Prop := fnExactChapterOfRow.holds Try.pinned (OpenSpec.ofChange fnExactChapterOfWrong)

/- THE SECOND FORM. 'bulk': how many values and letters a reading holds, each counted each time it is reached (what is shared counts as often as it is met; a slice's spare places count too). A statement '..UptoSaid' is the law's where the arguments, and the package variables that the reading takes, are together of bulk at most 1048576: NARROWER than '..Said'. Prove '..Said' where nothing that the law and all that it calls make is longer than what came in: it says more and counts as full. Else prove '..UptoSaid'. A law counts once. -/
mutual
def uptoBulk {H : Type} : DataW H → Nat
  | .lit (.string bytes) => bytes.length + 1
  | .lit _ => 1
  | .nil => 1
  | .ptr d => uptoBulk d + 1
  | .slice elems spare => uptoBulkAll elems + uptoBulkAll spare + 1
  | .agg parts => uptoBulkAll parts + 1
  | .iface _ d => uptoBulk d + 1
  | .map entries => uptoBulkEntries entries + 1
  | .held _ => 1
def uptoBulkAll {H : Type} : List (DataW H) → Nat
  | [] => 0
  | d :: r => uptoBulk d + uptoBulkAll r
def uptoBulkEntries {H : Type} : List (Lit × DataW H) → Nat
  | [] => 0
  | x :: r => uptoBulkEntry x + uptoBulkEntries r
def uptoBulkEntry {H : Type} : Lit × DataW H → Nat
  | (.string bytes, d) => bytes.length + uptoBulk d + 1
  | (_, d) => uptoBulk d + 1
 end
def uptoSmall : (H : Type) → List (DataW H) → Bool := fun _ ds => decide (uptoBulkAll ds ≤ 1048576)
def OpenSpec.upto (s : _root_.Go.ChangeSpec) : _root_.Go.OpenSpec := { _root_.Go.OpenSpec.ofChange s with cond := some uptoSmall }

/-- 'laws.FnChapters', WHERE WHAT IT READS IS OF BULK AT MOST 1048576: true; the input reads as it did. -/
def fnChaptersUptoRow : OpenClaim := { program := "ytoanopgafihjiaa", sum := "1ec891538e39e9571381ef185fbdf1451fbf1381e4ff620bdefea641e9ee8457", func := "loop.example/g00944/laws.FnChapters", spec := "fnChapters", apart := false, narrowed := true }
def FnChaptersUptoSaid : Prop := fnChaptersUptoRow.holds Try.pinned (OpenSpec.upto fnChaptersSpec)

/-- 'laws.FnExactIsBook', WHERE WHAT IT READS IS OF BULK AT MOST 1048576: true; the input reads as it did. -/
def fnExactIsBookUptoRow : OpenClaim := { program := "ytoanopgafihjiaa", sum := "1ec891538e39e9571381ef185fbdf1451fbf1381e4ff620bdefea641e9ee8457", func := "loop.example/g00944/laws.FnExactIsBook", spec := "fnExactIsBook", apart := false, narrowed := true }
def FnExactIsBookUptoSaid : Prop := fnExactIsBookUptoRow.holds Try.pinned (OpenSpec.upto fnExactIsBookSpec)

/-- 'laws.FnExactChapterStarts', WHERE WHAT IT READS IS OF BULK AT MOST 1048576: true; the input reads as it did. -/
def fnExactChapterStartsUptoRow : OpenClaim := { program := "ytoanopgafihjiaa", sum := "1ec891538e39e9571381ef185fbdf1451fbf1381e4ff620bdefea641e9ee8457", func := "loop.example/g00944/laws.FnExactChapterStarts", spec := "fnExactChapterStarts", apart := false, narrowed := true }
def FnExactChapterStartsUptoSaid : Prop := fnExactChapterStartsUptoRow.holds Try.pinned (OpenSpec.upto fnExactChapterStartsSpec)

/-- 'laws.FnExactBlankPages', WHERE WHAT IT READS IS OF BULK AT MOST 1048576: true; the input reads as it did. -/
def fnExactBlankPagesUptoRow : OpenClaim := { program := "ytoanopgafihjiaa", sum := "1ec891538e39e9571381ef185fbdf1451fbf1381e4ff620bdefea641e9ee8457", func := "loop.example/g00944/laws.FnExactBlankPages", spec := "fnExactBlankPages", apart := false, narrowed := true }
def FnExactBlankPagesUptoSaid : Prop := fnExactBlankPagesUptoRow.holds Try.pinned (OpenSpec.upto fnExactBlankPagesSpec)

/-- 'laws.FnExactPageCount', WHERE WHAT IT READS IS OF BULK AT MOST 1048576: true; the input reads as it did. -/
def fnExactPageCountUptoRow : OpenClaim := { program := "ytoanopgafihjiaa", sum := "1ec891538e39e9571381ef185fbdf1451fbf1381e4ff620bdefea641e9ee8457", func := "loop.example/g00944/laws.FnExactPageCount", spec := "fnExactPageCount", apart := false, narrowed := true }
def FnExactPageCountUptoSaid : Prop := fnExactPageCountUptoRow.holds Try.pinned (OpenSpec.upto fnExactPageCountSpec)

/-- 'laws.FnExactPaddedCount', WHERE WHAT IT READS IS OF BULK AT MOST 1048576: true; the input reads as it did. -/
def fnExactPaddedCountUptoRow : OpenClaim := { program := "ytoanopgafihjiaa", sum := "1ec891538e39e9571381ef185fbdf1451fbf1381e4ff620bdefea641e9ee8457", func := "loop.example/g00944/laws.FnExactPaddedCount", spec := "fnExactPaddedCount", apart := false, narrowed := true }
def FnExactPaddedCountUptoSaid : Prop := fnExactPaddedCountUptoRow.holds Try.pinned (OpenSpec.upto fnExactPaddedCountSpec)

/-- 'laws.FnExactChapterOf', WHERE WHAT IT READS IS OF BULK AT MOST 1048576: true; the input reads as it did. -/
def fnExactChapterOfUptoRow : OpenClaim := { program := "ytoanopgafihjiaa", sum := "1ec891538e39e9571381ef185fbdf1451fbf1381e4ff620bdefea641e9ee8457", func := "loop.example/g00944/laws.FnExactChapterOf", spec := "fnExactChapterOf", apart := false, narrowed := true }
def FnExactChapterOfUptoSaid : Prop := fnExactChapterOfUptoRow.holds Try.pinned (OpenSpec.upto fnExactChapterOfSpec)

end Rows
end Go.Proofs.Ytoanopgafihjiaa
