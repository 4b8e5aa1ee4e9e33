/-
  No cell of these rows narrows 'for every input' (looked for: loops, veiled, ifaces, maps, wideKeys, modest, calm, conditions, laid).
  DERIVED. THE GIVEN ROWS OF THIS SEAT. 9 by the template 'for every input the law returns true; each argument reads behind the call as it read before'; 0 by the template 'total and deterministic' (their statements: YtnfnmdeiaihgnaaTotals.lean).
  GIVEN WITH THE SEED: the statements are not yours to turn. If you find one false, say at which input.
  Laid BY PROGRAM, IN A SANDBOX (cutbox-rows.mjs): the forced cells as the released guide's own fill.sh prints them over the translation 47d0661dee3408a1… (all of the seat's roots in one cut). By AI agents, Wed Nov 11 2026. No macro, syntax, notation, axiom, sorry.
-/
import Derived.Test.YtnfnmdeiaihgnaaChecked
import GoSem.Claim
import GoSem.ClaimJoined
import GoSem.ClaimMapViews
import Derived.JoinedTies
import Derived.KernelRfl
namespace Go.Proofs.Ytnfnmdeiaihgnaa
/- THE CELL 'sum', in the pinned program and in every row, IS THE sha256 OF THE DUMP (.gsa) THAT YtnfnmdeiaihgnaaProg.lean LOADS. Nothing in Lean hashes anything: it is a label: what it is worth is what the hold of that sum in a sandbox is worth. -/
noncomputable def Try.pinned : Pinned := { name := "ytnfnmdeiaihgnaa", sum := "47d0661dee3408a1193c8c719bedbdd2c0eaa29cec8662dfb771cc6d441c76f0", checked := Try.checked }
namespace Rows
def none {H : Type} : Left H := { results := [], args := [] }

/-- 'laws.FnSetups': WHATEVER THE INPUT: true; the input reads as it did. -/
def fnSetupsSpec : ChangeSpec := { name := "fnSetups", fn := fun _ => fun
  | [d] => { results := [.lit (.bool true)], args := [d] }
  | _ => none }
def fnSetupsRow : OpenClaim := { program := "ytnfnmdeiaihgnaa", sum := "47d0661dee3408a1193c8c719bedbdd2c0eaa29cec8662dfb771cc6d441c76f0", func := "loop.example/g00944/laws.FnSetups", spec := "fnSetups", inPlace := ["internal/bytealg.CountString", "internal/bytealg.IndexByteString", "internal/bytealg.IndexString"], unfollowed := true, recurses := true, named := ["internal/bytealg.MaxLen"], apart := false }
def FnSetupsSaid : Prop := fnSetupsRow.holds Try.pinned (OpenSpec.ofChange fnSetupsSpec)

/-- ITS FALSE NEIGHBOUR: 'it returns false'. Refute it at one input. -/
def fnSetupsWrong : ChangeSpec := { name := "fnSetups", fn := fun _ => fun
  | [d] => { results := [.lit (.bool false)], args := [d] }
  | _ => none }
def FnSetupsWrongFalsely : Prop := fnSetupsRow.holds Try.pinned (OpenSpec.ofChange fnSetupsWrong)

/-- 'laws.FnEfforts': WHATEVER THE INPUT: true; the input reads as it did. -/
def fnEffortsSpec : ChangeSpec := { name := "fnEfforts", fn := fun _ => fun
  | [d] => { results := [.lit (.bool true)], args := [d] }
  | _ => none }
def fnEffortsRow : OpenClaim := { program := "ytnfnmdeiaihgnaa", sum := "47d0661dee3408a1193c8c719bedbdd2c0eaa29cec8662dfb771cc6d441c76f0", func := "loop.example/g00944/laws.FnEfforts", spec := "fnEfforts", apart := false }
def FnEffortsSaid : Prop := fnEffortsRow.holds Try.pinned (OpenSpec.ofChange fnEffortsSpec)

/-- ITS FALSE NEIGHBOUR: 'it returns false'. Refute it at one input. -/
def fnEffortsWrong : ChangeSpec := { name := "fnEfforts", fn := fun _ => fun
  | [d] => { results := [.lit (.bool false)], args := [d] }
  | _ => none }
def FnEffortsWrongFalsely : Prop := fnEffortsRow.holds Try.pinned (OpenSpec.ofChange fnEffortsWrong)

/-- 'laws.FnExactSetupOf': WHATEVER THE INPUT: true; the input reads as it did. -/
def fnExactSetupOfSpec : ChangeSpec := { name := "fnExactSetupOf", fn := fun _ => fun
  | [d1, d2, d3, d4] => { results := [.lit (.bool true)], args := [d1, d2, d3, d4] }
  | _ => none }
def fnExactSetupOfRow : OpenClaim := { program := "ytnfnmdeiaihgnaa", sum := "47d0661dee3408a1193c8c719bedbdd2c0eaa29cec8662dfb771cc6d441c76f0", func := "loop.example/g00944/laws.FnExactSetupOf", spec := "fnExactSetupOf", inPlace := ["internal/bytealg.CountString", "internal/bytealg.IndexByteString", "internal/bytealg.IndexString"], unfollowed := true, recurses := true, named := ["internal/bytealg.MaxLen"], apart := false }
def FnExactSetupOfSaid : Prop := fnExactSetupOfRow.holds Try.pinned (OpenSpec.ofChange fnExactSetupOfSpec)

/-- ITS FALSE NEIGHBOUR: 'it returns false'. Refute it at one input. -/
def fnExactSetupOfWrong : ChangeSpec := { name := "fnExactSetupOf", fn := fun _ => fun
  | [d1, d2, d3, d4] => { results := [.lit (.bool false)], args := [d1, d2, d3, d4] }
  | _ => none }
def FnExactSetupOfWrongFalsely : Prop := fnExactSetupOfRow.holds Try.pinned (OpenSpec.ofChange fnExactSetupOfWrong)

/-- 'laws.FnExactSchemeOfSetup': WHATEVER THE INPUT: true; the input reads as it did. -/
def fnExactSchemeOfSetupSpec : ChangeSpec := { name := "fnExactSchemeOfSetup", fn := fun _ => fun
  | [d] => { results := [.lit (.bool true)], args := [d] }
  | _ => none }
def fnExactSchemeOfSetupRow : OpenClaim := { program := "ytnfnmdeiaihgnaa", sum := "47d0661dee3408a1193c8c719bedbdd2c0eaa29cec8662dfb771cc6d441c76f0", func := "loop.example/g00944/laws.FnExactSchemeOfSetup", spec := "fnExactSchemeOfSetup", apart := false }
def FnExactSchemeOfSetupSaid : Prop := fnExactSchemeOfSetupRow.holds Try.pinned (OpenSpec.ofChange fnExactSchemeOfSetupSpec)

/-- ITS FALSE NEIGHBOUR: 'it returns false'. Refute it at one input. -/
def fnExactSchemeOfSetupWrong : ChangeSpec := { name := "fnExactSchemeOfSetup", fn := fun _ => fun
  | [d] => { results := [.lit (.bool false)], args := [d] }
  | _ => none }
def FnExactSchemeOfSetupWrongFalsely : Prop := fnExactSchemeOfSetupRow.holds Try.pinned (OpenSpec.ofChange fnExactSchemeOfSetupWrong)

/-- 'laws.FnExactFoldedSize': WHATEVER THE INPUT: true; the input reads as it did. -/
def fnExactFoldedSizeSpec : ChangeSpec := { name := "fnExactFoldedSize", fn := fun _ => fun
  | [d1, d2, d3, d4, d5] => { results := [.lit (.bool true)], args := [d1, d2, d3, d4, d5] }
  | _ => none }
def fnExactFoldedSizeRow : OpenClaim := { program := "ytnfnmdeiaihgnaa", sum := "47d0661dee3408a1193c8c719bedbdd2c0eaa29cec8662dfb771cc6d441c76f0", func := "loop.example/g00944/laws.FnExactFoldedSize", spec := "fnExactFoldedSize", inPlace := ["internal/bytealg.CountString", "internal/bytealg.IndexByteString", "internal/bytealg.IndexString"], unfollowed := true, recurses := true, named := ["internal/bytealg.MaxLen"], apart := false }
def FnExactFoldedSizeSaid : Prop := fnExactFoldedSizeRow.holds Try.pinned (OpenSpec.ofChange fnExactFoldedSizeSpec)

/-- ITS FALSE NEIGHBOUR: 'it returns false'. Refute it at one input. -/
def fnExactFoldedSizeWrong : ChangeSpec := { name := "fnExactFoldedSize", fn := fun _ => fun
  | [d1, d2, d3, d4, d5] => { results := [.lit (.bool false)], args := [d1, d2, d3, d4, d5] }
  | _ => none }
def FnExactFoldedSizeWrongFalsely : Prop := fnExactFoldedSizeRow.holds Try.pinned (OpenSpec.ofChange fnExactFoldedSizeWrong)

/-- 'laws.FnExactLayersAfter': WHATEVER THE INPUT: true; the input reads as it did. -/
def fnExactLayersAfterSpec : ChangeSpec := { name := "fnExactLayersAfter", fn := fun _ => fun
  | [d1, d2] => { results := [.lit (.bool true)], args := [d1, d2] }
  | _ => none }
def fnExactLayersAfterRow : OpenClaim := { program := "ytnfnmdeiaihgnaa", sum := "47d0661dee3408a1193c8c719bedbdd2c0eaa29cec8662dfb771cc6d441c76f0", func := "loop.example/g00944/laws.FnExactLayersAfter", spec := "fnExactLayersAfter", apart := false }
def FnExactLayersAfterSaid : Prop := fnExactLayersAfterRow.holds Try.pinned (OpenSpec.ofChange fnExactLayersAfterSpec)

/-- ITS FALSE NEIGHBOUR: 'it returns false'. Refute it at one input. -/
def fnExactLayersAfterWrong : ChangeSpec := { name := "fnExactLayersAfter", fn := fun _ => fun
  | [d1, d2] => { results := [.lit (.bool false)], args := [d1, d2] }
  | _ => none }
def FnExactLayersAfterWrongFalsely : Prop := fnExactLayersAfterRow.holds Try.pinned (OpenSpec.ofChange fnExactLayersAfterWrong)

/-- 'laws.FnExactCountChanges': WHATEVER THE INPUT: true; the input reads as it did. -/
def fnExactCountChangesSpec : ChangeSpec := { name := "fnExactCountChanges", fn := fun _ => fun
  | [d1, d2] => { results := [.lit (.bool true)], args := [d1, d2] }
  | _ => none }
def fnExactCountChangesRow : OpenClaim := { program := "ytnfnmdeiaihgnaa", sum := "47d0661dee3408a1193c8c719bedbdd2c0eaa29cec8662dfb771cc6d441c76f0", func := "loop.example/g00944/laws.FnExactCountChanges", spec := "fnExactCountChanges", apart := false }
def FnExactCountChangesSaid : Prop := fnExactCountChangesRow.holds Try.pinned (OpenSpec.ofChange fnExactCountChangesSpec)

/-- ITS FALSE NEIGHBOUR: 'it returns false'. Refute it at one input. -/
def fnExactCountChangesWrong : ChangeSpec := { name := "fnExactCountChanges", fn := fun _ => fun
  | [d1, d2] => { results := [.lit (.bool false)], args := [d1, d2] }
  | _ => none }
def FnExactCountChangesWrongFalsely : Prop := fnExactCountChangesRow.holds Try.pinned (OpenSpec.ofChange fnExactCountChangesWrong)

/-- 'laws.FnExactEffortOf': WHATEVER THE INPUT: true; the input reads as it did. -/
def fnExactEffortOfSpec : ChangeSpec := { name := "fnExactEffortOf", fn := fun _ => fun
  | [d1, d2] => { results := [.lit (.bool true)], args := [d1, d2] }
  | _ => none }
def fnExactEffortOfRow : OpenClaim := { program := "ytnfnmdeiaihgnaa", sum := "47d0661dee3408a1193c8c719bedbdd2c0eaa29cec8662dfb771cc6d441c76f0", func := "loop.example/g00944/laws.FnExactEffortOf", spec := "fnExactEffortOf", apart := false }
def FnExactEffortOfSaid : Prop := fnExactEffortOfRow.holds Try.pinned (OpenSpec.ofChange fnExactEffortOfSpec)

/-- ITS FALSE NEIGHBOUR: 'it returns false'. Refute it at one input. -/
def fnExactEffortOfWrong : ChangeSpec := { name := "fnExactEffortOf", fn := fun _ => fun
  | [d1, d2] => { results := [.lit (.bool false)], args := [d1, d2] }
  | _ => none }
def FnExactEffortOfWrongFalsely : Prop := fnExactEffortOfRow.holds Try.pinned (OpenSpec.ofChange fnExactEffortOfWrong)

/-- 'laws.FnExactBestJobOrder': WHATEVER THE INPUT: true; the input reads as it did. -/
def fnExactBestJobOrderSpec : ChangeSpec := { name := "fnExactBestJobOrder", fn := fun _ => fun
  | [d] => { results := [.lit (.bool true)], args := [d] }
  | _ => none }
def fnExactBestJobOrderRow : OpenClaim := { program := "ytnfnmdeiaihgnaa", sum := "47d0661dee3408a1193c8c719bedbdd2c0eaa29cec8662dfb771cc6d441c76f0", func := "loop.example/g00944/laws.FnExactBestJobOrder", spec := "fnExactBestJobOrder", apart := false }
def FnExactBestJobOrderSaid : Prop := fnExactBestJobOrderRow.holds Try.pinned (OpenSpec.ofChange fnExactBestJobOrderSpec)

/-- ITS FALSE NEIGHBOUR: 'it returns false'. Refute it at one input. -/
def fnExactBestJobOrderWrong : ChangeSpec := { name := "fnExactBestJobOrder", fn := fun _ => fun
  | [d] => { results := [.lit (.bool false)], args := [d] }
  | _ => none }
def FnExactBestJobOrderWrongFalsely : Prop := fnExactBestJobOrderRow.holds Try.pinned (OpenSpec.ofChange fnExactBestJobOrderWrong)

/- THE SECOND FORM. 'bulk': how many values and letters a reading holds, each counted each time it is reached (what is shared counts as often as it is met; a slice's spare places count too). A statement '..UptoSaid' is the law's where the arguments, and the package variables that the reading takes, are together of bulk at most 1048576: NARROWER than '..Said'. Prove '..Said' where nothing that the law and all that it calls make is longer than what came in: it says more and counts as full. Else prove '..UptoSaid'. A law counts once. -/
mutual
def uptoBulk {H : Type} : DataW H → Nat
  | .lit (.string bytes) => bytes.length + 1
  | .lit _ => 1
  | .nil => 1
  | .ptr d => uptoBulk d + 1
  | .slice elems spare => uptoBulkAll elems + uptoBulkAll spare + 1
  | .agg parts => uptoBulkAll parts + 1
  | .iface _ d => uptoBulk d + 1
  | .map entries => uptoBulkEntries entries + 1
  | .held _ => 1
def uptoBulkAll {H : Type} : List (DataW H) → Nat
  | [] => 0
  | d :: r => uptoBulk d + uptoBulkAll r
def uptoBulkEntries {H : Type} : List (Lit × DataW H) → Nat
  | [] => 0
  | x :: r => uptoBulkEntry x + uptoBulkEntries r
def uptoBulkEntry {H : Type} : Lit × DataW H → Nat
  | (.string bytes, d) => bytes.length + uptoBulk d + 1
  | (_, d) => uptoBulk d + 1
 end
def uptoSmall : (H : Type) → List (DataW H) → Bool := fun _ ds => decide (uptoBulkAll ds ≤ 1048576)
def OpenSpec.upto (s : _root_.Go.ChangeSpec) : _root_.Go.OpenSpec := { _root_.Go.OpenSpec.ofChange s with cond := some uptoSmall }

/-- 'laws.FnSetups', WHERE WHAT IT READS IS OF BULK AT MOST 1048576: true; the input reads as it did. -/
def fnSetupsUptoRow : OpenClaim := { program := "ytnfnmdeiaihgnaa", sum := "47d0661dee3408a1193c8c719bedbdd2c0eaa29cec8662dfb771cc6d441c76f0", func := "loop.example/g00944/laws.FnSetups", spec := "fnSetups", inPlace := ["internal/bytealg.CountString", "internal/bytealg.IndexByteString", "internal/bytealg.IndexString"], unfollowed := true, recurses := true, named := ["internal/bytealg.MaxLen"], apart := false, narrowed := true }
def FnSetupsUptoSaid : Prop := fnSetupsUptoRow.holds Try.pinned (OpenSpec.upto fnSetupsSpec)

/-- 'laws.FnEfforts', WHERE WHAT IT READS IS OF BULK AT MOST 1048576: true; the input reads as it did. -/
def fnEffortsUptoRow : OpenClaim := { program := "ytnfnmdeiaihgnaa", sum := "47d0661dee3408a1193c8c719bedbdd2c0eaa29cec8662dfb771cc6d441c76f0", func := "loop.example/g00944/laws.FnEfforts", spec := "fnEfforts", apart := false, narrowed := true }
def FnEffortsUptoSaid : Prop := fnEffortsUptoRow.holds Try.pinned (OpenSpec.upto fnEffortsSpec)

/-- 'laws.FnExactSetupOf', WHERE WHAT IT READS IS OF BULK AT MOST 1048576: true; the input reads as it did. -/
def fnExactSetupOfUptoRow : OpenClaim := { program := "ytnfnmdeiaihgnaa", sum := "47d0661dee3408a1193c8c719bedbdd2c0eaa29cec8662dfb771cc6d441c76f0", func := "loop.example/g00944/laws.FnExactSetupOf", spec := "fnExactSetupOf", inPlace := ["internal/bytealg.CountString", "internal/bytealg.IndexByteString", "internal/bytealg.IndexString"], unfollowed := true, recurses := true, named := ["internal/bytealg.MaxLen"], apart := false, narrowed := true }
def FnExactSetupOfUptoSaid : Prop := fnExactSetupOfUptoRow.holds Try.pinned (OpenSpec.upto fnExactSetupOfSpec)

/-- 'laws.FnExactSchemeOfSetup', WHERE WHAT IT READS IS OF BULK AT MOST 1048576: true; the input reads as it did. -/
def fnExactSchemeOfSetupUptoRow : OpenClaim := { program := "ytnfnmdeiaihgnaa", sum := "47d0661dee3408a1193c8c719bedbdd2c0eaa29cec8662dfb771cc6d441c76f0", func := "loop.example/g00944/laws.FnExactSchemeOfSetup", spec := "fnExactSchemeOfSetup", apart := false, narrowed := true }
def FnExactSchemeOfSetupUptoSaid : Prop := fnExactSchemeOfSetupUptoRow.holds Try.pinned (OpenSpec.upto fnExactSchemeOfSetupSpec)

/-- 'laws.FnExactFoldedSize', WHERE WHAT IT READS IS OF BULK AT MOST 1048576: true; the input reads as it did. -/
def fnExactFoldedSizeUptoRow : OpenClaim := { program := "ytnfnmdeiaihgnaa", sum := "47d0661dee3408a1193c8c719bedbdd2c0eaa29cec8662dfb771cc6d441c76f0", func := "loop.example/g00944/laws.FnExactFoldedSize", spec := "fnExactFoldedSize", inPlace := ["internal/bytealg.CountString", "internal/bytealg.IndexByteString", "internal/bytealg.IndexString"], unfollowed := true, recurses := true, named := ["internal/bytealg.MaxLen"], apart := false, narrowed := true }
def FnExactFoldedSizeUptoSaid : Prop := fnExactFoldedSizeUptoRow.holds Try.pinned (OpenSpec.upto fnExactFoldedSizeSpec)

/-- 'laws.FnExactLayersAfter', WHERE WHAT IT READS IS OF BULK AT MOST 1048576: true; the input reads as it did. -/
def fnExactLayersAfterUptoRow : OpenClaim := { program := "ytnfnmdeiaihgnaa", sum := "47d0661dee3408a1193c8c719bedbdd2c0eaa29cec8662dfb771cc6d441c76f0", func := "loop.example/g00944/laws.FnExactLayersAfter", spec := "fnExactLayersAfter", apart := false, narrowed := true }
def FnExactLayersAfterUptoSaid : Prop := fnExactLayersAfterUptoRow.holds Try.pinned (OpenSpec.upto fnExactLayersAfterSpec)

/-- 'laws.FnExactCountChanges', WHERE WHAT IT READS IS OF BULK AT MOST 1048576: true; the input reads as it did. -/
def fnExactCountChangesUptoRow : OpenClaim := { program := "ytnfnmdeiaihgnaa", sum := "47d0661dee3408a1193c8c719bedbdd2c0eaa29cec8662dfb771cc6d441c76f0", func := "loop.example/g00944/laws.FnExactCountChanges", spec := "fnExactCountChanges", apart := false, narrowed := true }
def FnExactCountChangesUptoSaid : Prop := fnExactCountChangesUptoRow.holds Try.pinned (OpenSpec.upto fnExactCountChangesSpec)

/-- 'laws.FnExactEffortOf', WHERE WHAT IT READS IS OF BULK AT MOST 1048576: true; the input reads as it did. -/
def fnExactEffortOfUptoRow : OpenClaim := { program := "ytnfnmdeiaihgnaa", sum := "47d0661dee3408a1193c8c719bedbdd2c0eaa29cec8662dfb771cc6d441c76f0", func := "loop.example/g00944/laws.FnExactEffortOf", spec := "fnExactEffortOf", apart := false, narrowed := true }
def FnExactEffortOfUptoSaid : Prop := fnExactEffortOfUptoRow.holds Try.pinned (OpenSpec.upto fnExactEffortOfSpec)

/-- 'laws.FnExactBestJobOrder', WHERE WHAT IT READS IS OF BULK AT MOST 1048576: true; the input reads as it did. -/
def fnExactBestJobOrderUptoRow : OpenClaim := { program := "ytnfnmdeiaihgnaa", sum := "47d0661dee3408a1193c8c719bedbdd2c0eaa29cec8662dfb771cc6d441c76f0", func := "loop.example/g00944/laws.FnExactBestJobOrder", spec := "fnExactBestJobOrder", apart := false, narrowed := true }
def FnExactBestJobOrderUptoSaid : Prop := fnExactBestJobOrderUptoRow.holds Try.pinned (OpenSpec.upto fnExactBestJobOrderSpec)

end Rows
end Go.Proofs.Ytnfnmdeiaihgnaa
