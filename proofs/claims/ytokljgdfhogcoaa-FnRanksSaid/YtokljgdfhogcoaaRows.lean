/-
  No cell of these rows narrows 'for every input' (looked for: loops, veiled, ifaces, maps, wideKeys, modest, calm, conditions, laid).
  DERIVED. THE GIVEN ROWS OF THIS SEAT. 9 by the template 'for every input the law returns true; each argument reads behind the call as it read before'; 0 by the template 'total and deterministic' (their statements: YtokljgdfhogcoaaTotals.lean).
  GIVEN WITH THE SEED: the statements are not yours to turn. If you find one false, say at which input.
  Laid BY PROGRAM, IN A SANDBOX (cutbox-rows.mjs): the forced cells as the released guide's own fill.sh prints them over the translation 1aad35285c65bbe7… (all of the seat's roots in one cut). By AI agents, Wed Nov 11 2026. No macro, syntax, notation, axiom, sorry.
-/
import Derived.Test.YtokljgdfhogcoaaChecked
import GoSem.Claim
import GoSem.ClaimJoined
import GoSem.ClaimMapViews
import Derived.JoinedTies
import Derived.KernelRfl
namespace Go.Proofs.Ytokljgdfhogcoaa
/- THE CELL 'sum', in the pinned program and in every row, IS THE sha256 OF THE DUMP (.gsa) THAT YtokljgdfhogcoaaProg.lean LOADS. Nothing in Lean hashes anything: it is a label: what it is worth is what the hold of that sum in a sandbox is worth. -/
noncomputable def Try.pinned : Pinned := { name := "ytokljgdfhogcoaa", sum := "1aad35285c65bbe71e9ae40ea70067b7ed150eb36742bcf9f08cd3c44f83220e", checked := Try.checked }
namespace Rows
def none {H : Type} : Left H := { results := [], args := [] }

/-- 'laws.FnOrders': WHATEVER THE INPUT: true; the input reads as it did. -/
def fnOrdersSpec : ChangeSpec := { name := "fnOrders", fn := fun _ => fun
  | [d] => { results := [.lit (.bool true)], args := [d] }
  | _ => none }
def fnOrdersRow : OpenClaim := { program := "ytokljgdfhogcoaa", sum := "1aad35285c65bbe71e9ae40ea70067b7ed150eb36742bcf9f08cd3c44f83220e", func := "loop.example/g00944/laws.FnOrders", spec := "fnOrders", apart := false }
def FnOrdersSaid : Prop := fnOrdersRow.holds Try.pinned (OpenSpec.ofChange fnOrdersSpec)

/-- ITS FALSE NEIGHBOUR: 'it returns false'. Refute it at one input. -/
def fnOrdersWrong : ChangeSpec := { name := "fnOrders", fn := fun _ => fun
  | [d] => { results := [.lit (.bool false)], args := [d] }
  | _ => none }
def FnOrdersWrongFalsely : Prop := fnOrdersRow.holds Try.pinned (OpenSpec.ofChange fnOrdersWrong)

/-- 'laws.FnRanks': WHATEVER THE INPUT: true; the input reads as it did. -/
def fnRanksSpec : ChangeSpec := { name := "fnRanks", fn := fun _ => fun
  | [d] => { results := [.lit (.bool true)], args := [d] }
  | _ => none }
def fnRanksRow : OpenClaim := { program := "ytokljgdfhogcoaa", sum := "1aad35285c65bbe71e9ae40ea70067b7ed150eb36742bcf9f08cd3c44f83220e", func := "loop.example/g00944/laws.FnRanks", spec := "fnRanks", apart := false }
def FnRanksSaid : Prop := fnRanksRow.holds Try.pinned (OpenSpec.ofChange fnRanksSpec)

/-- ITS FALSE NEIGHBOUR: 'it returns false'. Refute it at one input. -/
def fnRanksWrong : ChangeSpec := { name := "fnRanks", fn := fun _ => fun
  | [d] => { results := [.lit (.bool false)], args := [d] }
  | _ => none }
def FnRanksWrongFalsely : Prop := fnRanksRow.holds Try.pinned (OpenSpec.ofChange fnRanksWrong)

/-- 'laws.FnShares': WHATEVER THE INPUT: true; the input reads as it did. -/
def fnSharesSpec : ChangeSpec := { name := "fnShares", fn := fun _ => fun
  | [d] => { results := [.lit (.bool true)], args := [d] }
  | _ => none }
def fnSharesRow : OpenClaim := { program := "ytokljgdfhogcoaa", sum := "1aad35285c65bbe71e9ae40ea70067b7ed150eb36742bcf9f08cd3c44f83220e", func := "loop.example/g00944/laws.FnShares", spec := "fnShares", apart := false }
def FnSharesSaid : Prop := fnSharesRow.holds Try.pinned (OpenSpec.ofChange fnSharesSpec)

/-- ITS FALSE NEIGHBOUR: 'it returns false'. Refute it at one input. -/
def fnSharesWrong : ChangeSpec := { name := "fnShares", fn := fun _ => fun
  | [d] => { results := [.lit (.bool false)], args := [d] }
  | _ => none }
def FnSharesWrongFalsely : Prop := fnSharesRow.holds Try.pinned (OpenSpec.ofChange fnSharesWrong)

/-- 'laws.FnExactIsOrder': WHATEVER THE INPUT: true; the input reads as it did. -/
def fnExactIsOrderSpec : ChangeSpec := { name := "fnExactIsOrder", fn := fun _ => fun
  | [d] => { results := [.lit (.bool true)], args := [d] }
  | _ => none }
def fnExactIsOrderRow : OpenClaim := { program := "ytokljgdfhogcoaa", sum := "1aad35285c65bbe71e9ae40ea70067b7ed150eb36742bcf9f08cd3c44f83220e", func := "loop.example/g00944/laws.FnExactIsOrder", spec := "fnExactIsOrder", apart := false }
def FnExactIsOrderSaid : Prop := fnExactIsOrderRow.holds Try.pinned (OpenSpec.ofChange fnExactIsOrderSpec)

/-- ITS FALSE NEIGHBOUR: 'it returns false'. Refute it at one input. -/
def fnExactIsOrderWrong : ChangeSpec := { name := "fnExactIsOrder", fn := fun _ => fun
  | [d] => { results := [.lit (.bool false)], args := [d] }
  | _ => none }
def FnExactIsOrderWrongFalsely : Prop := fnExactIsOrderRow.holds Try.pinned (OpenSpec.ofChange fnExactIsOrderWrong)

/-- 'laws.FnExactInverseOrder': WHATEVER THE INPUT: true; the input reads as it did. -/
def fnExactInverseOrderSpec : ChangeSpec := { name := "fnExactInverseOrder", fn := fun _ => fun
  | [d] => { results := [.lit (.bool true)], args := [d] }
  | _ => none }
def fnExactInverseOrderRow : OpenClaim := { program := "ytokljgdfhogcoaa", sum := "1aad35285c65bbe71e9ae40ea70067b7ed150eb36742bcf9f08cd3c44f83220e", func := "loop.example/g00944/laws.FnExactInverseOrder", spec := "fnExactInverseOrder", apart := false }
def FnExactInverseOrderSaid : Prop := fnExactInverseOrderRow.holds Try.pinned (OpenSpec.ofChange fnExactInverseOrderSpec)

/-- ITS FALSE NEIGHBOUR: 'it returns false'. Refute it at one input. -/
def fnExactInverseOrderWrong : ChangeSpec := { name := "fnExactInverseOrder", fn := fun _ => fun
  | [d] => { results := [.lit (.bool false)], args := [d] }
  | _ => none }
def FnExactInverseOrderWrongFalsely : Prop := fnExactInverseOrderRow.holds Try.pinned (OpenSpec.ofChange fnExactInverseOrderWrong)

/-- 'laws.FnExactComposeOrders': WHATEVER THE INPUT: true; the input reads as it did. -/
def fnExactComposeOrdersSpec : ChangeSpec := { name := "fnExactComposeOrders", fn := fun _ => fun
  | [d1, d2] => { results := [.lit (.bool true)], args := [d1, d2] }
  | _ => none }
def fnExactComposeOrdersRow : OpenClaim := { program := "ytokljgdfhogcoaa", sum := "1aad35285c65bbe71e9ae40ea70067b7ed150eb36742bcf9f08cd3c44f83220e", func := "loop.example/g00944/laws.FnExactComposeOrders", spec := "fnExactComposeOrders", apart := false }
def FnExactComposeOrdersSaid : Prop := fnExactComposeOrdersRow.holds Try.pinned (OpenSpec.ofChange fnExactComposeOrdersSpec)

/-- ITS FALSE NEIGHBOUR: 'it returns false'. Refute it at one input. -/
def fnExactComposeOrdersWrong : ChangeSpec := { name := "fnExactComposeOrders", fn := fun _ => fun
  | [d1, d2] => { results := [.lit (.bool false)], args := [d1, d2] }
  | _ => none }
def FnExactComposeOrdersWrongFalsely : Prop := fnExactComposeOrdersRow.holds Try.pinned (OpenSpec.ofChange fnExactComposeOrdersWrong)

/-- 'laws.FnExactRankOrder': WHATEVER THE INPUT: true; the input reads as it did. -/
def fnExactRankOrderSpec : ChangeSpec := { name := "fnExactRankOrder", fn := fun _ => fun
  | [d] => { results := [.lit (.bool true)], args := [d] }
  | _ => none }
def fnExactRankOrderRow : OpenClaim := { program := "ytokljgdfhogcoaa", sum := "1aad35285c65bbe71e9ae40ea70067b7ed150eb36742bcf9f08cd3c44f83220e", func := "loop.example/g00944/laws.FnExactRankOrder", spec := "fnExactRankOrder", apart := false }
def FnExactRankOrderSaid : Prop := fnExactRankOrderRow.holds Try.pinned (OpenSpec.ofChange fnExactRankOrderSpec)

/-- ITS FALSE NEIGHBOUR: 'it returns false'. Refute it at one input. -/
def fnExactRankOrderWrong : ChangeSpec := { name := "fnExactRankOrder", fn := fun _ => fun
  | [d] => { results := [.lit (.bool false)], args := [d] }
  | _ => none }
def FnExactRankOrderWrongFalsely : Prop := fnExactRankOrderRow.holds Try.pinned (OpenSpec.ofChange fnExactRankOrderWrong)

/-- 'laws.FnExactOrderOfRank': WHATEVER THE INPUT: true; the input reads as it did. -/
def fnExactOrderOfRankSpec : ChangeSpec := { name := "fnExactOrderOfRank", fn := fun _ => fun
  | [d1, d2] => { results := [.lit (.bool true)], args := [d1, d2] }
  | _ => none }
def fnExactOrderOfRankRow : OpenClaim := { program := "ytokljgdfhogcoaa", sum := "1aad35285c65bbe71e9ae40ea70067b7ed150eb36742bcf9f08cd3c44f83220e", func := "loop.example/g00944/laws.FnExactOrderOfRank", spec := "fnExactOrderOfRank", apart := false }
def FnExactOrderOfRankSaid : Prop := fnExactOrderOfRankRow.holds Try.pinned (OpenSpec.ofChange fnExactOrderOfRankSpec)

/-- ITS FALSE NEIGHBOUR: 'it returns false'. Refute it at one input. -/
def fnExactOrderOfRankWrong : ChangeSpec := { name := "fnExactOrderOfRank", fn := fun _ => fun
  | [d1, d2] => { results := [.lit (.bool false)], args := [d1, d2] }
  | _ => none }
def FnExactOrderOfRankWrongFalsely : Prop := fnExactOrderOfRankRow.holds Try.pinned (OpenSpec.ofChange fnExactOrderOfRankWrong)

/-- 'laws.FnExactEvenShares': WHATEVER THE INPUT: true; the input reads as it did. -/
def fnExactEvenSharesSpec : ChangeSpec := { name := "fnExactEvenShares", fn := fun _ => fun
  | [d1, d2] => { results := [.lit (.bool true)], args := [d1, d2] }
  | _ => none }
def fnExactEvenSharesRow : OpenClaim := { program := "ytokljgdfhogcoaa", sum := "1aad35285c65bbe71e9ae40ea70067b7ed150eb36742bcf9f08cd3c44f83220e", func := "loop.example/g00944/laws.FnExactEvenShares", spec := "fnExactEvenShares", apart := false }
def FnExactEvenSharesSaid : Prop := fnExactEvenSharesRow.holds Try.pinned (OpenSpec.ofChange fnExactEvenSharesSpec)

/-- ITS FALSE NEIGHBOUR: 'it returns false'. Refute it at one input. -/
def fnExactEvenSharesWrong : ChangeSpec := { name := "fnExactEvenShares", fn := fun _ => fun
  | [d1, d2] => { results := [.lit (.bool false)], args := [d1, d2] }
  | _ => none }
def FnExactEvenSharesWrongFalsely : Prop := fnExactEvenSharesRow.holds Try.pinned (OpenSpec.ofChange fnExactEvenSharesWrong)

/- THE SECOND FORM. 'bulk': how many values and letters a reading holds, each counted each time it is reached (what is shared counts as often as it is met; a slice's spare places count too). A statement '..UptoSaid' is the law's where the arguments, and the package variables that the reading takes, are together of bulk at most 1048576: NARROWER than '..Said'. Prove '..Said' where nothing that the law and all that it calls make is longer than what came in: it says more and counts as full. Else prove '..UptoSaid'. A law counts once. -/
mutual
def uptoBulk {H : Type} : DataW H → Nat
  | .lit (.string bytes) => bytes.length + 1
  | .lit _ => 1
  | .nil => 1
  | .ptr d => uptoBulk d + 1
  | .slice elems spare => uptoBulkAll elems + uptoBulkAll spare + 1
  | .agg parts => uptoBulkAll parts + 1
  | .iface _ d => uptoBulk d + 1
  | .map entries => uptoBulkEntries entries + 1
  | .held _ => 1
def uptoBulkAll {H : Type} : List (DataW H) → Nat
  | [] => 0
  | d :: r => uptoBulk d + uptoBulkAll r
def uptoBulkEntries {H : Type} : List (Lit × DataW H) → Nat
  | [] => 0
  | x :: r => uptoBulkEntry x + uptoBulkEntries r
def uptoBulkEntry {H : Type} : Lit × DataW H → Nat
  | (.string bytes, d) => bytes.length + uptoBulk d + 1
  | (_, d) => uptoBulk d + 1
 end
def uptoSmall : (H : Type) → List (DataW H) → Bool := fun _ ds => decide (uptoBulkAll ds ≤ 1048576)
def OpenSpec.upto (s : _root_.Go.ChangeSpec) : _root_.Go.OpenSpec := { _root_.Go.OpenSpec.ofChange s with cond := some uptoSmall }

/-- 'laws.FnOrders', WHERE WHAT IT READS IS OF BULK AT MOST 1048576: true; the input reads as it did. -/
def fnOrdersUptoRow : OpenClaim := { program := "ytokljgdfhogcoaa", sum := "1aad35285c65bbe71e9ae40ea70067b7ed150eb36742bcf9f08cd3c44f83220e", func := "loop.example/g00944/laws.FnOrders", spec := "fnOrders", apart := false, narrowed := true }
def FnOrdersUptoSaid : Prop := fnOrdersUptoRow.holds Try.pinned (OpenSpec.upto fnOrdersSpec)

/-- 'laws.FnRanks', WHERE WHAT IT READS IS OF BULK AT MOST 1048576: true; the input reads as it did. -/
def fnRanksUptoRow : OpenClaim := { program := "ytokljgdfhogcoaa", sum := "1aad35285c65bbe71e9ae40ea70067b7ed150eb36742bcf9f08cd3c44f83220e", func := "loop.example/g00944/laws.FnRanks", spec := "fnRanks", apart := false, narrowed := true }
def FnRanksUptoSaid : Prop := fnRanksUptoRow.holds Try.pinned (OpenSpec.upto fnRanksSpec)

/-- 'laws.FnShares', WHERE WHAT IT READS IS OF BULK AT MOST 1048576: true; the input reads as it did. -/
def fnSharesUptoRow : OpenClaim := { program := "ytokljgdfhogcoaa", sum := "1aad35285c65bbe71e9ae40ea70067b7ed150eb36742bcf9f08cd3c44f83220e", func := "loop.example/g00944/laws.FnShares", spec := "fnShares", apart := false, narrowed := true }
def FnSharesUptoSaid : Prop := fnSharesUptoRow.holds Try.pinned (OpenSpec.upto fnSharesSpec)

/-- 'laws.FnExactIsOrder', WHERE WHAT IT READS IS OF BULK AT MOST 1048576: true; the input reads as it did. -/
def fnExactIsOrderUptoRow : OpenClaim := { program := "ytokljgdfhogcoaa", sum := "1aad35285c65bbe71e9ae40ea70067b7ed150eb36742bcf9f08cd3c44f83220e", func := "loop.example/g00944/laws.FnExactIsOrder", spec := "fnExactIsOrder", apart := false, narrowed := true }
def FnExactIsOrderUptoSaid : Prop := fnExactIsOrderUptoRow.holds Try.pinned (OpenSpec.upto fnExactIsOrderSpec)

/-- 'laws.FnExactInverseOrder', WHERE WHAT IT READS IS OF BULK AT MOST 1048576: true; the input reads as it did. -/
def fnExactInverseOrderUptoRow : OpenClaim := { program := "ytokljgdfhogcoaa", sum := "1aad35285c65bbe71e9ae40ea70067b7ed150eb36742bcf9f08cd3c44f83220e", func := "loop.example/g00944/laws.FnExactInverseOrder", spec := "fnExactInverseOrder", apart := false, narrowed := true }
def FnExactInverseOrderUptoSaid : Prop := fnExactInverseOrderUptoRow.holds Try.pinned (OpenSpec.upto fnExactInverseOrderSpec)

/-- 'laws.FnExactComposeOrders', WHERE WHAT IT READS IS OF BULK AT MOST 1048576: true; the input reads as it did. -/
def fnExactComposeOrdersUptoRow : OpenClaim := { program := "ytokljgdfhogcoaa", sum := "1aad35285c65bbe71e9ae40ea70067b7ed150eb36742bcf9f08cd3c44f83220e", func := "loop.example/g00944/laws.FnExactComposeOrders", spec := "fnExactComposeOrders", apart := false, narrowed := true }
def FnExactComposeOrdersUptoSaid : Prop := fnExactComposeOrdersUptoRow.holds Try.pinned (OpenSpec.upto fnExactComposeOrdersSpec)

/-- 'laws.FnExactRankOrder', WHERE WHAT IT READS IS OF BULK AT MOST 1048576: true; the input reads as it did. -/
def fnExactRankOrderUptoRow : OpenClaim := { program := "ytokljgdfhogcoaa", sum := "1aad35285c65bbe71e9ae40ea70067b7ed150eb36742bcf9f08cd3c44f83220e", func := "loop.example/g00944/laws.FnExactRankOrder", spec := "fnExactRankOrder", apart := false, narrowed := true }
def FnExactRankOrderUptoSaid : Prop := fnExactRankOrderUptoRow.holds Try.pinned (OpenSpec.upto fnExactRankOrderSpec)

/-- 'laws.FnExactOrderOfRank', WHERE WHAT IT READS IS OF BULK AT MOST 1048576: true; the input reads as it did. -/
def fnExactOrderOfRankUptoRow : OpenClaim := { program := "ytokljgdfhogcoaa", sum := "1aad35285c65bbe71e9ae40ea70067b7ed150eb36742bcf9f08cd3c44f83220e", func := "loop.example/g00944/laws.FnExactOrderOfRank", spec := "fnExactOrderOfRank", apart := false, narrowed := true }
def FnExactOrderOfRankUptoSaid : Prop := fnExactOrderOfRankUptoRow.holds Try.pinned (OpenSpec.upto fnExactOrderOfRankSpec)

/-- 'laws.FnExactEvenShares', WHERE WHAT IT READS IS OF BULK AT MOST 1048576: true; the input reads as it did. -/
def fnExactEvenSharesUptoRow : OpenClaim := { program := "ytokljgdfhogcoaa", sum := "1aad35285c65bbe71e9ae40ea70067b7ed150eb36742bcf9f08cd3c44f83220e", func := "loop.example/g00944/laws.FnExactEvenShares", spec := "fnExactEvenShares", apart := false, narrowed := true }
def FnExactEvenSharesUptoSaid : Prop := fnExactEvenSharesUptoRow.holds Try.pinned (OpenSpec.upto fnExactEvenSharesSpec)

end Rows
end Go.Proofs.Ytokljgdfhogcoaa
