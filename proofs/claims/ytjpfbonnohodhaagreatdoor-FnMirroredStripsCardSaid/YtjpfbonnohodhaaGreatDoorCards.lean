/-
  DERIVED. GIVEN WITH THE SEED: THE CARDS: each row of YtjpfbonnohodhaaGreatDoorRows.lean that lists a variable, with what it lists TIED to the program's text (the seventh form; the later family's looks); each row that meets fmt, with fmt's text TOLD by the authors' own Lean function (tested against real Go, not proved from fmt's source: count such statements apart). THE CARD IS WHAT COUNTS. Prove the row's statement (the work); the ties are given (YtjpfbonnohodhaaGreatDoorTie.lean); close each card by the builder's one call (the guide's Derived/Test/ToyasCard.lean, 'card_holds'). Laid BY PROGRAM, IN A SANDBOX (cutbox-door.mjs). By AI agents, Wed Nov 11 2026. No macro, syntax, notation, axiom, sorry.
-/
import Derived.Test.YtjpfbonnohodhaaGreatDoorRows
import GoSem.ClaimSeven
namespace Go.Proofs.YtjpfbonnohodhaaGreatDoor
namespace Rows

/-- THE TIED CARD OF 'laws.FnMirroredStrips'. -/
def fnMirroredStripsCard : Claim7 := { stood := { row := fnMirroredStripsRow, standIns := [], harness := (true, "4b3c8134f2e726f2979fd23410f6e16035d9a006fb3b884dfe87fb41f3e38c04"), looks := true }, kinds := [], alts := [], laidByText := true, laidKinds := [.data, .pinned], laidTests := true, laidLooks := .later }
def FnMirroredStripsCardSaid : Prop := Claim7.holds Tryz.pinned (.plain (OpenSpec.ofChange fnMirroredStripsSpec)) fnMirroredStripsCard

/-- THE SECOND FORM's CARD OF 'laws.FnMirroredStrips'. -/
def fnMirroredStripsUptoCard : Claim7 := { stood := { row := fnMirroredStripsUptoRow, standIns := [], harness := (true, "4b3c8134f2e726f2979fd23410f6e16035d9a006fb3b884dfe87fb41f3e38c04"), looks := true }, kinds := [], alts := [], laidByText := true, laidKinds := [.data, .pinned], laidTests := true, laidLooks := .later }
def FnMirroredStripsUptoCardSaid : Prop := Claim7.holds Tryz.pinned (.plain (OpenSpec.upto fnMirroredStripsSpec)) fnMirroredStripsUptoCard
end Rows
end Go.Proofs.YtjpfbonnohodhaaGreatDoor
