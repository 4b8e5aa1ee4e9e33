/-
  DERIVED. GIVEN WITH THE SEED: THE CARDS: each row of YtoanopgafihjiaaDoorRows.lean that lists a variable, with what it lists TIED to the program's text (the seventh form; the later family's looks); each row that meets fmt, with fmt's text TOLD by the authors' own Lean function (tested against real Go, not proved from fmt's source: count such statements apart). THE CARD IS WHAT COUNTS. Prove the row's statement (the work); the ties are given (YtoanopgafihjiaaDoorTie.lean); close each card by the builder's one call (the guide's Derived/Test/ToyasCard.lean, 'card_holds'). Laid BY PROGRAM, IN A SANDBOX (cutbox-door.mjs). By AI agents, Wed Nov 11 2026. No macro, syntax, notation, axiom, sorry.
-/
import Derived.Test.YtoanopgafihjiaaDoorRows
import GoSem.ClaimSeven
namespace Go.Proofs.YtoanopgafihjiaaDoor
namespace Rows

/-- THE TIED CARD OF 'laws.FnLabels'. -/
def fnLabelsCard : Claim7 := { stood := { row := fnLabelsRow, standIns := [], harness := (true, "fc983caa6c2ed5acd2318dd5a335af5a927c5d8387d39e7beb845249ae09e7e5"), looks := false }, kinds := [], alts := [], laidByText := true, laidKinds := [.data, .data, .data, .data], laidTests := true, laidLooks := .later }
def FnLabelsCardSaid : Prop := Claim7.holds Tryd.pinned (.plain (OpenSpec.ofChange fnLabelsSpec)) fnLabelsCard

/-- THE TIED CARD OF 'laws.FnRomans'. -/
def fnRomansCard : Claim7 := { stood := { row := fnRomansRow, standIns := [], harness := (true, "fc983caa6c2ed5acd2318dd5a335af5a927c5d8387d39e7beb845249ae09e7e5"), looks := false }, kinds := [], alts := [], laidByText := true, laidKinds := [.data], laidTests := true, laidLooks := .later }
def FnRomansCardSaid : Prop := Claim7.holds Tryd.pinned (.plain (OpenSpec.ofChange fnRomansSpec)) fnRomansCard

/-- THE TIED CARD OF 'laws.FnExactLabelOf'. -/
def fnExactLabelOfCard : Claim7 := { stood := { row := fnExactLabelOfRow, standIns := [], harness := (true, "fc983caa6c2ed5acd2318dd5a335af5a927c5d8387d39e7beb845249ae09e7e5"), looks := false }, kinds := [], alts := [], laidByText := true, laidKinds := [.data, .data, .data, .data], laidTests := true, laidLooks := .later }
def FnExactLabelOfCardSaid : Prop := Claim7.holds Tryd.pinned (.plain (OpenSpec.ofChange fnExactLabelOfSpec)) fnExactLabelOfCard

/-- THE TIED CARD OF 'laws.FnExactPageOfLabel'. -/
def fnExactPageOfLabelCard : Claim7 := { stood := { row := fnExactPageOfLabelRow, standIns := [], harness := (true, "fc983caa6c2ed5acd2318dd5a335af5a927c5d8387d39e7beb845249ae09e7e5"), looks := false }, kinds := [], alts := [], laidByText := true, laidKinds := [.data, .data, .data, .data], laidTests := true, laidLooks := .later }
def FnExactPageOfLabelCardSaid : Prop := Claim7.holds Tryd.pinned (.plain (OpenSpec.ofChange fnExactPageOfLabelSpec)) fnExactPageOfLabelCard

/-- THE TIED CARD OF 'laws.FnExactRomanText'. -/
def fnExactRomanTextCard : Claim7 := { stood := { row := fnExactRomanTextRow, standIns := [], harness := (true, "fc983caa6c2ed5acd2318dd5a335af5a927c5d8387d39e7beb845249ae09e7e5"), looks := false }, kinds := [], alts := [], laidByText := true, laidKinds := [.data], laidTests := true, laidLooks := .later }
def FnExactRomanTextCardSaid : Prop := Claim7.holds Tryd.pinned (.plain (OpenSpec.ofChange fnExactRomanTextSpec)) fnExactRomanTextCard

/-- THE TIED CARD OF 'laws.FnExactReadRoman'. -/
def fnExactReadRomanCard : Claim7 := { stood := { row := fnExactReadRomanRow, standIns := [], harness := (true, "fc983caa6c2ed5acd2318dd5a335af5a927c5d8387d39e7beb845249ae09e7e5"), looks := false }, kinds := [], alts := [], laidByText := true, laidKinds := [.data], laidTests := true, laidLooks := .later }
def FnExactReadRomanCardSaid : Prop := Claim7.holds Tryd.pinned (.plain (OpenSpec.ofChange fnExactReadRomanSpec)) fnExactReadRomanCard

/-- THE SECOND FORM's CARD OF 'laws.FnLabels'. -/
def fnLabelsUptoCard : Claim7 := { stood := { row := fnLabelsUptoRow, standIns := [], harness := (true, "fc983caa6c2ed5acd2318dd5a335af5a927c5d8387d39e7beb845249ae09e7e5"), looks := false }, kinds := [], alts := [], laidByText := true, laidKinds := [.data, .data, .data, .data], laidTests := true, laidLooks := .later }
def FnLabelsUptoCardSaid : Prop := Claim7.holds Tryd.pinned (.plain (OpenSpec.upto fnLabelsSpec)) fnLabelsUptoCard

/-- THE SECOND FORM's CARD OF 'laws.FnRomans'. -/
def fnRomansUptoCard : Claim7 := { stood := { row := fnRomansUptoRow, standIns := [], harness := (true, "fc983caa6c2ed5acd2318dd5a335af5a927c5d8387d39e7beb845249ae09e7e5"), looks := false }, kinds := [], alts := [], laidByText := true, laidKinds := [.data], laidTests := true, laidLooks := .later }
def FnRomansUptoCardSaid : Prop := Claim7.holds Tryd.pinned (.plain (OpenSpec.upto fnRomansSpec)) fnRomansUptoCard

/-- THE SECOND FORM's CARD OF 'laws.FnExactLabelOf'. -/
def fnExactLabelOfUptoCard : Claim7 := { stood := { row := fnExactLabelOfUptoRow, standIns := [], harness := (true, "fc983caa6c2ed5acd2318dd5a335af5a927c5d8387d39e7beb845249ae09e7e5"), looks := false }, kinds := [], alts := [], laidByText := true, laidKinds := [.data, .data, .data, .data], laidTests := true, laidLooks := .later }
def FnExactLabelOfUptoCardSaid : Prop := Claim7.holds Tryd.pinned (.plain (OpenSpec.upto fnExactLabelOfSpec)) fnExactLabelOfUptoCard

/-- THE SECOND FORM's CARD OF 'laws.FnExactPageOfLabel'. -/
def fnExactPageOfLabelUptoCard : Claim7 := { stood := { row := fnExactPageOfLabelUptoRow, standIns := [], harness := (true, "fc983caa6c2ed5acd2318dd5a335af5a927c5d8387d39e7beb845249ae09e7e5"), looks := false }, kinds := [], alts := [], laidByText := true, laidKinds := [.data, .data, .data, .data], laidTests := true, laidLooks := .later }
def FnExactPageOfLabelUptoCardSaid : Prop := Claim7.holds Tryd.pinned (.plain (OpenSpec.upto fnExactPageOfLabelSpec)) fnExactPageOfLabelUptoCard

/-- THE SECOND FORM's CARD OF 'laws.FnExactRomanText'. -/
def fnExactRomanTextUptoCard : Claim7 := { stood := { row := fnExactRomanTextUptoRow, standIns := [], harness := (true, "fc983caa6c2ed5acd2318dd5a335af5a927c5d8387d39e7beb845249ae09e7e5"), looks := false }, kinds := [], alts := [], laidByText := true, laidKinds := [.data], laidTests := true, laidLooks := .later }
def FnExactRomanTextUptoCardSaid : Prop := Claim7.holds Tryd.pinned (.plain (OpenSpec.upto fnExactRomanTextSpec)) fnExactRomanTextUptoCard

/-- THE SECOND FORM's CARD OF 'laws.FnExactReadRoman'. -/
def fnExactReadRomanUptoCard : Claim7 := { stood := { row := fnExactReadRomanUptoRow, standIns := [], harness := (true, "fc983caa6c2ed5acd2318dd5a335af5a927c5d8387d39e7beb845249ae09e7e5"), looks := false }, kinds := [], alts := [], laidByText := true, laidKinds := [.data], laidTests := true, laidLooks := .later }
def FnExactReadRomanUptoCardSaid : Prop := Claim7.holds Tryd.pinned (.plain (OpenSpec.upto fnExactReadRomanSpec)) fnExactReadRomanUptoCard
end Rows
end Go.Proofs.YtoanopgafihjiaaDoor
