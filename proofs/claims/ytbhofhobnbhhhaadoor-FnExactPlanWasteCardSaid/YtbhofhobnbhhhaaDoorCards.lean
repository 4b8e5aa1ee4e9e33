/-
  DERIVED. GIVEN WITH THE SEED: THE CARDS: each row of YtbhofhobnbhhhaaDoorRows.lean that lists a variable, with what it lists TIED to the program's text (the seventh form; the later family's looks); each row that meets fmt, with fmt's text TOLD by the authors' own Lean function (tested against real Go, not proved from fmt's source: count such statements apart). THE CARD IS WHAT COUNTS. Prove the row's statement (the work); the ties are given (YtbhofhobnbhhhaaDoorTie.lean); close each card by the builder's one call (the guide's Derived/Test/ToyasCard.lean, 'card_holds'). Laid BY PROGRAM, IN A SANDBOX (cutbox-door.mjs). By AI agents, Wed Nov 11 2026. No macro, syntax, notation, axiom, sorry.
-/
import Derived.Test.YtbhofhobnbhhhaaDoorRows
import GoSem.ClaimSeven
namespace Go.Proofs.YtbhofhobnbhhhaaDoor
namespace Rows

/-- THE TIED CARD OF 'laws.FnBestPlans'. -/
def fnBestPlansCard : Claim7 := { stood := { row := fnBestPlansRow, standIns := [], harness := (true, "f360735d93fb80136add78a99fde2b556406414358796ba66483638698ac332d"), looks := true }, kinds := [], alts := [], laidByText := true, laidKinds := [.data, .data, .data, .sentinel, .sentinel], laidTests := true, laidLooks := .later }
def FnBestPlansCardSaid : Prop := Claim7.holds Tryd.pinned (.plain (OpenSpec.ofChange fnBestPlansSpec)) fnBestPlansCard

/-- THE TIED CARD OF 'laws.FnPlanValues'. -/
def fnPlanValuesCard : Claim7 := { stood := { row := fnPlanValuesRow, standIns := [], harness := (true, "f360735d93fb80136add78a99fde2b556406414358796ba66483638698ac332d"), looks := true }, kinds := [], alts := [], laidByText := true, laidKinds := [.data, .data, .data, .sentinel, .sentinel], laidTests := true, laidLooks := .later }
def FnPlanValuesCardSaid : Prop := Claim7.holds Tryd.pinned (.plain (OpenSpec.ofChange fnPlanValuesSpec)) fnPlanValuesCard

/-- THE TIED CARD OF 'laws.FnExactBestPlan'. -/
def fnExactBestPlanCard : Claim7 := { stood := { row := fnExactBestPlanRow, standIns := [], harness := (true, "f360735d93fb80136add78a99fde2b556406414358796ba66483638698ac332d"), looks := true }, kinds := [], alts := [], laidByText := true, laidKinds := [.data, .data, .data], laidTests := true, laidLooks := .later }
def FnExactBestPlanCardSaid : Prop := Claim7.holds Tryd.pinned (.plain (OpenSpec.ofChange fnExactBestPlanSpec)) fnExactBestPlanCard

/-- THE TIED CARD OF 'laws.FnExactPlanCounts'. -/
def fnExactPlanCountsCard : Claim7 := { stood := { row := fnExactPlanCountsRow, standIns := [], harness := (true, "f360735d93fb80136add78a99fde2b556406414358796ba66483638698ac332d"), looks := true }, kinds := [], alts := [], laidByText := true, laidKinds := [.data, .data, .data, .sentinel, .sentinel], laidTests := true, laidLooks := .later }
def FnExactPlanCountsCardSaid : Prop := Claim7.holds Tryd.pinned (.plain (OpenSpec.ofChange fnExactPlanCountsSpec)) fnExactPlanCountsCard

/-- THE TIED CARD OF 'laws.FnExactPlanValue'. -/
def fnExactPlanValueCard : Claim7 := { stood := { row := fnExactPlanValueRow, standIns := [], harness := (true, "f360735d93fb80136add78a99fde2b556406414358796ba66483638698ac332d"), looks := true }, kinds := [], alts := [], laidByText := true, laidKinds := [.data, .data, .data, .sentinel, .sentinel], laidTests := true, laidLooks := .later }
def FnExactPlanValueCardSaid : Prop := Claim7.holds Tryd.pinned (.plain (OpenSpec.ofChange fnExactPlanValueSpec)) fnExactPlanValueCard

/-- THE TIED CARD OF 'laws.FnExactPlanWaste'. -/
def fnExactPlanWasteCard : Claim7 := { stood := { row := fnExactPlanWasteRow, standIns := [], harness := (true, "f360735d93fb80136add78a99fde2b556406414358796ba66483638698ac332d"), looks := true }, kinds := [], alts := [], laidByText := true, laidKinds := [.data, .data, .data, .sentinel, .sentinel], laidTests := true, laidLooks := .later }
def FnExactPlanWasteCardSaid : Prop := Claim7.holds Tryd.pinned (.plain (OpenSpec.ofChange fnExactPlanWasteSpec)) fnExactPlanWasteCard

/-- THE TIED CARD OF 'laws.FnExactProgramText'. -/
def fnExactProgramTextCard : Claim7 := { stood := { row := fnExactProgramTextRow, standIns := [], harness := (true, "f360735d93fb80136add78a99fde2b556406414358796ba66483638698ac332d"), looks := true }, kinds := [], alts := [], laidByText := true, laidKinds := [.data, .data, .data], laidTests := true, laidLooks := .later }
def FnExactProgramTextCardSaid : Prop := Claim7.holds Tryd.pinned (.plain (OpenSpec.ofChange fnExactProgramTextSpec)) fnExactProgramTextCard

/-- THE TIED CARD OF 'laws.FnExactReadProgram'. -/
def fnExactReadProgramCard : Claim7 := { stood := { row := fnExactReadProgramRow, standIns := [], harness := (true, "f360735d93fb80136add78a99fde2b556406414358796ba66483638698ac332d"), looks := true }, kinds := [], alts := [], laidByText := true, laidKinds := [.data, .data, .data, .data, .sentinel, .sentinel, .pinned], laidTests := true, laidLooks := .later }
def FnExactReadProgramCardSaid : Prop := Claim7.holds Tryd.pinned (.plain (OpenSpec.ofChange fnExactReadProgramSpec)) fnExactReadProgramCard

/-- THE SECOND FORM's CARD OF 'laws.FnBestPlans'. -/
def fnBestPlansUptoCard : Claim7 := { stood := { row := fnBestPlansUptoRow, standIns := [], harness := (true, "f360735d93fb80136add78a99fde2b556406414358796ba66483638698ac332d"), looks := true }, kinds := [], alts := [], laidByText := true, laidKinds := [.data, .data, .data, .sentinel, .sentinel], laidTests := true, laidLooks := .later }
def FnBestPlansUptoCardSaid : Prop := Claim7.holds Tryd.pinned (.plain (OpenSpec.upto fnBestPlansSpec)) fnBestPlansUptoCard

/-- THE SECOND FORM's CARD OF 'laws.FnPlanValues'. -/
def fnPlanValuesUptoCard : Claim7 := { stood := { row := fnPlanValuesUptoRow, standIns := [], harness := (true, "f360735d93fb80136add78a99fde2b556406414358796ba66483638698ac332d"), looks := true }, kinds := [], alts := [], laidByText := true, laidKinds := [.data, .data, .data, .sentinel, .sentinel], laidTests := true, laidLooks := .later }
def FnPlanValuesUptoCardSaid : Prop := Claim7.holds Tryd.pinned (.plain (OpenSpec.upto fnPlanValuesSpec)) fnPlanValuesUptoCard

/-- THE SECOND FORM's CARD OF 'laws.FnExactBestPlan'. -/
def fnExactBestPlanUptoCard : Claim7 := { stood := { row := fnExactBestPlanUptoRow, standIns := [], harness := (true, "f360735d93fb80136add78a99fde2b556406414358796ba66483638698ac332d"), looks := true }, kinds := [], alts := [], laidByText := true, laidKinds := [.data, .data, .data], laidTests := true, laidLooks := .later }
def FnExactBestPlanUptoCardSaid : Prop := Claim7.holds Tryd.pinned (.plain (OpenSpec.upto fnExactBestPlanSpec)) fnExactBestPlanUptoCard

/-- THE SECOND FORM's CARD OF 'laws.FnExactPlanCounts'. -/
def fnExactPlanCountsUptoCard : Claim7 := { stood := { row := fnExactPlanCountsUptoRow, standIns := [], harness := (true, "f360735d93fb80136add78a99fde2b556406414358796ba66483638698ac332d"), looks := true }, kinds := [], alts := [], laidByText := true, laidKinds := [.data, .data, .data, .sentinel, .sentinel], laidTests := true, laidLooks := .later }
def FnExactPlanCountsUptoCardSaid : Prop := Claim7.holds Tryd.pinned (.plain (OpenSpec.upto fnExactPlanCountsSpec)) fnExactPlanCountsUptoCard

/-- THE SECOND FORM's CARD OF 'laws.FnExactPlanValue'. -/
def fnExactPlanValueUptoCard : Claim7 := { stood := { row := fnExactPlanValueUptoRow, standIns := [], harness := (true, "f360735d93fb80136add78a99fde2b556406414358796ba66483638698ac332d"), looks := true }, kinds := [], alts := [], laidByText := true, laidKinds := [.data, .data, .data, .sentinel, .sentinel], laidTests := true, laidLooks := .later }
def FnExactPlanValueUptoCardSaid : Prop := Claim7.holds Tryd.pinned (.plain (OpenSpec.upto fnExactPlanValueSpec)) fnExactPlanValueUptoCard

/-- THE SECOND FORM's CARD OF 'laws.FnExactPlanWaste'. -/
def fnExactPlanWasteUptoCard : Claim7 := { stood := { row := fnExactPlanWasteUptoRow, standIns := [], harness := (true, "f360735d93fb80136add78a99fde2b556406414358796ba66483638698ac332d"), looks := true }, kinds := [], alts := [], laidByText := true, laidKinds := [.data, .data, .data, .sentinel, .sentinel], laidTests := true, laidLooks := .later }
def FnExactPlanWasteUptoCardSaid : Prop := Claim7.holds Tryd.pinned (.plain (OpenSpec.upto fnExactPlanWasteSpec)) fnExactPlanWasteUptoCard

/-- THE SECOND FORM's CARD OF 'laws.FnExactProgramText'. -/
def fnExactProgramTextUptoCard : Claim7 := { stood := { row := fnExactProgramTextUptoRow, standIns := [], harness := (true, "f360735d93fb80136add78a99fde2b556406414358796ba66483638698ac332d"), looks := true }, kinds := [], alts := [], laidByText := true, laidKinds := [.data, .data, .data], laidTests := true, laidLooks := .later }
def FnExactProgramTextUptoCardSaid : Prop := Claim7.holds Tryd.pinned (.plain (OpenSpec.upto fnExactProgramTextSpec)) fnExactProgramTextUptoCard

/-- THE SECOND FORM's CARD OF 'laws.FnExactReadProgram'. -/
def fnExactReadProgramUptoCard : Claim7 := { stood := { row := fnExactReadProgramUptoRow, standIns := [], harness := (true, "f360735d93fb80136add78a99fde2b556406414358796ba66483638698ac332d"), looks := true }, kinds := [], alts := [], laidByText := true, laidKinds := [.data, .data, .data, .data, .sentinel, .sentinel, .pinned], laidTests := true, laidLooks := .later }
def FnExactReadProgramUptoCardSaid : Prop := Claim7.holds Tryd.pinned (.plain (OpenSpec.upto fnExactReadProgramSpec)) fnExactReadProgramUptoCard
end Rows
end Go.Proofs.YtbhofhobnbhhhaaDoor
