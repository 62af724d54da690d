/-
  DERIVED. GIVEN WITH THE SEED: THE CARDS: each row of YtfofchgcbdbikaaDoorRows.lean that lists a variable, with what it lists TIED to the program's text (the seventh form; the later family's looks); each row that meets fmt, with fmt's text TOLD by the authors' own Lean function (tested against real Go, not proved from fmt's source: count such statements apart). THE CARD IS WHAT COUNTS. Prove the row's statement (the work); the ties are given (YtfofchgcbdbikaaDoorTie.lean); close each card by the builder's one call (the guide's Derived/Test/ToyasCard.lean, 'card_holds'). Laid BY PROGRAM, IN A SANDBOX (cutbox-door.mjs). By AI agents, Wed Nov 11 2026. No macro, syntax, notation, axiom, sorry.
-/
import Derived.Test.YtfofchgcbdbikaaDoorRows
import GoSem.ClaimSeven
namespace Go.Proofs.YtfofchgcbdbikaaDoor
namespace Rows

/-- THE TIED CARD OF 'laws.FnPlanText'. -/
def fnPlanTextCard : Claim7 := { stood := { row := fnPlanTextRow, standIns := [], harness := (true, "8cda59a5d2a44792c90f537947168bbfac0a414f2102607c2947816c0b890e0c"), looks := true }, kinds := [], alts := [], laidByText := true, laidKinds := [.data, .sentinel, .pinned], laidTests := true, laidLooks := .later }
def FnPlanTextCardSaid : Prop := Claim7.holds Tryd.pinned (.plain (OpenSpec.ofChange fnPlanTextSpec)) fnPlanTextCard

/-- THE TIED CARD OF 'laws.FnLinesPlan'. -/
def fnLinesPlanCard : Claim7 := { stood := { row := fnLinesPlanRow, standIns := [], harness := (true, "8cda59a5d2a44792c90f537947168bbfac0a414f2102607c2947816c0b890e0c"), looks := true }, kinds := [], alts := [], laidByText := true, laidKinds := [.data, .sentinel, .pinned], laidTests := true, laidLooks := .later }
def FnLinesPlanCardSaid : Prop := Claim7.holds Tryd.pinned (.plain (OpenSpec.ofChange fnLinesPlanSpec)) fnLinesPlanCard

/-- THE TIED CARD OF 'laws.FnExactLinesPlan'. -/
def fnExactLinesPlanCard : Claim7 := { stood := { row := fnExactLinesPlanRow, standIns := [], harness := (true, "8cda59a5d2a44792c90f537947168bbfac0a414f2102607c2947816c0b890e0c"), looks := true }, kinds := [], alts := [], laidByText := true, laidKinds := [.data, .sentinel, .pinned], laidTests := true, laidLooks := .later }
def FnExactLinesPlanCardSaid : Prop := Claim7.holds Tryd.pinned (.plain (OpenSpec.ofChange fnExactLinesPlanSpec)) fnExactLinesPlanCard

/-- THE TIED CARD OF 'laws.FnExactPlanText'. -/
def fnExactPlanTextCard : Claim7 := { stood := { row := fnExactPlanTextRow, standIns := [], harness := (true, "8cda59a5d2a44792c90f537947168bbfac0a414f2102607c2947816c0b890e0c"), looks := true }, kinds := [], alts := [], laidByText := true, laidKinds := [.sentinel], laidTests := true, laidLooks := .later }
def FnExactPlanTextCardSaid : Prop := Claim7.holds Tryd.pinned (.plain (OpenSpec.ofChange fnExactPlanTextSpec)) fnExactPlanTextCard

/-- THE SECOND FORM's CARD OF 'laws.FnPlanText'. -/
def fnPlanTextUptoCard : Claim7 := { stood := { row := fnPlanTextUptoRow, standIns := [], harness := (true, "8cda59a5d2a44792c90f537947168bbfac0a414f2102607c2947816c0b890e0c"), looks := true }, kinds := [], alts := [], laidByText := true, laidKinds := [.data, .sentinel, .pinned], laidTests := true, laidLooks := .later }
def FnPlanTextUptoCardSaid : Prop := Claim7.holds Tryd.pinned (.plain (OpenSpec.upto fnPlanTextSpec)) fnPlanTextUptoCard

/-- THE SECOND FORM's CARD OF 'laws.FnLinesPlan'. -/
def fnLinesPlanUptoCard : Claim7 := { stood := { row := fnLinesPlanUptoRow, standIns := [], harness := (true, "8cda59a5d2a44792c90f537947168bbfac0a414f2102607c2947816c0b890e0c"), looks := true }, kinds := [], alts := [], laidByText := true, laidKinds := [.data, .sentinel, .pinned], laidTests := true, laidLooks := .later }
def FnLinesPlanUptoCardSaid : Prop := Claim7.holds Tryd.pinned (.plain (OpenSpec.upto fnLinesPlanSpec)) fnLinesPlanUptoCard

/-- THE SECOND FORM's CARD OF 'laws.FnExactLinesPlan'. -/
def fnExactLinesPlanUptoCard : Claim7 := { stood := { row := fnExactLinesPlanUptoRow, standIns := [], harness := (true, "8cda59a5d2a44792c90f537947168bbfac0a414f2102607c2947816c0b890e0c"), looks := true }, kinds := [], alts := [], laidByText := true, laidKinds := [.data, .sentinel, .pinned], laidTests := true, laidLooks := .later }
def FnExactLinesPlanUptoCardSaid : Prop := Claim7.holds Tryd.pinned (.plain (OpenSpec.upto fnExactLinesPlanSpec)) fnExactLinesPlanUptoCard

/-- THE SECOND FORM's CARD OF 'laws.FnExactPlanText'. -/
def fnExactPlanTextUptoCard : Claim7 := { stood := { row := fnExactPlanTextUptoRow, standIns := [], harness := (true, "8cda59a5d2a44792c90f537947168bbfac0a414f2102607c2947816c0b890e0c"), looks := true }, kinds := [], alts := [], laidByText := true, laidKinds := [.sentinel], laidTests := true, laidLooks := .later }
def FnExactPlanTextUptoCardSaid : Prop := Claim7.holds Tryd.pinned (.plain (OpenSpec.upto fnExactPlanTextSpec)) fnExactPlanTextUptoCard
end Rows
end Go.Proofs.YtfofchgcbdbikaaDoor
