/-
  DERIVED. GIVEN WITH THE SEED: THE CARDS: each row of YtpkfgjloepbfpaaDoorRows.lean that lists a variable, with what it lists TIED to the program's text (the seventh form; the later family's looks); each row that meets fmt, with fmt's text TOLD by the authors' own Lean function (tested against real Go, not proved from fmt's source: count such statements apart). THE CARD IS WHAT COUNTS. Prove the row's statement (the work); the ties are given (YtpkfgjloepbfpaaDoorTie.lean); close each card by the builder's one call (the guide's Derived/Test/ToyasCard.lean, 'card_holds'). Laid BY PROGRAM, IN A SANDBOX (cutbox-door.mjs). By AI agents, Wed Nov 11 2026. No macro, syntax, notation, axiom, sorry.
-/
import Derived.Test.YtpkfgjloepbfpaaDoorRows
import GoSem.ClaimSeven
namespace Go.Proofs.YtpkfgjloepbfpaaDoor
namespace Rows

/-- THE TIED CARD OF 'laws.FnPlanOk'. -/
def fnPlanOkCard : Claim7 := { stood := { row := fnPlanOkRow, standIns := [], harness := (true, "8aca6adddf0df3c876ad36564b0a72cf5e138dc10d5d895fcd7148663e44bb65"), looks := true }, kinds := [], alts := [], laidByText := true, laidKinds := [.sentinel], laidTests := true, laidLooks := .later }
def FnPlanOkCardSaid : Prop := Claim7.holds Tryd.pinned (.plain (OpenSpec.ofChange fnPlanOkSpec)) fnPlanOkCard

/-- THE TIED CARD OF 'laws.FnExactPlanOk'. -/
def fnExactPlanOkCard : Claim7 := { stood := { row := fnExactPlanOkRow, standIns := [], harness := (true, "8aca6adddf0df3c876ad36564b0a72cf5e138dc10d5d895fcd7148663e44bb65"), looks := true }, kinds := [], alts := [], laidByText := true, laidKinds := [.sentinel], laidTests := true, laidLooks := .later }
def FnExactPlanOkCardSaid : Prop := Claim7.holds Tryd.pinned (.plain (OpenSpec.ofChange fnExactPlanOkSpec)) fnExactPlanOkCard

/-- THE SECOND FORM's CARD OF 'laws.FnPlanOk'. -/
def fnPlanOkUptoCard : Claim7 := { stood := { row := fnPlanOkUptoRow, standIns := [], harness := (true, "8aca6adddf0df3c876ad36564b0a72cf5e138dc10d5d895fcd7148663e44bb65"), looks := true }, kinds := [], alts := [], laidByText := true, laidKinds := [.sentinel], laidTests := true, laidLooks := .later }
def FnPlanOkUptoCardSaid : Prop := Claim7.holds Tryd.pinned (.plain (OpenSpec.upto fnPlanOkSpec)) fnPlanOkUptoCard

/-- THE SECOND FORM's CARD OF 'laws.FnExactPlanOk'. -/
def fnExactPlanOkUptoCard : Claim7 := { stood := { row := fnExactPlanOkUptoRow, standIns := [], harness := (true, "8aca6adddf0df3c876ad36564b0a72cf5e138dc10d5d895fcd7148663e44bb65"), looks := true }, kinds := [], alts := [], laidByText := true, laidKinds := [.sentinel], laidTests := true, laidLooks := .later }
def FnExactPlanOkUptoCardSaid : Prop := Claim7.holds Tryd.pinned (.plain (OpenSpec.upto fnExactPlanOkSpec)) fnExactPlanOkUptoCard
end Rows
end Go.Proofs.YtpkfgjloepbfpaaDoor
