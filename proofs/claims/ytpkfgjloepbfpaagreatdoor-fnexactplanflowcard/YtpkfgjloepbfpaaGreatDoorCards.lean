/-
  DERIVED. GIVEN WITH THE SEED: THE CARDS: each row of YtpkfgjloepbfpaaGreatDoorRows.lean that lists a variable, with what it lists TIED to the program's text (the seventh form; the later family's looks); each row that meets fmt, with fmt's text TOLD by the authors' own Lean function (tested against real Go, not proved from fmt's source: count such statements apart). THE CARD IS WHAT COUNTS. Prove the row's statement (the work); the ties are given (YtpkfgjloepbfpaaGreatDoorTie.lean); close each card by the builder's one call (the guide's Derived/Test/ToyasCard.lean, 'card_holds'). Laid BY PROGRAM, IN A SANDBOX (cutbox-door.mjs). By AI agents, Wed Nov 11 2026. No macro, syntax, notation, axiom, sorry.
-/
import Derived.Test.YtpkfgjloepbfpaaGreatDoorRows
import GoSem.ClaimSeven
namespace Go.Proofs.YtpkfgjloepbfpaaGreatDoor
namespace Rows

/-- THE TIED CARD OF 'laws.FnExactPlanFlow'. -/
def fnExactPlanFlowCard : Claim7 := { stood := { row := fnExactPlanFlowRow, standIns := [], harness := (true, "62bfb5c5be8d722caaa4ef6a1c37fee8b6fc0c81d6cfd7b2190f899aa0815ab4"), looks := true }, kinds := [], alts := [], laidByText := true, laidKinds := [.sentinel], laidTests := true, laidLooks := .later }
def FnExactPlanFlowCardSaid : Prop := Claim7.holds Tryz.pinned (.plain (OpenSpec.ofChange fnExactPlanFlowSpec)) fnExactPlanFlowCard

/-- THE SECOND FORM's CARD OF 'laws.FnExactPlanFlow'. -/
def fnExactPlanFlowUptoCard : Claim7 := { stood := { row := fnExactPlanFlowUptoRow, standIns := [], harness := (true, "62bfb5c5be8d722caaa4ef6a1c37fee8b6fc0c81d6cfd7b2190f899aa0815ab4"), looks := true }, kinds := [], alts := [], laidByText := true, laidKinds := [.sentinel], laidTests := true, laidLooks := .later }
def FnExactPlanFlowUptoCardSaid : Prop := Claim7.holds Tryz.pinned (.plain (OpenSpec.upto fnExactPlanFlowSpec)) fnExactPlanFlowUptoCard
end Rows
end Go.Proofs.YtpkfgjloepbfpaaGreatDoor
