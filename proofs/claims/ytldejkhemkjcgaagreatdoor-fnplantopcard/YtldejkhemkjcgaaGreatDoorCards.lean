/-
  DERIVED. GIVEN WITH THE SEED: THE CARDS: each row of YtldejkhemkjcgaaGreatDoorRows.lean that lists a variable, with what it lists TIED to the program's text (the seventh form; the later family's looks); each row that meets fmt, with fmt's text TOLD by the authors' own Lean function (tested against real Go, not proved from fmt's source: count such statements apart). THE CARD IS WHAT COUNTS. Prove the row's statement (the work); the ties are given (YtldejkhemkjcgaaGreatDoorTie.lean); close each card by the builder's one call (the guide's Derived/Test/ToyasCard.lean, 'card_holds'). Laid BY PROGRAM, IN A SANDBOX (cutbox-door.mjs). By AI agents, Wed Nov 11 2026. No macro, syntax, notation, axiom, sorry.
-/
import Derived.Test.YtldejkhemkjcgaaGreatDoorRows
import GoSem.ClaimSeven
namespace Go.Proofs.YtldejkhemkjcgaaGreatDoor
namespace Rows

/-- THE TIED CARD OF 'laws.FnPlanTop'. -/
def fnPlanTopCard : Claim7 := { stood := { row := fnPlanTopRow, standIns := [], harness := (true, "1d6bc0a2d9c5e8da126e68286480c278343752ceeb8e1566d6bda3c75fa19b49"), looks := true }, kinds := [], alts := [], laidByText := true, laidKinds := [.sentinel], laidTests := true, laidLooks := .later }
def FnPlanTopCardSaid : Prop := Claim7.holds Tryz.pinned (.plain (OpenSpec.ofChange fnPlanTopSpec)) fnPlanTopCard

/-- THE TIED CARD OF 'laws.FnPlanBatch'. -/
def fnPlanBatchCard : Claim7 := { stood := { row := fnPlanBatchRow, standIns := [], harness := (true, "1d6bc0a2d9c5e8da126e68286480c278343752ceeb8e1566d6bda3c75fa19b49"), looks := true }, kinds := [], alts := [], laidByText := true, laidKinds := [.sentinel], laidTests := true, laidLooks := .later }
def FnPlanBatchCardSaid : Prop := Claim7.holds Tryz.pinned (.plain (OpenSpec.ofChange fnPlanBatchSpec)) fnPlanBatchCard

/-- THE TIED CARD OF 'laws.FnPlanMove'. -/
def fnPlanMoveCard : Claim7 := { stood := { row := fnPlanMoveRow, standIns := [], harness := (true, "1d6bc0a2d9c5e8da126e68286480c278343752ceeb8e1566d6bda3c75fa19b49"), looks := true }, kinds := [], alts := [], laidByText := true, laidKinds := [.sentinel], laidTests := true, laidLooks := .later }
def FnPlanMoveCardSaid : Prop := Claim7.holds Tryz.pinned (.plain (OpenSpec.ofChange fnPlanMoveSpec)) fnPlanMoveCard

/-- THE TIED CARD OF 'laws.FnPlanAhead'. -/
def fnPlanAheadCard : Claim7 := { stood := { row := fnPlanAheadRow, standIns := [], harness := (true, "1d6bc0a2d9c5e8da126e68286480c278343752ceeb8e1566d6bda3c75fa19b49"), looks := true }, kinds := [], alts := [], laidByText := true, laidKinds := [.sentinel], laidTests := true, laidLooks := .later }
def FnPlanAheadCardSaid : Prop := Claim7.holds Tryz.pinned (.plain (OpenSpec.ofChange fnPlanAheadSpec)) fnPlanAheadCard

/-- THE TIED CARD OF 'laws.FnPlanLess'. -/
def fnPlanLessCard : Claim7 := { stood := { row := fnPlanLessRow, standIns := [], harness := (true, "1d6bc0a2d9c5e8da126e68286480c278343752ceeb8e1566d6bda3c75fa19b49"), looks := true }, kinds := [], alts := [], laidByText := true, laidKinds := [.sentinel], laidTests := true, laidLooks := .later }
def FnPlanLessCardSaid : Prop := Claim7.holds Tryz.pinned (.plain (OpenSpec.ofChange fnPlanLessSpec)) fnPlanLessCard

/-- THE TIED CARD OF 'laws.FnPlanBoth'. -/
def fnPlanBothCard : Claim7 := { stood := { row := fnPlanBothRow, standIns := [], harness := (true, "1d6bc0a2d9c5e8da126e68286480c278343752ceeb8e1566d6bda3c75fa19b49"), looks := true }, kinds := [], alts := [], laidByText := true, laidKinds := [.sentinel], laidTests := true, laidLooks := .later }
def FnPlanBothCardSaid : Prop := Claim7.holds Tryz.pinned (.plain (OpenSpec.ofChange fnPlanBothSpec)) fnPlanBothCard

/-- THE TIED CARD OF 'laws.FnPlanStep'. -/
def fnPlanStepCard : Claim7 := { stood := { row := fnPlanStepRow, standIns := [], harness := (true, "1d6bc0a2d9c5e8da126e68286480c278343752ceeb8e1566d6bda3c75fa19b49"), looks := true }, kinds := [], alts := [], laidByText := true, laidKinds := [.sentinel], laidTests := true, laidLooks := .later }
def FnPlanStepCardSaid : Prop := Claim7.holds Tryz.pinned (.plain (OpenSpec.ofChange fnPlanStepSpec)) fnPlanStepCard

/-- THE TIED CARD OF 'laws.FnPlanSame'. -/
def fnPlanSameCard : Claim7 := { stood := { row := fnPlanSameRow, standIns := [], harness := (true, "1d6bc0a2d9c5e8da126e68286480c278343752ceeb8e1566d6bda3c75fa19b49"), looks := true }, kinds := [], alts := [], laidByText := true, laidKinds := [.sentinel], laidTests := true, laidLooks := .later }
def FnPlanSameCardSaid : Prop := Claim7.holds Tryz.pinned (.plain (OpenSpec.ofChange fnPlanSameSpec)) fnPlanSameCard

/-- THE TIED CARD OF 'laws.FnPlanIns'. -/
def fnPlanInsCard : Claim7 := { stood := { row := fnPlanInsRow, standIns := [], harness := (true, "1d6bc0a2d9c5e8da126e68286480c278343752ceeb8e1566d6bda3c75fa19b49"), looks := true }, kinds := [], alts := [], laidByText := true, laidKinds := [.sentinel], laidTests := true, laidLooks := .later }
def FnPlanInsCardSaid : Prop := Claim7.holds Tryz.pinned (.plain (OpenSpec.ofChange fnPlanInsSpec)) fnPlanInsCard

/-- THE TIED CARD OF 'laws.FnPlanSetOk'. -/
def fnPlanSetOkCard : Claim7 := { stood := { row := fnPlanSetOkRow, standIns := [], harness := (true, "1d6bc0a2d9c5e8da126e68286480c278343752ceeb8e1566d6bda3c75fa19b49"), looks := true }, kinds := [], alts := [], laidByText := true, laidKinds := [.sentinel], laidTests := true, laidLooks := .later }
def FnPlanSetOkCardSaid : Prop := Claim7.holds Tryz.pinned (.plain (OpenSpec.ofChange fnPlanSetOkSpec)) fnPlanSetOkCard

/-- THE SECOND FORM's CARD OF 'laws.FnPlanTop'. -/
def fnPlanTopUptoCard : Claim7 := { stood := { row := fnPlanTopUptoRow, standIns := [], harness := (true, "1d6bc0a2d9c5e8da126e68286480c278343752ceeb8e1566d6bda3c75fa19b49"), looks := true }, kinds := [], alts := [], laidByText := true, laidKinds := [.sentinel], laidTests := true, laidLooks := .later }
def FnPlanTopUptoCardSaid : Prop := Claim7.holds Tryz.pinned (.plain (OpenSpec.upto fnPlanTopSpec)) fnPlanTopUptoCard

/-- THE SECOND FORM's CARD OF 'laws.FnPlanBatch'. -/
def fnPlanBatchUptoCard : Claim7 := { stood := { row := fnPlanBatchUptoRow, standIns := [], harness := (true, "1d6bc0a2d9c5e8da126e68286480c278343752ceeb8e1566d6bda3c75fa19b49"), looks := true }, kinds := [], alts := [], laidByText := true, laidKinds := [.sentinel], laidTests := true, laidLooks := .later }
def FnPlanBatchUptoCardSaid : Prop := Claim7.holds Tryz.pinned (.plain (OpenSpec.upto fnPlanBatchSpec)) fnPlanBatchUptoCard

/-- THE SECOND FORM's CARD OF 'laws.FnPlanMove'. -/
def fnPlanMoveUptoCard : Claim7 := { stood := { row := fnPlanMoveUptoRow, standIns := [], harness := (true, "1d6bc0a2d9c5e8da126e68286480c278343752ceeb8e1566d6bda3c75fa19b49"), looks := true }, kinds := [], alts := [], laidByText := true, laidKinds := [.sentinel], laidTests := true, laidLooks := .later }
def FnPlanMoveUptoCardSaid : Prop := Claim7.holds Tryz.pinned (.plain (OpenSpec.upto fnPlanMoveSpec)) fnPlanMoveUptoCard

/-- THE SECOND FORM's CARD OF 'laws.FnPlanAhead'. -/
def fnPlanAheadUptoCard : Claim7 := { stood := { row := fnPlanAheadUptoRow, standIns := [], harness := (true, "1d6bc0a2d9c5e8da126e68286480c278343752ceeb8e1566d6bda3c75fa19b49"), looks := true }, kinds := [], alts := [], laidByText := true, laidKinds := [.sentinel], laidTests := true, laidLooks := .later }
def FnPlanAheadUptoCardSaid : Prop := Claim7.holds Tryz.pinned (.plain (OpenSpec.upto fnPlanAheadSpec)) fnPlanAheadUptoCard

/-- THE SECOND FORM's CARD OF 'laws.FnPlanLess'. -/
def fnPlanLessUptoCard : Claim7 := { stood := { row := fnPlanLessUptoRow, standIns := [], harness := (true, "1d6bc0a2d9c5e8da126e68286480c278343752ceeb8e1566d6bda3c75fa19b49"), looks := true }, kinds := [], alts := [], laidByText := true, laidKinds := [.sentinel], laidTests := true, laidLooks := .later }
def FnPlanLessUptoCardSaid : Prop := Claim7.holds Tryz.pinned (.plain (OpenSpec.upto fnPlanLessSpec)) fnPlanLessUptoCard

/-- THE SECOND FORM's CARD OF 'laws.FnPlanBoth'. -/
def fnPlanBothUptoCard : Claim7 := { stood := { row := fnPlanBothUptoRow, standIns := [], harness := (true, "1d6bc0a2d9c5e8da126e68286480c278343752ceeb8e1566d6bda3c75fa19b49"), looks := true }, kinds := [], alts := [], laidByText := true, laidKinds := [.sentinel], laidTests := true, laidLooks := .later }
def FnPlanBothUptoCardSaid : Prop := Claim7.holds Tryz.pinned (.plain (OpenSpec.upto fnPlanBothSpec)) fnPlanBothUptoCard

/-- THE SECOND FORM's CARD OF 'laws.FnPlanStep'. -/
def fnPlanStepUptoCard : Claim7 := { stood := { row := fnPlanStepUptoRow, standIns := [], harness := (true, "1d6bc0a2d9c5e8da126e68286480c278343752ceeb8e1566d6bda3c75fa19b49"), looks := true }, kinds := [], alts := [], laidByText := true, laidKinds := [.sentinel], laidTests := true, laidLooks := .later }
def FnPlanStepUptoCardSaid : Prop := Claim7.holds Tryz.pinned (.plain (OpenSpec.upto fnPlanStepSpec)) fnPlanStepUptoCard

/-- THE SECOND FORM's CARD OF 'laws.FnPlanSame'. -/
def fnPlanSameUptoCard : Claim7 := { stood := { row := fnPlanSameUptoRow, standIns := [], harness := (true, "1d6bc0a2d9c5e8da126e68286480c278343752ceeb8e1566d6bda3c75fa19b49"), looks := true }, kinds := [], alts := [], laidByText := true, laidKinds := [.sentinel], laidTests := true, laidLooks := .later }
def FnPlanSameUptoCardSaid : Prop := Claim7.holds Tryz.pinned (.plain (OpenSpec.upto fnPlanSameSpec)) fnPlanSameUptoCard

/-- THE SECOND FORM's CARD OF 'laws.FnPlanIns'. -/
def fnPlanInsUptoCard : Claim7 := { stood := { row := fnPlanInsUptoRow, standIns := [], harness := (true, "1d6bc0a2d9c5e8da126e68286480c278343752ceeb8e1566d6bda3c75fa19b49"), looks := true }, kinds := [], alts := [], laidByText := true, laidKinds := [.sentinel], laidTests := true, laidLooks := .later }
def FnPlanInsUptoCardSaid : Prop := Claim7.holds Tryz.pinned (.plain (OpenSpec.upto fnPlanInsSpec)) fnPlanInsUptoCard

/-- THE SECOND FORM's CARD OF 'laws.FnPlanSetOk'. -/
def fnPlanSetOkUptoCard : Claim7 := { stood := { row := fnPlanSetOkUptoRow, standIns := [], harness := (true, "1d6bc0a2d9c5e8da126e68286480c278343752ceeb8e1566d6bda3c75fa19b49"), looks := true }, kinds := [], alts := [], laidByText := true, laidKinds := [.sentinel], laidTests := true, laidLooks := .later }
def FnPlanSetOkUptoCardSaid : Prop := Claim7.holds Tryz.pinned (.plain (OpenSpec.upto fnPlanSetOkSpec)) fnPlanSetOkUptoCard
end Rows
end Go.Proofs.YtldejkhemkjcgaaGreatDoor
