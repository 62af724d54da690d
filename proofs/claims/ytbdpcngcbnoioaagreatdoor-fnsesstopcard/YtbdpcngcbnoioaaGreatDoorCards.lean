/-
  DERIVED. GIVEN WITH THE SEED: THE CARDS: each row of YtbdpcngcbnoioaaGreatDoorRows.lean that lists a variable, with what it lists TIED to the program's text (the seventh form; the later family's looks); each row that meets fmt, with fmt's text TOLD by the authors' own Lean function (tested against real Go, not proved from fmt's source: count such statements apart). THE CARD IS WHAT COUNTS. Prove the row's statement (the work); the ties are given (YtbdpcngcbnoioaaGreatDoorTie.lean); close each card by the builder's one call (the guide's Derived/Test/ToyasCard.lean, 'card_holds'). Laid BY PROGRAM, IN A SANDBOX (cutbox-door.mjs). By AI agents, Wed Nov 11 2026. No macro, syntax, notation, axiom, sorry.
-/
import Derived.Test.YtbdpcngcbnoioaaGreatDoorRows
import GoSem.ClaimSeven
namespace Go.Proofs.YtbdpcngcbnoioaaGreatDoor
namespace Rows

/-- THE TIED CARD OF 'laws.FnSessTop'. -/
def fnSessTopCard : Claim7 := { stood := { row := fnSessTopRow, standIns := [], harness := (true, "b1d2df3a4df927dcae6fcbd54839a1b53bf3549f8fe6d5d6976c12bbe7c5f6bd"), looks := true }, kinds := [], alts := [], laidByText := true, laidKinds := [.sentinel], laidTests := true, laidLooks := .later }
def FnSessTopCardSaid : Prop := Claim7.holds Tryz.pinned (.plain (OpenSpec.ofChange fnSessTopSpec)) fnSessTopCard

/-- THE TIED CARD OF 'laws.FnSessOn'. -/
def fnSessOnCard : Claim7 := { stood := { row := fnSessOnRow, standIns := [], harness := (true, "b1d2df3a4df927dcae6fcbd54839a1b53bf3549f8fe6d5d6976c12bbe7c5f6bd"), looks := true }, kinds := [], alts := [], laidByText := true, laidKinds := [.sentinel], laidTests := true, laidLooks := .later }
def FnSessOnCardSaid : Prop := Claim7.holds Tryz.pinned (.plain (OpenSpec.ofChange fnSessOnSpec)) fnSessOnCard

/-- THE TIED CARD OF 'laws.FnSessOnNew'. -/
def fnSessOnNewCard : Claim7 := { stood := { row := fnSessOnNewRow, standIns := [], harness := (true, "b1d2df3a4df927dcae6fcbd54839a1b53bf3549f8fe6d5d6976c12bbe7c5f6bd"), looks := true }, kinds := [], alts := [], laidByText := true, laidKinds := [.sentinel], laidTests := true, laidLooks := .later }
def FnSessOnNewCardSaid : Prop := Claim7.holds Tryz.pinned (.plain (OpenSpec.ofChange fnSessOnNewSpec)) fnSessOnNewCard

/-- THE TIED CARD OF 'laws.FnSessSteps'. -/
def fnSessStepsCard : Claim7 := { stood := { row := fnSessStepsRow, standIns := [], harness := (true, "b1d2df3a4df927dcae6fcbd54839a1b53bf3549f8fe6d5d6976c12bbe7c5f6bd"), looks := true }, kinds := [], alts := [], laidByText := true, laidKinds := [.sentinel], laidTests := true, laidLooks := .later }
def FnSessStepsCardSaid : Prop := Claim7.holds Tryz.pinned (.plain (OpenSpec.ofChange fnSessStepsSpec)) fnSessStepsCard

/-- THE TIED CARD OF 'laws.FnSessEnd'. -/
def fnSessEndCard : Claim7 := { stood := { row := fnSessEndRow, standIns := [], harness := (true, "b1d2df3a4df927dcae6fcbd54839a1b53bf3549f8fe6d5d6976c12bbe7c5f6bd"), looks := true }, kinds := [], alts := [], laidByText := true, laidKinds := [.sentinel], laidTests := true, laidLooks := .later }
def FnSessEndCardSaid : Prop := Claim7.holds Tryz.pinned (.plain (OpenSpec.ofChange fnSessEndSpec)) fnSessEndCard

/-- THE TIED CARD OF 'laws.FnSessNew'. -/
def fnSessNewCard : Claim7 := { stood := { row := fnSessNewRow, standIns := [], harness := (true, "b1d2df3a4df927dcae6fcbd54839a1b53bf3549f8fe6d5d6976c12bbe7c5f6bd"), looks := true }, kinds := [], alts := [], laidByText := true, laidKinds := [.sentinel], laidTests := true, laidLooks := .later }
def FnSessNewCardSaid : Prop := Claim7.holds Tryz.pinned (.plain (OpenSpec.ofChange fnSessNewSpec)) fnSessNewCard

/-- THE TIED CARD OF 'laws.FnSessNot'. -/
def fnSessNotCard : Claim7 := { stood := { row := fnSessNotRow, standIns := [], harness := (true, "b1d2df3a4df927dcae6fcbd54839a1b53bf3549f8fe6d5d6976c12bbe7c5f6bd"), looks := true }, kinds := [], alts := [], laidByText := true, laidKinds := [.sentinel], laidTests := true, laidLooks := .later }
def FnSessNotCardSaid : Prop := Claim7.holds Tryz.pinned (.plain (OpenSpec.ofChange fnSessNotSpec)) fnSessNotCard

/-- THE TIED CARD OF 'laws.FnSessBack'. -/
def fnSessBackCard : Claim7 := { stood := { row := fnSessBackRow, standIns := [], harness := (true, "b1d2df3a4df927dcae6fcbd54839a1b53bf3549f8fe6d5d6976c12bbe7c5f6bd"), looks := true }, kinds := [], alts := [], laidByText := true, laidKinds := [.sentinel], laidTests := true, laidLooks := .later }
def FnSessBackCardSaid : Prop := Claim7.holds Tryz.pinned (.plain (OpenSpec.ofChange fnSessBackSpec)) fnSessBackCard

/-- THE TIED CARD OF 'laws.FnExactSessOk'. -/
def fnExactSessOkCard : Claim7 := { stood := { row := fnExactSessOkRow, standIns := [], harness := (true, "b1d2df3a4df927dcae6fcbd54839a1b53bf3549f8fe6d5d6976c12bbe7c5f6bd"), looks := true }, kinds := [], alts := [], laidByText := true, laidKinds := [.sentinel], laidTests := true, laidLooks := .later }
def FnExactSessOkCardSaid : Prop := Claim7.holds Tryz.pinned (.plain (OpenSpec.ofChange fnExactSessOkSpec)) fnExactSessOkCard

/-- THE TIED CARD OF 'laws.FnExactSessOn'. -/
def fnExactSessOnCard : Claim7 := { stood := { row := fnExactSessOnRow, standIns := [], harness := (true, "b1d2df3a4df927dcae6fcbd54839a1b53bf3549f8fe6d5d6976c12bbe7c5f6bd"), looks := true }, kinds := [], alts := [], laidByText := true, laidKinds := [.sentinel], laidTests := true, laidLooks := .later }
def FnExactSessOnCardSaid : Prop := Claim7.holds Tryz.pinned (.plain (OpenSpec.ofChange fnExactSessOnSpec)) fnExactSessOnCard

/-- THE TIED CARD OF 'laws.FnExactSessAt'. -/
def fnExactSessAtCard : Claim7 := { stood := { row := fnExactSessAtRow, standIns := [], harness := (true, "b1d2df3a4df927dcae6fcbd54839a1b53bf3549f8fe6d5d6976c12bbe7c5f6bd"), looks := true }, kinds := [], alts := [], laidByText := true, laidKinds := [.sentinel], laidTests := true, laidLooks := .later }
def FnExactSessAtCardSaid : Prop := Claim7.holds Tryz.pinned (.plain (OpenSpec.ofChange fnExactSessAtSpec)) fnExactSessAtCard

/-- THE SECOND FORM's CARD OF 'laws.FnSessTop'. -/
def fnSessTopUptoCard : Claim7 := { stood := { row := fnSessTopUptoRow, standIns := [], harness := (true, "b1d2df3a4df927dcae6fcbd54839a1b53bf3549f8fe6d5d6976c12bbe7c5f6bd"), looks := true }, kinds := [], alts := [], laidByText := true, laidKinds := [.sentinel], laidTests := true, laidLooks := .later }
def FnSessTopUptoCardSaid : Prop := Claim7.holds Tryz.pinned (.plain (OpenSpec.upto fnSessTopSpec)) fnSessTopUptoCard

/-- THE SECOND FORM's CARD OF 'laws.FnSessOn'. -/
def fnSessOnUptoCard : Claim7 := { stood := { row := fnSessOnUptoRow, standIns := [], harness := (true, "b1d2df3a4df927dcae6fcbd54839a1b53bf3549f8fe6d5d6976c12bbe7c5f6bd"), looks := true }, kinds := [], alts := [], laidByText := true, laidKinds := [.sentinel], laidTests := true, laidLooks := .later }
def FnSessOnUptoCardSaid : Prop := Claim7.holds Tryz.pinned (.plain (OpenSpec.upto fnSessOnSpec)) fnSessOnUptoCard

/-- THE SECOND FORM's CARD OF 'laws.FnSessOnNew'. -/
def fnSessOnNewUptoCard : Claim7 := { stood := { row := fnSessOnNewUptoRow, standIns := [], harness := (true, "b1d2df3a4df927dcae6fcbd54839a1b53bf3549f8fe6d5d6976c12bbe7c5f6bd"), looks := true }, kinds := [], alts := [], laidByText := true, laidKinds := [.sentinel], laidTests := true, laidLooks := .later }
def FnSessOnNewUptoCardSaid : Prop := Claim7.holds Tryz.pinned (.plain (OpenSpec.upto fnSessOnNewSpec)) fnSessOnNewUptoCard

/-- THE SECOND FORM's CARD OF 'laws.FnSessSteps'. -/
def fnSessStepsUptoCard : Claim7 := { stood := { row := fnSessStepsUptoRow, standIns := [], harness := (true, "b1d2df3a4df927dcae6fcbd54839a1b53bf3549f8fe6d5d6976c12bbe7c5f6bd"), looks := true }, kinds := [], alts := [], laidByText := true, laidKinds := [.sentinel], laidTests := true, laidLooks := .later }
def FnSessStepsUptoCardSaid : Prop := Claim7.holds Tryz.pinned (.plain (OpenSpec.upto fnSessStepsSpec)) fnSessStepsUptoCard

/-- THE SECOND FORM's CARD OF 'laws.FnSessEnd'. -/
def fnSessEndUptoCard : Claim7 := { stood := { row := fnSessEndUptoRow, standIns := [], harness := (true, "b1d2df3a4df927dcae6fcbd54839a1b53bf3549f8fe6d5d6976c12bbe7c5f6bd"), looks := true }, kinds := [], alts := [], laidByText := true, laidKinds := [.sentinel], laidTests := true, laidLooks := .later }
def FnSessEndUptoCardSaid : Prop := Claim7.holds Tryz.pinned (.plain (OpenSpec.upto fnSessEndSpec)) fnSessEndUptoCard

/-- THE SECOND FORM's CARD OF 'laws.FnSessNew'. -/
def fnSessNewUptoCard : Claim7 := { stood := { row := fnSessNewUptoRow, standIns := [], harness := (true, "b1d2df3a4df927dcae6fcbd54839a1b53bf3549f8fe6d5d6976c12bbe7c5f6bd"), looks := true }, kinds := [], alts := [], laidByText := true, laidKinds := [.sentinel], laidTests := true, laidLooks := .later }
def FnSessNewUptoCardSaid : Prop := Claim7.holds Tryz.pinned (.plain (OpenSpec.upto fnSessNewSpec)) fnSessNewUptoCard

/-- THE SECOND FORM's CARD OF 'laws.FnSessNot'. -/
def fnSessNotUptoCard : Claim7 := { stood := { row := fnSessNotUptoRow, standIns := [], harness := (true, "b1d2df3a4df927dcae6fcbd54839a1b53bf3549f8fe6d5d6976c12bbe7c5f6bd"), looks := true }, kinds := [], alts := [], laidByText := true, laidKinds := [.sentinel], laidTests := true, laidLooks := .later }
def FnSessNotUptoCardSaid : Prop := Claim7.holds Tryz.pinned (.plain (OpenSpec.upto fnSessNotSpec)) fnSessNotUptoCard

/-- THE SECOND FORM's CARD OF 'laws.FnSessBack'. -/
def fnSessBackUptoCard : Claim7 := { stood := { row := fnSessBackUptoRow, standIns := [], harness := (true, "b1d2df3a4df927dcae6fcbd54839a1b53bf3549f8fe6d5d6976c12bbe7c5f6bd"), looks := true }, kinds := [], alts := [], laidByText := true, laidKinds := [.sentinel], laidTests := true, laidLooks := .later }
def FnSessBackUptoCardSaid : Prop := Claim7.holds Tryz.pinned (.plain (OpenSpec.upto fnSessBackSpec)) fnSessBackUptoCard

/-- THE SECOND FORM's CARD OF 'laws.FnExactSessOk'. -/
def fnExactSessOkUptoCard : Claim7 := { stood := { row := fnExactSessOkUptoRow, standIns := [], harness := (true, "b1d2df3a4df927dcae6fcbd54839a1b53bf3549f8fe6d5d6976c12bbe7c5f6bd"), looks := true }, kinds := [], alts := [], laidByText := true, laidKinds := [.sentinel], laidTests := true, laidLooks := .later }
def FnExactSessOkUptoCardSaid : Prop := Claim7.holds Tryz.pinned (.plain (OpenSpec.upto fnExactSessOkSpec)) fnExactSessOkUptoCard

/-- THE SECOND FORM's CARD OF 'laws.FnExactSessOn'. -/
def fnExactSessOnUptoCard : Claim7 := { stood := { row := fnExactSessOnUptoRow, standIns := [], harness := (true, "b1d2df3a4df927dcae6fcbd54839a1b53bf3549f8fe6d5d6976c12bbe7c5f6bd"), looks := true }, kinds := [], alts := [], laidByText := true, laidKinds := [.sentinel], laidTests := true, laidLooks := .later }
def FnExactSessOnUptoCardSaid : Prop := Claim7.holds Tryz.pinned (.plain (OpenSpec.upto fnExactSessOnSpec)) fnExactSessOnUptoCard

/-- THE SECOND FORM's CARD OF 'laws.FnExactSessAt'. -/
def fnExactSessAtUptoCard : Claim7 := { stood := { row := fnExactSessAtUptoRow, standIns := [], harness := (true, "b1d2df3a4df927dcae6fcbd54839a1b53bf3549f8fe6d5d6976c12bbe7c5f6bd"), looks := true }, kinds := [], alts := [], laidByText := true, laidKinds := [.sentinel], laidTests := true, laidLooks := .later }
def FnExactSessAtUptoCardSaid : Prop := Claim7.holds Tryz.pinned (.plain (OpenSpec.upto fnExactSessAtSpec)) fnExactSessAtUptoCard
end Rows
end Go.Proofs.YtbdpcngcbnoioaaGreatDoor
