/-
  DERIVED. GIVEN WITH THE SEED: THE CARDS: each row of YtbdpcngcbnoioaaDoorRows.lean that lists a variable, with what it lists TIED to the program's text (the seventh form; the later family's looks); each row that meets fmt, with fmt's text TOLD by the authors' own Lean function (tested against real Go, not proved from fmt's source: count such statements apart). THE CARD IS WHAT COUNTS. Prove the row's statement (the work); the ties are given (YtbdpcngcbnoioaaDoorTie.lean); close each card by the builder's one call (the guide's Derived/Test/ToyasCard.lean, 'card_holds'). Laid BY PROGRAM, IN A SANDBOX (cutbox-door.mjs). By AI agents, Wed Nov 11 2026. No macro, syntax, notation, axiom, sorry.
-/
import Derived.Test.YtbdpcngcbnoioaaDoorRows
import GoSem.ClaimSeven
namespace Go.Proofs.YtbdpcngcbnoioaaDoor
namespace Rows

/-- THE TIED CARD OF 'laws.FnExactSessNew'. -/
def fnExactSessNewCard : Claim7 := { stood := { row := fnExactSessNewRow, standIns := [], harness := (true, "866530d70bf35f3550dbb2863e8aee19c158fa4563db8e6f09a6377f328b382b"), looks := true }, kinds := [], alts := [], laidByText := true, laidKinds := [.sentinel], laidTests := true, laidLooks := .later }
def FnExactSessNewCardSaid : Prop := Claim7.holds Tryd.pinned (.plain (OpenSpec.ofChange fnExactSessNewSpec)) fnExactSessNewCard

/-- THE SECOND FORM's CARD OF 'laws.FnExactSessNew'. -/
def fnExactSessNewUptoCard : Claim7 := { stood := { row := fnExactSessNewUptoRow, standIns := [], harness := (true, "866530d70bf35f3550dbb2863e8aee19c158fa4563db8e6f09a6377f328b382b"), looks := true }, kinds := [], alts := [], laidByText := true, laidKinds := [.sentinel], laidTests := true, laidLooks := .later }
def FnExactSessNewUptoCardSaid : Prop := Claim7.holds Tryd.pinned (.plain (OpenSpec.upto fnExactSessNewSpec)) fnExactSessNewUptoCard
end Rows
end Go.Proofs.YtbdpcngcbnoioaaDoor
