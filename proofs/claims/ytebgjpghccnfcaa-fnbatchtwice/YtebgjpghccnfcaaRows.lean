/-
  No cell of these rows narrows 'for every input' (looked for: loops, veiled, ifaces, maps, wideKeys, modest, calm, conditions, laid).
  DERIVED. THE GIVEN ROWS OF THIS SEAT. 6 by the template 'for every input the law returns true; each argument reads behind the call as it read before'; 0 by the template 'total and deterministic' (their statements: YtebgjpghccnfcaaTotals.lean).
  GIVEN WITH THE SEED: the statements are not yours to turn. If you find one false, say at which input.
  Laid BY PROGRAM, IN A SANDBOX (cutbox-rows.mjs): the forced cells as the released guide's own fill.sh prints them over the translation 21baae050a70e9f8… (all of the seat's roots in one cut). By AI agents, Wed Nov 11 2026. No macro, syntax, notation, axiom, sorry.
-/
import Derived.Test.YtebgjpghccnfcaaChecked
import GoSem.Claim
import GoSem.ClaimJoined
import GoSem.ClaimMapViews
import Derived.JoinedTies
import Derived.KernelRfl
namespace Go.Proofs.Ytebgjpghccnfcaa
/- THE CELL 'sum', in the pinned program and in every row, IS THE sha256 OF THE DUMP (.gsa) THAT YtebgjpghccnfcaaProg.lean LOADS. Nothing in Lean hashes anything: it is a label: what it is worth is what the hold of that sum in a sandbox is worth. -/
noncomputable def Try.pinned : Pinned := { name := "ytebgjpghccnfcaa", sum := "21baae050a70e9f81f2628a38e815c6c3c275176500c80268ac133a98564e1a0", checked := Try.checked }
namespace Rows
def none {H : Type} : Left H := { results := [], args := [] }

/-- 'laws.FnBatchOf': WHATEVER THE INPUT: true; the input reads as it did. -/
def fnBatchOfSpec : ChangeSpec := { name := "fnBatchOf", fn := fun _ => fun
  | [d] => { results := [.lit (.bool true)], args := [d] }
  | _ => none }
def fnBatchOfRow : OpenClaim := { program := "ytebgjpghccnfcaa", sum := "21baae050a70e9f81f2628a38e815c6c3c275176500c80268ac133a98564e1a0", func := "loop.example/tideline/laws.FnBatchOf", spec := "fnBatchOf", unfollowed := true, recurses := true, plainKeys := false, apart := false }
def FnBatchOfSaid : Prop := fnBatchOfRow.holds Try.pinned (OpenSpec.ofChange fnBatchOfSpec)

/-- ITS FALSE NEIGHBOUR: 'it returns false'. Refute it at one input. -/
def fnBatchOfWrong : ChangeSpec := { name := "fnBatchOf", fn := fun _ => fun
  | [d] => { results := [.lit (.bool false)], args := [d] }
  | _ => none }
def FnBatchOfWrongFalsely : Prop := fnBatchOfRow.holds Try.pinned (OpenSpec.ofChange fnBatchOfWrong)

/-- 'laws.FnBatchTwice': WHATEVER THE INPUT: true; the input reads as it did. -/
def fnBatchTwiceSpec : ChangeSpec := { name := "fnBatchTwice", fn := fun _ => fun
  | [d] => { results := [.lit (.bool true)], args := [d] }
  | _ => none }
def fnBatchTwiceRow : OpenClaim := { program := "ytebgjpghccnfcaa", sum := "21baae050a70e9f81f2628a38e815c6c3c275176500c80268ac133a98564e1a0", func := "loop.example/tideline/laws.FnBatchTwice", spec := "fnBatchTwice", unfollowed := true, recurses := true, plainKeys := false, apart := false }
def FnBatchTwiceSaid : Prop := fnBatchTwiceRow.holds Try.pinned (OpenSpec.ofChange fnBatchTwiceSpec)

/-- ITS FALSE NEIGHBOUR: 'it returns false'. Refute it at one input. -/
def fnBatchTwiceWrong : ChangeSpec := { name := "fnBatchTwice", fn := fun _ => fun
  | [d] => { results := [.lit (.bool false)], args := [d] }
  | _ => none }
def FnBatchTwiceWrongFalsely : Prop := fnBatchTwiceRow.holds Try.pinned (OpenSpec.ofChange fnBatchTwiceWrong)

/-- 'laws.FnBatchOrder': WHATEVER THE INPUT: true; the input reads as it did. -/
def fnBatchOrderSpec : ChangeSpec := { name := "fnBatchOrder", fn := fun _ => fun
  | [d] => { results := [.lit (.bool true)], args := [d] }
  | _ => none }
def fnBatchOrderRow : OpenClaim := { program := "ytebgjpghccnfcaa", sum := "21baae050a70e9f81f2628a38e815c6c3c275176500c80268ac133a98564e1a0", func := "loop.example/tideline/laws.FnBatchOrder", spec := "fnBatchOrder", unfollowed := true, recurses := true, plainKeys := false, apart := false }
def FnBatchOrderSaid : Prop := fnBatchOrderRow.holds Try.pinned (OpenSpec.ofChange fnBatchOrderSpec)

/-- ITS FALSE NEIGHBOUR: 'it returns false'. Refute it at one input. -/
def fnBatchOrderWrong : ChangeSpec := { name := "fnBatchOrder", fn := fun _ => fun
  | [d] => { results := [.lit (.bool false)], args := [d] }
  | _ => none }
def FnBatchOrderWrongFalsely : Prop := fnBatchOrderRow.holds Try.pinned (OpenSpec.ofChange fnBatchOrderWrong)

/-- 'laws.FnBatchTurn': WHATEVER THE INPUT: true; the input reads as it did. -/
def fnBatchTurnSpec : ChangeSpec := { name := "fnBatchTurn", fn := fun _ => fun
  | [d] => { results := [.lit (.bool true)], args := [d] }
  | _ => none }
def fnBatchTurnRow : OpenClaim := { program := "ytebgjpghccnfcaa", sum := "21baae050a70e9f81f2628a38e815c6c3c275176500c80268ac133a98564e1a0", func := "loop.example/tideline/laws.FnBatchTurn", spec := "fnBatchTurn", unfollowed := true, recurses := true, plainKeys := false, apart := false }
def FnBatchTurnSaid : Prop := fnBatchTurnRow.holds Try.pinned (OpenSpec.ofChange fnBatchTurnSpec)

/-- ITS FALSE NEIGHBOUR: 'it returns false'. Refute it at one input. -/
def fnBatchTurnWrong : ChangeSpec := { name := "fnBatchTurn", fn := fun _ => fun
  | [d] => { results := [.lit (.bool false)], args := [d] }
  | _ => none }
def FnBatchTurnWrongFalsely : Prop := fnBatchTurnRow.holds Try.pinned (OpenSpec.ofChange fnBatchTurnWrong)

/-- 'laws.FnBatchMove': WHATEVER THE INPUT: true; the input reads as it did. -/
def fnBatchMoveSpec : ChangeSpec := { name := "fnBatchMove", fn := fun _ => fun
  | [d] => { results := [.lit (.bool true)], args := [d] }
  | _ => none }
def fnBatchMoveRow : OpenClaim := { program := "ytebgjpghccnfcaa", sum := "21baae050a70e9f81f2628a38e815c6c3c275176500c80268ac133a98564e1a0", func := "loop.example/tideline/laws.FnBatchMove", spec := "fnBatchMove", unfollowed := true, recurses := true, plainKeys := false, apart := false }
def FnBatchMoveSaid : Prop := fnBatchMoveRow.holds Try.pinned (OpenSpec.ofChange fnBatchMoveSpec)

/-- ITS FALSE NEIGHBOUR: 'it returns false'. Refute it at one input. -/
def fnBatchMoveWrong : ChangeSpec := { name := "fnBatchMove", fn := fun _ => fun
  | [d] => { results := [.lit (.bool false)], args := [d] }
  | _ => none }
def FnBatchMoveWrongFalsely : Prop := fnBatchMoveRow.holds Try.pinned (OpenSpec.ofChange fnBatchMoveWrong)

/-- 'laws.FnBatchMoveTwice': WHATEVER THE INPUT: true; the input reads as it did. -/
def fnBatchMoveTwiceSpec : ChangeSpec := { name := "fnBatchMoveTwice", fn := fun _ => fun
  | [d] => { results := [.lit (.bool true)], args := [d] }
  | _ => none }
def fnBatchMoveTwiceRow : OpenClaim := { program := "ytebgjpghccnfcaa", sum := "21baae050a70e9f81f2628a38e815c6c3c275176500c80268ac133a98564e1a0", func := "loop.example/tideline/laws.FnBatchMoveTwice", spec := "fnBatchMoveTwice", unfollowed := true, recurses := true, plainKeys := false, apart := false }
def FnBatchMoveTwiceSaid : Prop := fnBatchMoveTwiceRow.holds Try.pinned (OpenSpec.ofChange fnBatchMoveTwiceSpec)

/-- ITS FALSE NEIGHBOUR: 'it returns false'. Refute it at one input. -/
def fnBatchMoveTwiceWrong : ChangeSpec := { name := "fnBatchMoveTwice", fn := fun _ => fun
  | [d] => { results := [.lit (.bool false)], args := [d] }
  | _ => none }
def FnBatchMoveTwiceWrongFalsely : Prop := fnBatchMoveTwiceRow.holds Try.pinned (OpenSpec.ofChange fnBatchMoveTwiceWrong)

/- THE SECOND FORM. 'bulk': how many values and letters a reading holds, each counted each time it is reached (what is shared counts as often as it is met; a slice's spare places count too). A statement '..UptoSaid' is the law's where the arguments, and the package variables that the reading takes, are together of bulk at most 1048576: NARROWER than '..Said'. Prove '..Said' where nothing that the law and all that it calls make is longer than what came in: it says more and counts as full. Else prove '..UptoSaid'. A law counts once. -/
mutual
def uptoBulk {H : Type} : DataW H → Nat
  | .lit (.string bytes) => bytes.length + 1
  | .lit _ => 1
  | .nil => 1
  | .ptr d => uptoBulk d + 1
  | .slice elems spare => uptoBulkAll elems + uptoBulkAll spare + 1
  | .agg parts => uptoBulkAll parts + 1
  | .iface _ d => uptoBulk d + 1
  | .map entries => uptoBulkEntries entries + 1
  | .held _ => 1
def uptoBulkAll {H : Type} : List (DataW H) → Nat
  | [] => 0
  | d :: r => uptoBulk d + uptoBulkAll r
def uptoBulkEntries {H : Type} : List (Lit × DataW H) → Nat
  | [] => 0
  | x :: r => uptoBulkEntry x + uptoBulkEntries r
def uptoBulkEntry {H : Type} : Lit × DataW H → Nat
  | (.string bytes, d) => bytes.length + uptoBulk d + 1
  | (_, d) => uptoBulk d + 1
 end
def uptoSmall : (H : Type) → List (DataW H) → Bool := fun _ ds => decide (uptoBulkAll ds ≤ 1048576)
def OpenSpec.upto (s : _root_.Go.ChangeSpec) : _root_.Go.OpenSpec := { _root_.Go.OpenSpec.ofChange s with cond := some uptoSmall }

/-- 'laws.FnBatchOf', WHERE WHAT IT READS IS OF BULK AT MOST 1048576: true; the input reads as it did. -/
def fnBatchOfUptoRow : OpenClaim := { program := "ytebgjpghccnfcaa", sum := "21baae050a70e9f81f2628a38e815c6c3c275176500c80268ac133a98564e1a0", func := "loop.example/tideline/laws.FnBatchOf", spec := "fnBatchOf", unfollowed := true, recurses := true, plainKeys := false, apart := false, narrowed := true }
def FnBatchOfUptoSaid : Prop := fnBatchOfUptoRow.holds Try.pinned (OpenSpec.upto fnBatchOfSpec)

/-- 'laws.FnBatchTwice', WHERE WHAT IT READS IS OF BULK AT MOST 1048576: true; the input reads as it did. -/
def fnBatchTwiceUptoRow : OpenClaim := { program := "ytebgjpghccnfcaa", sum := "21baae050a70e9f81f2628a38e815c6c3c275176500c80268ac133a98564e1a0", func := "loop.example/tideline/laws.FnBatchTwice", spec := "fnBatchTwice", unfollowed := true, recurses := true, plainKeys := false, apart := false, narrowed := true }
def FnBatchTwiceUptoSaid : Prop := fnBatchTwiceUptoRow.holds Try.pinned (OpenSpec.upto fnBatchTwiceSpec)

/-- 'laws.FnBatchOrder', WHERE WHAT IT READS IS OF BULK AT MOST 1048576: true; the input reads as it did. -/
def fnBatchOrderUptoRow : OpenClaim := { program := "ytebgjpghccnfcaa", sum := "21baae050a70e9f81f2628a38e815c6c3c275176500c80268ac133a98564e1a0", func := "loop.example/tideline/laws.FnBatchOrder", spec := "fnBatchOrder", unfollowed := true, recurses := true, plainKeys := false, apart := false, narrowed := true }
def FnBatchOrderUptoSaid : Prop := fnBatchOrderUptoRow.holds Try.pinned (OpenSpec.upto fnBatchOrderSpec)

/-- 'laws.FnBatchTurn', WHERE WHAT IT READS IS OF BULK AT MOST 1048576: true; the input reads as it did. -/
def fnBatchTurnUptoRow : OpenClaim := { program := "ytebgjpghccnfcaa", sum := "21baae050a70e9f81f2628a38e815c6c3c275176500c80268ac133a98564e1a0", func := "loop.example/tideline/laws.FnBatchTurn", spec := "fnBatchTurn", unfollowed := true, recurses := true, plainKeys := false, apart := false, narrowed := true }
def FnBatchTurnUptoSaid : Prop := fnBatchTurnUptoRow.holds Try.pinned (OpenSpec.upto fnBatchTurnSpec)

/-- 'laws.FnBatchMove', WHERE WHAT IT READS IS OF BULK AT MOST 1048576: true; the input reads as it did. -/
def fnBatchMoveUptoRow : OpenClaim := { program := "ytebgjpghccnfcaa", sum := "21baae050a70e9f81f2628a38e815c6c3c275176500c80268ac133a98564e1a0", func := "loop.example/tideline/laws.FnBatchMove", spec := "fnBatchMove", unfollowed := true, recurses := true, plainKeys := false, apart := false, narrowed := true }
def FnBatchMoveUptoSaid : Prop := fnBatchMoveUptoRow.holds Try.pinned (OpenSpec.upto fnBatchMoveSpec)

/-- 'laws.FnBatchMoveTwice', WHERE WHAT IT READS IS OF BULK AT MOST 1048576: true; the input reads as it did. -/
def fnBatchMoveTwiceUptoRow : OpenClaim := { program := "ytebgjpghccnfcaa", sum := "21baae050a70e9f81f2628a38e815c6c3c275176500c80268ac133a98564e1a0", func := "loop.example/tideline/laws.FnBatchMoveTwice", spec := "fnBatchMoveTwice", unfollowed := true, recurses := true, plainKeys := false, apart := false, narrowed := true }
def FnBatchMoveTwiceUptoSaid : Prop := fnBatchMoveTwiceUptoRow.holds Try.pinned (OpenSpec.upto fnBatchMoveTwiceSpec)

end Rows
end Go.Proofs.Ytebgjpghccnfcaa
