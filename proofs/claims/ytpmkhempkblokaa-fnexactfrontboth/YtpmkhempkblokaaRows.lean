/-
  No cell of these rows narrows 'for every input' (looked for: loops, veiled, ifaces, maps, wideKeys, modest, calm, conditions, laid).
  DERIVED. THE GIVEN ROWS OF THIS SEAT. 13 by the template 'for every input the law returns true; each argument reads behind the call as it read before'; 0 by the template 'total and deterministic' (their statements: YtpmkhempkblokaaTotals.lean).
  GIVEN WITH THE SEED: the statements are not yours to turn. If you find one false, say at which input.
  Laid BY PROGRAM, IN A SANDBOX (cutbox-rows.mjs): the forced cells as the released guide's own fill.sh prints them over the translation d9458f3b3bc7736b… (all of the seat's roots in one cut). By AI agents, Wed Nov 11 2026. No macro, syntax, notation, axiom, sorry.
-/
import Derived.Test.YtpmkhempkblokaaChecked
import GoSem.Claim
import GoSem.ClaimJoined
import GoSem.ClaimMapViews
import Derived.JoinedTies
import Derived.KernelRfl
namespace Go.Proofs.Ytpmkhempkblokaa
/- THE CELL 'sum', in the pinned program and in every row, IS THE sha256 OF THE DUMP (.gsa) THAT YtpmkhempkblokaaProg.lean LOADS. Nothing in Lean hashes anything: it is a label: what it is worth is what the hold of that sum in a sandbox is worth. -/
noncomputable def Try.pinned : Pinned := { name := "ytpmkhempkblokaa", sum := "d9458f3b3bc7736b5de7d20d099880a025ff86575b755216bb22d094c35395e0", checked := Try.checked }
namespace Rows
def none {H : Type} : Left H := { results := [], args := [] }

/-- 'laws.FnFrontOf': WHATEVER THE INPUT: true; the input reads as it did. -/
def fnFrontOfSpec : ChangeSpec := { name := "fnFrontOf", fn := fun _ => fun
  | [d] => { results := [.lit (.bool true)], args := [d] }
  | _ => none }
def fnFrontOfRow : OpenClaim := { program := "ytpmkhempkblokaa", sum := "d9458f3b3bc7736b5de7d20d099880a025ff86575b755216bb22d094c35395e0", func := "loop.example/tideline/laws.FnFrontOf", spec := "fnFrontOf", unfollowed := true, recurses := true, apart := false }
def FnFrontOfSaid : Prop := fnFrontOfRow.holds Try.pinned (OpenSpec.ofChange fnFrontOfSpec)

/-- ITS FALSE NEIGHBOUR: 'it returns false'. Refute it at one input. -/
def fnFrontOfWrong : ChangeSpec := { name := "fnFrontOf", fn := fun _ => fun
  | [d] => { results := [.lit (.bool false)], args := [d] }
  | _ => none }
def FnFrontOfWrongFalsely : Prop := fnFrontOfRow.holds Try.pinned (OpenSpec.ofChange fnFrontOfWrong)

/-- 'laws.FnFrontOk': WHATEVER THE INPUT: true; the input reads as it did. -/
def fnFrontOkSpec : ChangeSpec := { name := "fnFrontOk", fn := fun _ => fun
  | [d] => { results := [.lit (.bool true)], args := [d] }
  | _ => none }
def fnFrontOkRow : OpenClaim := { program := "ytpmkhempkblokaa", sum := "d9458f3b3bc7736b5de7d20d099880a025ff86575b755216bb22d094c35395e0", func := "loop.example/tideline/laws.FnFrontOk", spec := "fnFrontOk", unfollowed := true, recurses := true, apart := false }
def FnFrontOkSaid : Prop := fnFrontOkRow.holds Try.pinned (OpenSpec.ofChange fnFrontOkSpec)

/-- ITS FALSE NEIGHBOUR: 'it returns false'. Refute it at one input. -/
def fnFrontOkWrong : ChangeSpec := { name := "fnFrontOk", fn := fun _ => fun
  | [d] => { results := [.lit (.bool false)], args := [d] }
  | _ => none }
def FnFrontOkWrongFalsely : Prop := fnFrontOkRow.holds Try.pinned (OpenSpec.ofChange fnFrontOkWrong)

/-- 'laws.FnFrontCovers': WHATEVER THE INPUT: true; the input reads as it did. -/
def fnFrontCoversSpec : ChangeSpec := { name := "fnFrontCovers", fn := fun _ => fun
  | [d] => { results := [.lit (.bool true)], args := [d] }
  | _ => none }
def fnFrontCoversRow : OpenClaim := { program := "ytpmkhempkblokaa", sum := "d9458f3b3bc7736b5de7d20d099880a025ff86575b755216bb22d094c35395e0", func := "loop.example/tideline/laws.FnFrontCovers", spec := "fnFrontCovers", unfollowed := true, recurses := true, apart := false }
def FnFrontCoversSaid : Prop := fnFrontCoversRow.holds Try.pinned (OpenSpec.ofChange fnFrontCoversSpec)

/-- ITS FALSE NEIGHBOUR: 'it returns false'. Refute it at one input. -/
def fnFrontCoversWrong : ChangeSpec := { name := "fnFrontCovers", fn := fun _ => fun
  | [d] => { results := [.lit (.bool false)], args := [d] }
  | _ => none }
def FnFrontCoversWrongFalsely : Prop := fnFrontCoversRow.holds Try.pinned (OpenSpec.ofChange fnFrontCoversWrong)

/-- 'laws.FnFrontMove': WHATEVER THE INPUT: true; the input reads as it did. -/
def fnFrontMoveSpec : ChangeSpec := { name := "fnFrontMove", fn := fun _ => fun
  | [d] => { results := [.lit (.bool true)], args := [d] }
  | _ => none }
def fnFrontMoveRow : OpenClaim := { program := "ytpmkhempkblokaa", sum := "d9458f3b3bc7736b5de7d20d099880a025ff86575b755216bb22d094c35395e0", func := "loop.example/tideline/laws.FnFrontMove", spec := "fnFrontMove", unfollowed := true, recurses := true, apart := false }
def FnFrontMoveSaid : Prop := fnFrontMoveRow.holds Try.pinned (OpenSpec.ofChange fnFrontMoveSpec)

/-- ITS FALSE NEIGHBOUR: 'it returns false'. Refute it at one input. -/
def fnFrontMoveWrong : ChangeSpec := { name := "fnFrontMove", fn := fun _ => fun
  | [d] => { results := [.lit (.bool false)], args := [d] }
  | _ => none }
def FnFrontMoveWrongFalsely : Prop := fnFrontMoveRow.holds Try.pinned (OpenSpec.ofChange fnFrontMoveWrong)

/-- 'laws.FnFrontMoveLast': WHATEVER THE INPUT: true; the input reads as it did. -/
def fnFrontMoveLastSpec : ChangeSpec := { name := "fnFrontMoveLast", fn := fun _ => fun
  | [d] => { results := [.lit (.bool true)], args := [d] }
  | _ => none }
def fnFrontMoveLastRow : OpenClaim := { program := "ytpmkhempkblokaa", sum := "d9458f3b3bc7736b5de7d20d099880a025ff86575b755216bb22d094c35395e0", func := "loop.example/tideline/laws.FnFrontMoveLast", spec := "fnFrontMoveLast", unfollowed := true, recurses := true, apart := false }
def FnFrontMoveLastSaid : Prop := fnFrontMoveLastRow.holds Try.pinned (OpenSpec.ofChange fnFrontMoveLastSpec)

/-- ITS FALSE NEIGHBOUR: 'it returns false'. Refute it at one input. -/
def fnFrontMoveLastWrong : ChangeSpec := { name := "fnFrontMoveLast", fn := fun _ => fun
  | [d] => { results := [.lit (.bool false)], args := [d] }
  | _ => none }
def FnFrontMoveLastWrongFalsely : Prop := fnFrontMoveLastRow.holds Try.pinned (OpenSpec.ofChange fnFrontMoveLastWrong)

/-- 'laws.FnFrontMoveTwice': WHATEVER THE INPUT: true; the input reads as it did. -/
def fnFrontMoveTwiceSpec : ChangeSpec := { name := "fnFrontMoveTwice", fn := fun _ => fun
  | [d] => { results := [.lit (.bool true)], args := [d] }
  | _ => none }
def fnFrontMoveTwiceRow : OpenClaim := { program := "ytpmkhempkblokaa", sum := "d9458f3b3bc7736b5de7d20d099880a025ff86575b755216bb22d094c35395e0", func := "loop.example/tideline/laws.FnFrontMoveTwice", spec := "fnFrontMoveTwice", unfollowed := true, recurses := true, apart := false }
def FnFrontMoveTwiceSaid : Prop := fnFrontMoveTwiceRow.holds Try.pinned (OpenSpec.ofChange fnFrontMoveTwiceSpec)

/-- ITS FALSE NEIGHBOUR: 'it returns false'. Refute it at one input. -/
def fnFrontMoveTwiceWrong : ChangeSpec := { name := "fnFrontMoveTwice", fn := fun _ => fun
  | [d] => { results := [.lit (.bool false)], args := [d] }
  | _ => none }
def FnFrontMoveTwiceWrongFalsely : Prop := fnFrontMoveTwiceRow.holds Try.pinned (OpenSpec.ofChange fnFrontMoveTwiceWrong)

/-- 'laws.FnFrontBoth': WHATEVER THE INPUT: true; the input reads as it did. -/
def fnFrontBothSpec : ChangeSpec := { name := "fnFrontBoth", fn := fun _ => fun
  | [d] => { results := [.lit (.bool true)], args := [d] }
  | _ => none }
def fnFrontBothRow : OpenClaim := { program := "ytpmkhempkblokaa", sum := "d9458f3b3bc7736b5de7d20d099880a025ff86575b755216bb22d094c35395e0", func := "loop.example/tideline/laws.FnFrontBoth", spec := "fnFrontBoth", unfollowed := true, recurses := true, apart := false }
def FnFrontBothSaid : Prop := fnFrontBothRow.holds Try.pinned (OpenSpec.ofChange fnFrontBothSpec)

/-- ITS FALSE NEIGHBOUR: 'it returns false'. Refute it at one input. -/
def fnFrontBothWrong : ChangeSpec := { name := "fnFrontBoth", fn := fun _ => fun
  | [d] => { results := [.lit (.bool false)], args := [d] }
  | _ => none }
def FnFrontBothWrongFalsely : Prop := fnFrontBothRow.holds Try.pinned (OpenSpec.ofChange fnFrontBothWrong)

/-- 'laws.FnFrontBothTurn': WHATEVER THE INPUT: true; the input reads as it did. -/
def fnFrontBothTurnSpec : ChangeSpec := { name := "fnFrontBothTurn", fn := fun _ => fun
  | [d] => { results := [.lit (.bool true)], args := [d] }
  | _ => none }
def fnFrontBothTurnRow : OpenClaim := { program := "ytpmkhempkblokaa", sum := "d9458f3b3bc7736b5de7d20d099880a025ff86575b755216bb22d094c35395e0", func := "loop.example/tideline/laws.FnFrontBothTurn", spec := "fnFrontBothTurn", unfollowed := true, recurses := true, apart := false }
def FnFrontBothTurnSaid : Prop := fnFrontBothTurnRow.holds Try.pinned (OpenSpec.ofChange fnFrontBothTurnSpec)

/-- ITS FALSE NEIGHBOUR: 'it returns false'. Refute it at one input. -/
def fnFrontBothTurnWrong : ChangeSpec := { name := "fnFrontBothTurn", fn := fun _ => fun
  | [d] => { results := [.lit (.bool false)], args := [d] }
  | _ => none }
def FnFrontBothTurnWrongFalsely : Prop := fnFrontBothTurnRow.holds Try.pinned (OpenSpec.ofChange fnFrontBothTurnWrong)

/-- 'laws.FnExactFrontOk': WHATEVER THE INPUT: true; the input reads as it did. -/
def fnExactFrontOkSpec : ChangeSpec := { name := "fnExactFrontOk", fn := fun _ => fun
  | [d] => { results := [.lit (.bool true)], args := [d] }
  | _ => none }
def fnExactFrontOkRow : OpenClaim := { program := "ytpmkhempkblokaa", sum := "d9458f3b3bc7736b5de7d20d099880a025ff86575b755216bb22d094c35395e0", func := "loop.example/tideline/laws.FnExactFrontOk", spec := "fnExactFrontOk", apart := false }
def FnExactFrontOkSaid : Prop := fnExactFrontOkRow.holds Try.pinned (OpenSpec.ofChange fnExactFrontOkSpec)

/-- ITS FALSE NEIGHBOUR: 'it returns false'. Refute it at one input. -/
def fnExactFrontOkWrong : ChangeSpec := { name := "fnExactFrontOk", fn := fun _ => fun
  | [d] => { results := [.lit (.bool false)], args := [d] }
  | _ => none }
def FnExactFrontOkWrongFalsely : Prop := fnExactFrontOkRow.holds Try.pinned (OpenSpec.ofChange fnExactFrontOkWrong)

/-- 'laws.FnExactFrontOf': WHATEVER THE INPUT: true; the input reads as it did. -/
def fnExactFrontOfSpec : ChangeSpec := { name := "fnExactFrontOf", fn := fun _ => fun
  | [d] => { results := [.lit (.bool true)], args := [d] }
  | _ => none }
def fnExactFrontOfRow : OpenClaim := { program := "ytpmkhempkblokaa", sum := "d9458f3b3bc7736b5de7d20d099880a025ff86575b755216bb22d094c35395e0", func := "loop.example/tideline/laws.FnExactFrontOf", spec := "fnExactFrontOf", unfollowed := true, recurses := true, apart := false }
def FnExactFrontOfSaid : Prop := fnExactFrontOfRow.holds Try.pinned (OpenSpec.ofChange fnExactFrontOfSpec)

/-- ITS FALSE NEIGHBOUR: 'it returns false'. Refute it at one input. -/
def fnExactFrontOfWrong : ChangeSpec := { name := "fnExactFrontOf", fn := fun _ => fun
  | [d] => { results := [.lit (.bool false)], args := [d] }
  | _ => none }
def FnExactFrontOfWrongFalsely : Prop := fnExactFrontOfRow.holds Try.pinned (OpenSpec.ofChange fnExactFrontOfWrong)

/-- 'laws.FnExactFrontCovers': WHATEVER THE INPUT: true; the input reads as it did. -/
def fnExactFrontCoversSpec : ChangeSpec := { name := "fnExactFrontCovers", fn := fun _ => fun
  | [d1, d2] => { results := [.lit (.bool true)], args := [d1, d2] }
  | _ => none }
def fnExactFrontCoversRow : OpenClaim := { program := "ytpmkhempkblokaa", sum := "d9458f3b3bc7736b5de7d20d099880a025ff86575b755216bb22d094c35395e0", func := "loop.example/tideline/laws.FnExactFrontCovers", spec := "fnExactFrontCovers", unfollowed := true, recurses := true, apart := false }
def FnExactFrontCoversSaid : Prop := fnExactFrontCoversRow.holds Try.pinned (OpenSpec.ofChange fnExactFrontCoversSpec)

/-- ITS FALSE NEIGHBOUR: 'it returns false'. Refute it at one input. -/
def fnExactFrontCoversWrong : ChangeSpec := { name := "fnExactFrontCovers", fn := fun _ => fun
  | [d1, d2] => { results := [.lit (.bool false)], args := [d1, d2] }
  | _ => none }
def FnExactFrontCoversWrongFalsely : Prop := fnExactFrontCoversRow.holds Try.pinned (OpenSpec.ofChange fnExactFrontCoversWrong)

/-- 'laws.FnExactFrontMove': WHATEVER THE INPUT: true; the input reads as it did. -/
def fnExactFrontMoveSpec : ChangeSpec := { name := "fnExactFrontMove", fn := fun _ => fun
  | [d1, d2] => { results := [.lit (.bool true)], args := [d1, d2] }
  | _ => none }
def fnExactFrontMoveRow : OpenClaim := { program := "ytpmkhempkblokaa", sum := "d9458f3b3bc7736b5de7d20d099880a025ff86575b755216bb22d094c35395e0", func := "loop.example/tideline/laws.FnExactFrontMove", spec := "fnExactFrontMove", apart := false }
def FnExactFrontMoveSaid : Prop := fnExactFrontMoveRow.holds Try.pinned (OpenSpec.ofChange fnExactFrontMoveSpec)

/-- ITS FALSE NEIGHBOUR: 'it returns false'. Refute it at one input. -/
def fnExactFrontMoveWrong : ChangeSpec := { name := "fnExactFrontMove", fn := fun _ => fun
  | [d1, d2] => { results := [.lit (.bool false)], args := [d1, d2] }
  | _ => none }
def FnExactFrontMoveWrongFalsely : Prop := fnExactFrontMoveRow.holds Try.pinned (OpenSpec.ofChange fnExactFrontMoveWrong)

/-- 'laws.FnExactFrontBoth': WHATEVER THE INPUT: true; the input reads as it did. -/
def fnExactFrontBothSpec : ChangeSpec := { name := "fnExactFrontBoth", fn := fun _ => fun
  | [d1, d2] => { results := [.lit (.bool true)], args := [d1, d2] }
  | _ => none }
def fnExactFrontBothRow : OpenClaim := { program := "ytpmkhempkblokaa", sum := "d9458f3b3bc7736b5de7d20d099880a025ff86575b755216bb22d094c35395e0", func := "loop.example/tideline/laws.FnExactFrontBoth", spec := "fnExactFrontBoth", unfollowed := true, recurses := true, apart := false }
def FnExactFrontBothSaid : Prop := fnExactFrontBothRow.holds Try.pinned (OpenSpec.ofChange fnExactFrontBothSpec)

/-- ITS FALSE NEIGHBOUR: 'it returns false'. Refute it at one input. -/
def fnExactFrontBothWrong : ChangeSpec := { name := "fnExactFrontBoth", fn := fun _ => fun
  | [d1, d2] => { results := [.lit (.bool false)], args := [d1, d2] }
  | _ => none }
def FnExactFrontBothWrongFalsely : Prop := fnExactFrontBothRow.holds Try.pinned (OpenSpec.ofChange fnExactFrontBothWrong)

/- THE SECOND FORM. 'bulk': how many values and letters a reading holds, each counted each time it is reached (what is shared counts as often as it is met; a slice's spare places count too). A statement '..UptoSaid' is the law's where the arguments, and the package variables that the reading takes, are together of bulk at most 1048576: NARROWER than '..Said'. Prove '..Said' where nothing that the law and all that it calls make is longer than what came in: it says more and counts as full. Else prove '..UptoSaid'. A law counts once. -/
mutual
def uptoBulk {H : Type} : DataW H → Nat
  | .lit (.string bytes) => bytes.length + 1
  | .lit _ => 1
  | .nil => 1
  | .ptr d => uptoBulk d + 1
  | .slice elems spare => uptoBulkAll elems + uptoBulkAll spare + 1
  | .agg parts => uptoBulkAll parts + 1
  | .iface _ d => uptoBulk d + 1
  | .map entries => uptoBulkEntries entries + 1
  | .held _ => 1
def uptoBulkAll {H : Type} : List (DataW H) → Nat
  | [] => 0
  | d :: r => uptoBulk d + uptoBulkAll r
def uptoBulkEntries {H : Type} : List (Lit × DataW H) → Nat
  | [] => 0
  | x :: r => uptoBulkEntry x + uptoBulkEntries r
def uptoBulkEntry {H : Type} : Lit × DataW H → Nat
  | (.string bytes, d) => bytes.length + uptoBulk d + 1
  | (_, d) => uptoBulk d + 1
 end
def uptoSmall : (H : Type) → List (DataW H) → Bool := fun _ ds => decide (uptoBulkAll ds ≤ 1048576)
def OpenSpec.upto (s : _root_.Go.ChangeSpec) : _root_.Go.OpenSpec := { _root_.Go.OpenSpec.ofChange s with cond := some uptoSmall }

/-- 'laws.FnFrontOf', WHERE WHAT IT READS IS OF BULK AT MOST 1048576: true; the input reads as it did. -/
def fnFrontOfUptoRow : OpenClaim := { program := "ytpmkhempkblokaa", sum := "d9458f3b3bc7736b5de7d20d099880a025ff86575b755216bb22d094c35395e0", func := "loop.example/tideline/laws.FnFrontOf", spec := "fnFrontOf", unfollowed := true, recurses := true, apart := false, narrowed := true }
def FnFrontOfUptoSaid : Prop := fnFrontOfUptoRow.holds Try.pinned (OpenSpec.upto fnFrontOfSpec)

/-- 'laws.FnFrontOk', WHERE WHAT IT READS IS OF BULK AT MOST 1048576: true; the input reads as it did. -/
def fnFrontOkUptoRow : OpenClaim := { program := "ytpmkhempkblokaa", sum := "d9458f3b3bc7736b5de7d20d099880a025ff86575b755216bb22d094c35395e0", func := "loop.example/tideline/laws.FnFrontOk", spec := "fnFrontOk", unfollowed := true, recurses := true, apart := false, narrowed := true }
def FnFrontOkUptoSaid : Prop := fnFrontOkUptoRow.holds Try.pinned (OpenSpec.upto fnFrontOkSpec)

/-- 'laws.FnFrontCovers', WHERE WHAT IT READS IS OF BULK AT MOST 1048576: true; the input reads as it did. -/
def fnFrontCoversUptoRow : OpenClaim := { program := "ytpmkhempkblokaa", sum := "d9458f3b3bc7736b5de7d20d099880a025ff86575b755216bb22d094c35395e0", func := "loop.example/tideline/laws.FnFrontCovers", spec := "fnFrontCovers", unfollowed := true, recurses := true, apart := false, narrowed := true }
def FnFrontCoversUptoSaid : Prop := fnFrontCoversUptoRow.holds Try.pinned (OpenSpec.upto fnFrontCoversSpec)

/-- 'laws.FnFrontMove', WHERE WHAT IT READS IS OF BULK AT MOST 1048576: true; the input reads as it did. -/
def fnFrontMoveUptoRow : OpenClaim := { program := "ytpmkhempkblokaa", sum := "d9458f3b3bc7736b5de7d20d099880a025ff86575b755216bb22d094c35395e0", func := "loop.example/tideline/laws.FnFrontMove", spec := "fnFrontMove", unfollowed := true, recurses := true, apart := false, narrowed := true }
def FnFrontMoveUptoSaid : Prop := fnFrontMoveUptoRow.holds Try.pinned (OpenSpec.upto fnFrontMoveSpec)

/-- 'laws.FnFrontMoveLast', WHERE WHAT IT READS IS OF BULK AT MOST 1048576: true; the input reads as it did. -/
def fnFrontMoveLastUptoRow : OpenClaim := { program := "ytpmkhempkblokaa", sum := "d9458f3b3bc7736b5de7d20d099880a025ff86575b755216bb22d094c35395e0", func := "loop.example/tideline/laws.FnFrontMoveLast", spec := "fnFrontMoveLast", unfollowed := true, recurses := true, apart := false, narrowed := true }
def FnFrontMoveLastUptoSaid : Prop := fnFrontMoveLastUptoRow.holds Try.pinned (OpenSpec.upto fnFrontMoveLastSpec)

/-- 'laws.FnFrontMoveTwice', WHERE WHAT IT READS IS OF BULK AT MOST 1048576: true; the input reads as it did. -/
def fnFrontMoveTwiceUptoRow : OpenClaim := { program := "ytpmkhempkblokaa", sum := "d9458f3b3bc7736b5de7d20d099880a025ff86575b755216bb22d094c35395e0", func := "loop.example/tideline/laws.FnFrontMoveTwice", spec := "fnFrontMoveTwice", unfollowed := true, recurses := true, apart := false, narrowed := true }
def FnFrontMoveTwiceUptoSaid : Prop := fnFrontMoveTwiceUptoRow.holds Try.pinned (OpenSpec.upto fnFrontMoveTwiceSpec)

/-- 'laws.FnFrontBoth', WHERE WHAT IT READS IS OF BULK AT MOST 1048576: true; the input reads as it did. -/
def fnFrontBothUptoRow : OpenClaim := { program := "ytpmkhempkblokaa", sum := "d9458f3b3bc7736b5de7d20d099880a025ff86575b755216bb22d094c35395e0", func := "loop.example/tideline/laws.FnFrontBoth", spec := "fnFrontBoth", unfollowed := true, recurses := true, apart := false, narrowed := true }
def FnFrontBothUptoSaid : Prop := fnFrontBothUptoRow.holds Try.pinned (OpenSpec.upto fnFrontBothSpec)

/-- 'laws.FnFrontBothTurn', WHERE WHAT IT READS IS OF BULK AT MOST 1048576: true; the input reads as it did. -/
def fnFrontBothTurnUptoRow : OpenClaim := { program := "ytpmkhempkblokaa", sum := "d9458f3b3bc7736b5de7d20d099880a025ff86575b755216bb22d094c35395e0", func := "loop.example/tideline/laws.FnFrontBothTurn", spec := "fnFrontBothTurn", unfollowed := true, recurses := true, apart := false, narrowed := true }
def FnFrontBothTurnUptoSaid : Prop := fnFrontBothTurnUptoRow.holds Try.pinned (OpenSpec.upto fnFrontBothTurnSpec)

/-- 'laws.FnExactFrontOk', WHERE WHAT IT READS IS OF BULK AT MOST 1048576: true; the input reads as it did. -/
def fnExactFrontOkUptoRow : OpenClaim := { program := "ytpmkhempkblokaa", sum := "d9458f3b3bc7736b5de7d20d099880a025ff86575b755216bb22d094c35395e0", func := "loop.example/tideline/laws.FnExactFrontOk", spec := "fnExactFrontOk", apart := false, narrowed := true }
def FnExactFrontOkUptoSaid : Prop := fnExactFrontOkUptoRow.holds Try.pinned (OpenSpec.upto fnExactFrontOkSpec)

/-- 'laws.FnExactFrontOf', WHERE WHAT IT READS IS OF BULK AT MOST 1048576: true; the input reads as it did. -/
def fnExactFrontOfUptoRow : OpenClaim := { program := "ytpmkhempkblokaa", sum := "d9458f3b3bc7736b5de7d20d099880a025ff86575b755216bb22d094c35395e0", func := "loop.example/tideline/laws.FnExactFrontOf", spec := "fnExactFrontOf", unfollowed := true, recurses := true, apart := false, narrowed := true }
def FnExactFrontOfUptoSaid : Prop := fnExactFrontOfUptoRow.holds Try.pinned (OpenSpec.upto fnExactFrontOfSpec)

/-- 'laws.FnExactFrontCovers', WHERE WHAT IT READS IS OF BULK AT MOST 1048576: true; the input reads as it did. -/
def fnExactFrontCoversUptoRow : OpenClaim := { program := "ytpmkhempkblokaa", sum := "d9458f3b3bc7736b5de7d20d099880a025ff86575b755216bb22d094c35395e0", func := "loop.example/tideline/laws.FnExactFrontCovers", spec := "fnExactFrontCovers", unfollowed := true, recurses := true, apart := false, narrowed := true }
def FnExactFrontCoversUptoSaid : Prop := fnExactFrontCoversUptoRow.holds Try.pinned (OpenSpec.upto fnExactFrontCoversSpec)

/-- 'laws.FnExactFrontMove', WHERE WHAT IT READS IS OF BULK AT MOST 1048576: true; the input reads as it did. -/
def fnExactFrontMoveUptoRow : OpenClaim := { program := "ytpmkhempkblokaa", sum := "d9458f3b3bc7736b5de7d20d099880a025ff86575b755216bb22d094c35395e0", func := "loop.example/tideline/laws.FnExactFrontMove", spec := "fnExactFrontMove", apart := false, narrowed := true }
def FnExactFrontMoveUptoSaid : Prop := fnExactFrontMoveUptoRow.holds Try.pinned (OpenSpec.upto fnExactFrontMoveSpec)

/-- 'laws.FnExactFrontBoth', WHERE WHAT IT READS IS OF BULK AT MOST 1048576: true; the input reads as it did. -/
def fnExactFrontBothUptoRow : OpenClaim := { program := "ytpmkhempkblokaa", sum := "d9458f3b3bc7736b5de7d20d099880a025ff86575b755216bb22d094c35395e0", func := "loop.example/tideline/laws.FnExactFrontBoth", spec := "fnExactFrontBoth", unfollowed := true, recurses := true, apart := false, narrowed := true }
def FnExactFrontBothUptoSaid : Prop := fnExactFrontBothUptoRow.holds Try.pinned (OpenSpec.upto fnExactFrontBothSpec)

end Rows
end Go.Proofs.Ytpmkhempkblokaa
