/-
  No cell of these rows narrows 'for every input' (looked for: loops, veiled, ifaces, maps, wideKeys, modest, calm, conditions, laid).
  DERIVED. THE GIVEN ROWS OF THIS SEAT. 6 by the template 'for every input the law returns true; each argument reads behind the call as it read before'; 0 by the template 'total and deterministic' (their statements: YtjkojbafifbdgaaTotals.lean).
  GIVEN WITH THE SEED: the statements are not yours to turn. If you find one false, say at which input.
  Laid BY PROGRAM, IN A SANDBOX (cutbox-rows.mjs): the forced cells as the released guide's own fill.sh prints them over the translation cb324e28de0a5875… (all of the seat's roots in one cut). By AI agents, Wed Nov 11 2026. No macro, syntax, notation, axiom, sorry.
-/
import Derived.Test.YtjkojbafifbdgaaChecked
import GoSem.Claim
import GoSem.ClaimJoined
import GoSem.ClaimMapViews
import Derived.JoinedTies
import Derived.KernelRfl
namespace Go.Proofs.Ytjkojbafifbdgaa
/- THE CELL 'sum', in the pinned program and in every row, IS THE sha256 OF THE DUMP (.gsa) THAT YtjkojbafifbdgaaProg.lean LOADS. Nothing in Lean hashes anything: it is a label: what it is worth is what the hold of that sum in a sandbox is worth. -/
noncomputable def Try.pinned : Pinned := { name := "ytjkojbafifbdgaa", sum := "cb324e28de0a58752e0c263512d7f57e364a4f0b77d9ffea2397c5338bfb3495", checked := Try.checked }
namespace Rows
def none {H : Type} : Left H := { results := [], args := [] }

/-- 'laws.FnBatchBoth': WHATEVER THE INPUT: true; the input reads as it did. -/
def fnBatchBothSpec : ChangeSpec := { name := "fnBatchBoth", fn := fun _ => fun
  | [d] => { results := [.lit (.bool true)], args := [d] }
  | _ => none }
def fnBatchBothRow : OpenClaim := { program := "ytjkojbafifbdgaa", sum := "cb324e28de0a58752e0c263512d7f57e364a4f0b77d9ffea2397c5338bfb3495", func := "loop.example/tideline/laws.FnBatchBoth", spec := "fnBatchBoth", unfollowed := true, recurses := true, plainKeys := false, apart := false }
def FnBatchBothSaid : Prop := fnBatchBothRow.holds Try.pinned (OpenSpec.ofChange fnBatchBothSpec)

/-- ITS FALSE NEIGHBOUR: 'it returns false'. Refute it at one input. -/
def fnBatchBothWrong : ChangeSpec := { name := "fnBatchBoth", fn := fun _ => fun
  | [d] => { results := [.lit (.bool false)], args := [d] }
  | _ => none }
def FnBatchBothWrongFalsely : Prop := fnBatchBothRow.holds Try.pinned (OpenSpec.ofChange fnBatchBothWrong)

/-- 'laws.FnBatchLess': WHATEVER THE INPUT: true; the input reads as it did. -/
def fnBatchLessSpec : ChangeSpec := { name := "fnBatchLess", fn := fun _ => fun
  | [d] => { results := [.lit (.bool true)], args := [d] }
  | _ => none }
def fnBatchLessRow : OpenClaim := { program := "ytjkojbafifbdgaa", sum := "cb324e28de0a58752e0c263512d7f57e364a4f0b77d9ffea2397c5338bfb3495", func := "loop.example/tideline/laws.FnBatchLess", spec := "fnBatchLess", unfollowed := true, recurses := true, plainKeys := false, apart := false }
def FnBatchLessSaid : Prop := fnBatchLessRow.holds Try.pinned (OpenSpec.ofChange fnBatchLessSpec)

/-- ITS FALSE NEIGHBOUR: 'it returns false'. Refute it at one input. -/
def fnBatchLessWrong : ChangeSpec := { name := "fnBatchLess", fn := fun _ => fun
  | [d] => { results := [.lit (.bool false)], args := [d] }
  | _ => none }
def FnBatchLessWrongFalsely : Prop := fnBatchLessRow.holds Try.pinned (OpenSpec.ofChange fnBatchLessWrong)

/-- 'laws.FnExactBatchMove': WHATEVER THE INPUT: true; the input reads as it did. -/
def fnExactBatchMoveSpec : ChangeSpec := { name := "fnExactBatchMove", fn := fun _ => fun
  | [d1, d2] => { results := [.lit (.bool true)], args := [d1, d2] }
  | _ => none }
def fnExactBatchMoveRow : OpenClaim := { program := "ytjkojbafifbdgaa", sum := "cb324e28de0a58752e0c263512d7f57e364a4f0b77d9ffea2397c5338bfb3495", func := "loop.example/tideline/laws.FnExactBatchMove", spec := "fnExactBatchMove", unfollowed := true, recurses := true, plainKeys := false, apart := false }
def FnExactBatchMoveSaid : Prop := fnExactBatchMoveRow.holds Try.pinned (OpenSpec.ofChange fnExactBatchMoveSpec)

/-- ITS FALSE NEIGHBOUR: 'it returns false'. Refute it at one input. -/
def fnExactBatchMoveWrong : ChangeSpec := { name := "fnExactBatchMove", fn := fun _ => fun
  | [d1, d2] => { results := [.lit (.bool false)], args := [d1, d2] }
  | _ => none }
def FnExactBatchMoveWrongFalsely : Prop := fnExactBatchMoveRow.holds Try.pinned (OpenSpec.ofChange fnExactBatchMoveWrong)

/-- 'laws.FnSpineLess': WHATEVER THE INPUT: true; the input reads as it did. -/
def fnSpineLessSpec : ChangeSpec := { name := "fnSpineLess", fn := fun _ => fun
  | [d] => { results := [.lit (.bool true)], args := [d] }
  | _ => none }
def fnSpineLessRow : OpenClaim := { program := "ytjkojbafifbdgaa", sum := "cb324e28de0a58752e0c263512d7f57e364a4f0b77d9ffea2397c5338bfb3495", func := "loop.example/tideline/laws.FnSpineLess", spec := "fnSpineLess", unfollowed := true, recurses := true, plainKeys := false, apart := false }
def FnSpineLessSaid : Prop := fnSpineLessRow.holds Try.pinned (OpenSpec.ofChange fnSpineLessSpec)

/-- ITS FALSE NEIGHBOUR: 'it returns false'. Refute it at one input. -/
def fnSpineLessWrong : ChangeSpec := { name := "fnSpineLess", fn := fun _ => fun
  | [d] => { results := [.lit (.bool false)], args := [d] }
  | _ => none }
def FnSpineLessWrongFalsely : Prop := fnSpineLessRow.holds Try.pinned (OpenSpec.ofChange fnSpineLessWrong)

/-- 'laws.FnExactSpineJoin': WHATEVER THE INPUT: true; the input reads as it did. -/
def fnExactSpineJoinSpec : ChangeSpec := { name := "fnExactSpineJoin", fn := fun _ => fun
  | [d1, d2] => { results := [.lit (.bool true)], args := [d1, d2] }
  | _ => none }
def fnExactSpineJoinRow : OpenClaim := { program := "ytjkojbafifbdgaa", sum := "cb324e28de0a58752e0c263512d7f57e364a4f0b77d9ffea2397c5338bfb3495", func := "loop.example/tideline/laws.FnExactSpineJoin", spec := "fnExactSpineJoin", unfollowed := true, recurses := true, plainKeys := false, apart := false }
def FnExactSpineJoinSaid : Prop := fnExactSpineJoinRow.holds Try.pinned (OpenSpec.ofChange fnExactSpineJoinSpec)

/-- ITS FALSE NEIGHBOUR: 'it returns false'. Refute it at one input. -/
def fnExactSpineJoinWrong : ChangeSpec := { name := "fnExactSpineJoin", fn := fun _ => fun
  | [d1, d2] => { results := [.lit (.bool false)], args := [d1, d2] }
  | _ => none }
def FnExactSpineJoinWrongFalsely : Prop := fnExactSpineJoinRow.holds Try.pinned (OpenSpec.ofChange fnExactSpineJoinWrong)

/-- 'laws.FnExactSpineAll': WHATEVER THE INPUT: true; the input reads as it did. -/
def fnExactSpineAllSpec : ChangeSpec := { name := "fnExactSpineAll", fn := fun _ => fun
  | [d] => { results := [.lit (.bool true)], args := [d] }
  | _ => none }
def fnExactSpineAllRow : OpenClaim := { program := "ytjkojbafifbdgaa", sum := "cb324e28de0a58752e0c263512d7f57e364a4f0b77d9ffea2397c5338bfb3495", func := "loop.example/tideline/laws.FnExactSpineAll", spec := "fnExactSpineAll", unfollowed := true, recurses := true, plainKeys := false, apart := false }
def FnExactSpineAllSaid : Prop := fnExactSpineAllRow.holds Try.pinned (OpenSpec.ofChange fnExactSpineAllSpec)

/-- ITS FALSE NEIGHBOUR: 'it returns false'. Refute it at one input. -/
def fnExactSpineAllWrong : ChangeSpec := { name := "fnExactSpineAll", fn := fun _ => fun
  | [d] => { results := [.lit (.bool false)], args := [d] }
  | _ => none }
def FnExactSpineAllWrongFalsely : Prop := fnExactSpineAllRow.holds Try.pinned (OpenSpec.ofChange fnExactSpineAllWrong)

/- THE SECOND FORM. 'bulk': how many values and letters a reading holds, each counted each time it is reached (what is shared counts as often as it is met; a slice's spare places count too). A statement '..UptoSaid' is the law's where the arguments, and the package variables that the reading takes, are together of bulk at most 1048576: NARROWER than '..Said'. Prove '..Said' where nothing that the law and all that it calls make is longer than what came in: it says more and counts as full. Else prove '..UptoSaid'. A law counts once. -/
mutual
def uptoBulk {H : Type} : DataW H → Nat
  | .lit (.string bytes) => bytes.length + 1
  | .lit _ => 1
  | .nil => 1
  | .ptr d => uptoBulk d + 1
  | .slice elems spare => uptoBulkAll elems + uptoBulkAll spare + 1
  | .agg parts => uptoBulkAll parts + 1
  | .iface _ d => uptoBulk d + 1
  | .map entries => uptoBulkEntries entries + 1
  | .held _ => 1
def uptoBulkAll {H : Type} : List (DataW H) → Nat
  | [] => 0
  | d :: r => uptoBulk d + uptoBulkAll r
def uptoBulkEntries {H : Type} : List (Lit × DataW H) → Nat
  | [] => 0
  | x :: r => uptoBulkEntry x + uptoBulkEntries r
def uptoBulkEntry {H : Type} : Lit × DataW H → Nat
  | (.string bytes, d) => bytes.length + uptoBulk d + 1
  | (_, d) => uptoBulk d + 1
 end
def uptoSmall : (H : Type) → List (DataW H) → Bool := fun _ ds => decide (uptoBulkAll ds ≤ 1048576)
def OpenSpec.upto (s : _root_.Go.ChangeSpec) : _root_.Go.OpenSpec := { _root_.Go.OpenSpec.ofChange s with cond := some uptoSmall }

/-- 'laws.FnBatchBoth', WHERE WHAT IT READS IS OF BULK AT MOST 1048576: true; the input reads as it did. -/
def fnBatchBothUptoRow : OpenClaim := { program := "ytjkojbafifbdgaa", sum := "cb324e28de0a58752e0c263512d7f57e364a4f0b77d9ffea2397c5338bfb3495", func := "loop.example/tideline/laws.FnBatchBoth", spec := "fnBatchBoth", unfollowed := true, recurses := true, plainKeys := false, apart := false, narrowed := true }
def FnBatchBothUptoSaid : Prop := fnBatchBothUptoRow.holds Try.pinned (OpenSpec.upto fnBatchBothSpec)

/-- 'laws.FnBatchLess', WHERE WHAT IT READS IS OF BULK AT MOST 1048576: true; the input reads as it did. -/
def fnBatchLessUptoRow : OpenClaim := { program := "ytjkojbafifbdgaa", sum := "cb324e28de0a58752e0c263512d7f57e364a4f0b77d9ffea2397c5338bfb3495", func := "loop.example/tideline/laws.FnBatchLess", spec := "fnBatchLess", unfollowed := true, recurses := true, plainKeys := false, apart := false, narrowed := true }
def FnBatchLessUptoSaid : Prop := fnBatchLessUptoRow.holds Try.pinned (OpenSpec.upto fnBatchLessSpec)

/-- 'laws.FnExactBatchMove', WHERE WHAT IT READS IS OF BULK AT MOST 1048576: true; the input reads as it did. -/
def fnExactBatchMoveUptoRow : OpenClaim := { program := "ytjkojbafifbdgaa", sum := "cb324e28de0a58752e0c263512d7f57e364a4f0b77d9ffea2397c5338bfb3495", func := "loop.example/tideline/laws.FnExactBatchMove", spec := "fnExactBatchMove", unfollowed := true, recurses := true, plainKeys := false, apart := false, narrowed := true }
def FnExactBatchMoveUptoSaid : Prop := fnExactBatchMoveUptoRow.holds Try.pinned (OpenSpec.upto fnExactBatchMoveSpec)

/-- 'laws.FnSpineLess', WHERE WHAT IT READS IS OF BULK AT MOST 1048576: true; the input reads as it did. -/
def fnSpineLessUptoRow : OpenClaim := { program := "ytjkojbafifbdgaa", sum := "cb324e28de0a58752e0c263512d7f57e364a4f0b77d9ffea2397c5338bfb3495", func := "loop.example/tideline/laws.FnSpineLess", spec := "fnSpineLess", unfollowed := true, recurses := true, plainKeys := false, apart := false, narrowed := true }
def FnSpineLessUptoSaid : Prop := fnSpineLessUptoRow.holds Try.pinned (OpenSpec.upto fnSpineLessSpec)

/-- 'laws.FnExactSpineJoin', WHERE WHAT IT READS IS OF BULK AT MOST 1048576: true; the input reads as it did. -/
def fnExactSpineJoinUptoRow : OpenClaim := { program := "ytjkojbafifbdgaa", sum := "cb324e28de0a58752e0c263512d7f57e364a4f0b77d9ffea2397c5338bfb3495", func := "loop.example/tideline/laws.FnExactSpineJoin", spec := "fnExactSpineJoin", unfollowed := true, recurses := true, plainKeys := false, apart := false, narrowed := true }
def FnExactSpineJoinUptoSaid : Prop := fnExactSpineJoinUptoRow.holds Try.pinned (OpenSpec.upto fnExactSpineJoinSpec)

/-- 'laws.FnExactSpineAll', WHERE WHAT IT READS IS OF BULK AT MOST 1048576: true; the input reads as it did. -/
def fnExactSpineAllUptoRow : OpenClaim := { program := "ytjkojbafifbdgaa", sum := "cb324e28de0a58752e0c263512d7f57e364a4f0b77d9ffea2397c5338bfb3495", func := "loop.example/tideline/laws.FnExactSpineAll", spec := "fnExactSpineAll", unfollowed := true, recurses := true, plainKeys := false, apart := false, narrowed := true }
def FnExactSpineAllUptoSaid : Prop := fnExactSpineAllUptoRow.holds Try.pinned (OpenSpec.upto fnExactSpineAllSpec)

end Rows
end Go.Proofs.Ytjkojbafifbdgaa
