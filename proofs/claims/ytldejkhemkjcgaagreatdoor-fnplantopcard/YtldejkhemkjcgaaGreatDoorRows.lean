/-
  NARROWER THAN 'FOR EVERY INPUT', by the rows' own cells (each row's printed sentence says how): FnPlanTop: ifaces, laid · FnPlanBatch: ifaces, laid · FnPlanMove: ifaces, laid · FnPlanAhead: ifaces, laid · FnPlanLess: ifaces, laid · FnPlanBoth: ifaces, laid · FnPlanStep: ifaces, laid · FnPlanSame: ifaces, laid · FnPlanIns: ifaces, laid · FnPlanSetOk: ifaces, laid.
  DERIVED. THE GIVEN ROWS OF THIS SEAT. 10 by the template 'for every input the law returns true; each argument reads behind the call as it read before'; 0 by the template 'total and deterministic' (their statements: YtldejkhemkjcgaaGreatDoorTotals.lean).
  GIVEN WITH THE SEED: the statements are not yours to turn. If you find one false, say at which input.
  Laid BY PROGRAM, IN A SANDBOX (cutbox-rows.mjs): the forced cells as the released guide's own fill.sh prints them over the translation 5404457c7688b15f… (all of the seat's roots in one cut). By AI agents, Wed Nov 11 2026. No macro, syntax, notation, axiom, sorry.
-/
import Derived.Test.YtldejkhemkjcgaaGreatDoorChecked
import GoSem.Claim
import GoSem.ClaimJoined
import GoSem.ClaimMapViews
import Derived.JoinedTies
import Derived.KernelRfl
namespace Go.Proofs.YtldejkhemkjcgaaGreatDoor
/- THE CELL 'sum', in the pinned program and in every row, IS THE sha256 OF THE DUMP (.gsa) THAT YtldejkhemkjcgaaGreatDoorProg.lean LOADS. Nothing in Lean hashes anything: it is a label: what it is worth is what the hold of that sum in a sandbox is worth. -/
noncomputable def Tryz.pinned : Pinned := { name := "ytldejkhemkjcgaagreatdoor", sum := "5404457c7688b15f1e170f867f92ac44e688a46f903a96e8f4eaaabd0a4b688a", checked := Tryz.checked }
namespace Rows
def none {H : Type} : Left H := { results := [], args := [] }

/- WHAT THE LISTED PACKAGE-LEVEL VARIABLES READ AS WHEN THE CALL BEGINS. Each datum BY PROGRAM (the guide's laid-datum.mjs) off the statement by which the dump's own 'gosem.cut.vars' lays the variable. In a bare row this is a premise. The card (YtldejkhemkjcgaaGreatDoorCards.lean) ties it to the program's text. -/
def laid_loop_example_tideline_impl_errCannotBe {H : Type} : DataW H := .iface "*errors.errorString" (.ptr (.agg [.lit (.string [99, 97, 110, 110, 111, 116, 32, 98, 101])]))

/-- 'laws.FnPlanTop': WHATEVER THE INPUT: true; the input reads as it did. -/
def fnPlanTopSpec : ChangeSpec := { name := "fnPlanTop", vars := ["loop.example/tideline/impl.errCannotBe"], fn := fun _ => fun
  | [d, g1] => { results := [.lit (.bool true)], args := [d], vars := [g1] }
  | _ => none }
def fnPlanTopRow : OpenClaim := { program := "ytldejkhemkjcgaagreatdoor", sum := "5404457c7688b15f1e170f867f92ac44e688a46f903a96e8f4eaaabd0a4b688a", func := "loop.example/tideline/laws.FnPlanTop", spec := "fnPlanTop", inPlace := ["internal/reflectlite.TypeOf", "math/bits.Add64"], unfollowed := true, recurses := true, named := ["loop.example/tideline/impl.errCannotBe"], ifaces := true, plainKeys := false, apart := false, laid := [("loop.example/tideline/impl.errCannotBe", laid_loop_example_tideline_impl_errCannotBe)] }
def FnPlanTopSaid : Prop := fnPlanTopRow.holds Tryz.pinned (OpenSpec.ofChange fnPlanTopSpec)

/-- ITS FALSE NEIGHBOUR: 'it returns false'. Refute it at one input. -/
def fnPlanTopWrong : ChangeSpec := { name := "fnPlanTop", vars := ["loop.example/tideline/impl.errCannotBe"], fn := fun _ => fun
  | [d, g1] => { results := [.lit (.bool false)], args := [d], vars := [g1] }
  | _ => none }
def FnPlanTopWrongFalsely : Prop := fnPlanTopRow.holds Tryz.pinned (OpenSpec.ofChange fnPlanTopWrong)

/-- 'laws.FnPlanBatch': WHATEVER THE INPUT: true; the input reads as it did. -/
def fnPlanBatchSpec : ChangeSpec := { name := "fnPlanBatch", vars := ["loop.example/tideline/impl.errCannotBe"], fn := fun _ => fun
  | [d, g1] => { results := [.lit (.bool true)], args := [d], vars := [g1] }
  | _ => none }
def fnPlanBatchRow : OpenClaim := { program := "ytldejkhemkjcgaagreatdoor", sum := "5404457c7688b15f1e170f867f92ac44e688a46f903a96e8f4eaaabd0a4b688a", func := "loop.example/tideline/laws.FnPlanBatch", spec := "fnPlanBatch", inPlace := ["internal/reflectlite.TypeOf"], unfollowed := true, recurses := true, named := ["loop.example/tideline/impl.errCannotBe"], ifaces := true, plainKeys := false, apart := false, laid := [("loop.example/tideline/impl.errCannotBe", laid_loop_example_tideline_impl_errCannotBe)] }
def FnPlanBatchSaid : Prop := fnPlanBatchRow.holds Tryz.pinned (OpenSpec.ofChange fnPlanBatchSpec)

/-- ITS FALSE NEIGHBOUR: 'it returns false'. Refute it at one input. -/
def fnPlanBatchWrong : ChangeSpec := { name := "fnPlanBatch", vars := ["loop.example/tideline/impl.errCannotBe"], fn := fun _ => fun
  | [d, g1] => { results := [.lit (.bool false)], args := [d], vars := [g1] }
  | _ => none }
def FnPlanBatchWrongFalsely : Prop := fnPlanBatchRow.holds Tryz.pinned (OpenSpec.ofChange fnPlanBatchWrong)

/-- 'laws.FnPlanMove': WHATEVER THE INPUT: true; the input reads as it did. -/
def fnPlanMoveSpec : ChangeSpec := { name := "fnPlanMove", vars := ["loop.example/tideline/impl.errCannotBe"], fn := fun _ => fun
  | [d1, d2, g1] => { results := [.lit (.bool true)], args := [d1, d2], vars := [g1] }
  | _ => none }
def fnPlanMoveRow : OpenClaim := { program := "ytldejkhemkjcgaagreatdoor", sum := "5404457c7688b15f1e170f867f92ac44e688a46f903a96e8f4eaaabd0a4b688a", func := "loop.example/tideline/laws.FnPlanMove", spec := "fnPlanMove", inPlace := ["internal/reflectlite.TypeOf"], unfollowed := true, recurses := true, named := ["loop.example/tideline/impl.errCannotBe"], ifaces := true, plainKeys := false, apart := false, laid := [("loop.example/tideline/impl.errCannotBe", laid_loop_example_tideline_impl_errCannotBe)] }
def FnPlanMoveSaid : Prop := fnPlanMoveRow.holds Tryz.pinned (OpenSpec.ofChange fnPlanMoveSpec)

/-- ITS FALSE NEIGHBOUR: 'it returns false'. Refute it at one input. -/
def fnPlanMoveWrong : ChangeSpec := { name := "fnPlanMove", vars := ["loop.example/tideline/impl.errCannotBe"], fn := fun _ => fun
  | [d1, d2, g1] => { results := [.lit (.bool false)], args := [d1, d2], vars := [g1] }
  | _ => none }
def FnPlanMoveWrongFalsely : Prop := fnPlanMoveRow.holds Tryz.pinned (OpenSpec.ofChange fnPlanMoveWrong)

/-- 'laws.FnPlanAhead': WHATEVER THE INPUT: true; the input reads as it did. -/
def fnPlanAheadSpec : ChangeSpec := { name := "fnPlanAhead", vars := ["loop.example/tideline/impl.errCannotBe"], fn := fun _ => fun
  | [d1, d2, g1] => { results := [.lit (.bool true)], args := [d1, d2], vars := [g1] }
  | _ => none }
def fnPlanAheadRow : OpenClaim := { program := "ytldejkhemkjcgaagreatdoor", sum := "5404457c7688b15f1e170f867f92ac44e688a46f903a96e8f4eaaabd0a4b688a", func := "loop.example/tideline/laws.FnPlanAhead", spec := "fnPlanAhead", inPlace := ["internal/reflectlite.TypeOf"], unfollowed := true, recurses := true, named := ["loop.example/tideline/impl.errCannotBe"], ifaces := true, plainKeys := false, apart := false, laid := [("loop.example/tideline/impl.errCannotBe", laid_loop_example_tideline_impl_errCannotBe)] }
def FnPlanAheadSaid : Prop := fnPlanAheadRow.holds Tryz.pinned (OpenSpec.ofChange fnPlanAheadSpec)

/-- ITS FALSE NEIGHBOUR: 'it returns false'. Refute it at one input. -/
def fnPlanAheadWrong : ChangeSpec := { name := "fnPlanAhead", vars := ["loop.example/tideline/impl.errCannotBe"], fn := fun _ => fun
  | [d1, d2, g1] => { results := [.lit (.bool false)], args := [d1, d2], vars := [g1] }
  | _ => none }
def FnPlanAheadWrongFalsely : Prop := fnPlanAheadRow.holds Tryz.pinned (OpenSpec.ofChange fnPlanAheadWrong)

/-- 'laws.FnPlanLess': WHATEVER THE INPUT: true; the input reads as it did. -/
def fnPlanLessSpec : ChangeSpec := { name := "fnPlanLess", vars := ["loop.example/tideline/impl.errCannotBe"], fn := fun _ => fun
  | [d, g1] => { results := [.lit (.bool true)], args := [d], vars := [g1] }
  | _ => none }
def fnPlanLessRow : OpenClaim := { program := "ytldejkhemkjcgaagreatdoor", sum := "5404457c7688b15f1e170f867f92ac44e688a46f903a96e8f4eaaabd0a4b688a", func := "loop.example/tideline/laws.FnPlanLess", spec := "fnPlanLess", inPlace := ["internal/reflectlite.TypeOf"], unfollowed := true, recurses := true, named := ["loop.example/tideline/impl.errCannotBe"], ifaces := true, plainKeys := false, apart := false, laid := [("loop.example/tideline/impl.errCannotBe", laid_loop_example_tideline_impl_errCannotBe)] }
def FnPlanLessSaid : Prop := fnPlanLessRow.holds Tryz.pinned (OpenSpec.ofChange fnPlanLessSpec)

/-- ITS FALSE NEIGHBOUR: 'it returns false'. Refute it at one input. -/
def fnPlanLessWrong : ChangeSpec := { name := "fnPlanLess", vars := ["loop.example/tideline/impl.errCannotBe"], fn := fun _ => fun
  | [d, g1] => { results := [.lit (.bool false)], args := [d], vars := [g1] }
  | _ => none }
def FnPlanLessWrongFalsely : Prop := fnPlanLessRow.holds Tryz.pinned (OpenSpec.ofChange fnPlanLessWrong)

/-- 'laws.FnPlanBoth': WHATEVER THE INPUT: true; the input reads as it did. -/
def fnPlanBothSpec : ChangeSpec := { name := "fnPlanBoth", vars := ["loop.example/tideline/impl.errCannotBe"], fn := fun _ => fun
  | [d, g1] => { results := [.lit (.bool true)], args := [d], vars := [g1] }
  | _ => none }
def fnPlanBothRow : OpenClaim := { program := "ytldejkhemkjcgaagreatdoor", sum := "5404457c7688b15f1e170f867f92ac44e688a46f903a96e8f4eaaabd0a4b688a", func := "loop.example/tideline/laws.FnPlanBoth", spec := "fnPlanBoth", inPlace := ["internal/reflectlite.TypeOf"], unfollowed := true, recurses := true, named := ["loop.example/tideline/impl.errCannotBe"], ifaces := true, plainKeys := false, apart := false, laid := [("loop.example/tideline/impl.errCannotBe", laid_loop_example_tideline_impl_errCannotBe)] }
def FnPlanBothSaid : Prop := fnPlanBothRow.holds Tryz.pinned (OpenSpec.ofChange fnPlanBothSpec)

/-- ITS FALSE NEIGHBOUR: 'it returns false'. Refute it at one input. -/
def fnPlanBothWrong : ChangeSpec := { name := "fnPlanBoth", vars := ["loop.example/tideline/impl.errCannotBe"], fn := fun _ => fun
  | [d, g1] => { results := [.lit (.bool false)], args := [d], vars := [g1] }
  | _ => none }
def FnPlanBothWrongFalsely : Prop := fnPlanBothRow.holds Tryz.pinned (OpenSpec.ofChange fnPlanBothWrong)

/-- 'laws.FnPlanStep': WHATEVER THE INPUT: true; the input reads as it did. -/
def fnPlanStepSpec : ChangeSpec := { name := "fnPlanStep", vars := ["loop.example/tideline/impl.errCannotBe"], fn := fun _ => fun
  | [d, g1] => { results := [.lit (.bool true)], args := [d], vars := [g1] }
  | _ => none }
def fnPlanStepRow : OpenClaim := { program := "ytldejkhemkjcgaagreatdoor", sum := "5404457c7688b15f1e170f867f92ac44e688a46f903a96e8f4eaaabd0a4b688a", func := "loop.example/tideline/laws.FnPlanStep", spec := "fnPlanStep", inPlace := ["internal/reflectlite.TypeOf"], unfollowed := true, recurses := true, named := ["loop.example/tideline/impl.errCannotBe"], ifaces := true, plainKeys := false, apart := false, laid := [("loop.example/tideline/impl.errCannotBe", laid_loop_example_tideline_impl_errCannotBe)] }
def FnPlanStepSaid : Prop := fnPlanStepRow.holds Tryz.pinned (OpenSpec.ofChange fnPlanStepSpec)

/-- ITS FALSE NEIGHBOUR: 'it returns false'. Refute it at one input. -/
def fnPlanStepWrong : ChangeSpec := { name := "fnPlanStep", vars := ["loop.example/tideline/impl.errCannotBe"], fn := fun _ => fun
  | [d, g1] => { results := [.lit (.bool false)], args := [d], vars := [g1] }
  | _ => none }
def FnPlanStepWrongFalsely : Prop := fnPlanStepRow.holds Tryz.pinned (OpenSpec.ofChange fnPlanStepWrong)

/-- 'laws.FnPlanSame': WHATEVER THE INPUT: true; the input reads as it did. -/
def fnPlanSameSpec : ChangeSpec := { name := "fnPlanSame", vars := ["loop.example/tideline/impl.errCannotBe"], fn := fun _ => fun
  | [d, g1] => { results := [.lit (.bool true)], args := [d], vars := [g1] }
  | _ => none }
def fnPlanSameRow : OpenClaim := { program := "ytldejkhemkjcgaagreatdoor", sum := "5404457c7688b15f1e170f867f92ac44e688a46f903a96e8f4eaaabd0a4b688a", func := "loop.example/tideline/laws.FnPlanSame", spec := "fnPlanSame", inPlace := ["internal/reflectlite.TypeOf"], unfollowed := true, recurses := true, named := ["loop.example/tideline/impl.errCannotBe"], ifaces := true, plainKeys := false, apart := false, laid := [("loop.example/tideline/impl.errCannotBe", laid_loop_example_tideline_impl_errCannotBe)] }
def FnPlanSameSaid : Prop := fnPlanSameRow.holds Tryz.pinned (OpenSpec.ofChange fnPlanSameSpec)

/-- ITS FALSE NEIGHBOUR: 'it returns false'. Refute it at one input. -/
def fnPlanSameWrong : ChangeSpec := { name := "fnPlanSame", vars := ["loop.example/tideline/impl.errCannotBe"], fn := fun _ => fun
  | [d, g1] => { results := [.lit (.bool false)], args := [d], vars := [g1] }
  | _ => none }
def FnPlanSameWrongFalsely : Prop := fnPlanSameRow.holds Tryz.pinned (OpenSpec.ofChange fnPlanSameWrong)

/-- 'laws.FnPlanIns': WHATEVER THE INPUT: true; the input reads as it did. -/
def fnPlanInsSpec : ChangeSpec := { name := "fnPlanIns", vars := ["loop.example/tideline/impl.errCannotBe"], fn := fun _ => fun
  | [d, g1] => { results := [.lit (.bool true)], args := [d], vars := [g1] }
  | _ => none }
def fnPlanInsRow : OpenClaim := { program := "ytldejkhemkjcgaagreatdoor", sum := "5404457c7688b15f1e170f867f92ac44e688a46f903a96e8f4eaaabd0a4b688a", func := "loop.example/tideline/laws.FnPlanIns", spec := "fnPlanIns", inPlace := ["internal/reflectlite.TypeOf"], unfollowed := true, recurses := true, named := ["loop.example/tideline/impl.errCannotBe"], ifaces := true, plainKeys := false, apart := false, laid := [("loop.example/tideline/impl.errCannotBe", laid_loop_example_tideline_impl_errCannotBe)] }
def FnPlanInsSaid : Prop := fnPlanInsRow.holds Tryz.pinned (OpenSpec.ofChange fnPlanInsSpec)

/-- ITS FALSE NEIGHBOUR: 'it returns false'. Refute it at one input. -/
def fnPlanInsWrong : ChangeSpec := { name := "fnPlanIns", vars := ["loop.example/tideline/impl.errCannotBe"], fn := fun _ => fun
  | [d, g1] => { results := [.lit (.bool false)], args := [d], vars := [g1] }
  | _ => none }
def FnPlanInsWrongFalsely : Prop := fnPlanInsRow.holds Tryz.pinned (OpenSpec.ofChange fnPlanInsWrong)

/-- 'laws.FnPlanSetOk': WHATEVER THE INPUT: true; the input reads as it did. -/
def fnPlanSetOkSpec : ChangeSpec := { name := "fnPlanSetOk", vars := ["loop.example/tideline/impl.errCannotBe"], fn := fun _ => fun
  | [d, g1] => { results := [.lit (.bool true)], args := [d], vars := [g1] }
  | _ => none }
def fnPlanSetOkRow : OpenClaim := { program := "ytldejkhemkjcgaagreatdoor", sum := "5404457c7688b15f1e170f867f92ac44e688a46f903a96e8f4eaaabd0a4b688a", func := "loop.example/tideline/laws.FnPlanSetOk", spec := "fnPlanSetOk", inPlace := ["internal/reflectlite.TypeOf", "math/bits.Add64"], unfollowed := true, recurses := true, named := ["loop.example/tideline/impl.errCannotBe"], ifaces := true, plainKeys := false, apart := false, laid := [("loop.example/tideline/impl.errCannotBe", laid_loop_example_tideline_impl_errCannotBe)] }
def FnPlanSetOkSaid : Prop := fnPlanSetOkRow.holds Tryz.pinned (OpenSpec.ofChange fnPlanSetOkSpec)

/-- ITS FALSE NEIGHBOUR: 'it returns false'. Refute it at one input. -/
def fnPlanSetOkWrong : ChangeSpec := { name := "fnPlanSetOk", vars := ["loop.example/tideline/impl.errCannotBe"], fn := fun _ => fun
  | [d, g1] => { results := [.lit (.bool false)], args := [d], vars := [g1] }
  | _ => none }
def FnPlanSetOkWrongFalsely : Prop := fnPlanSetOkRow.holds Tryz.pinned (OpenSpec.ofChange fnPlanSetOkWrong)

/- THE SECOND FORM. 'bulk': how many values and letters a reading holds, each counted each time it is reached (what is shared counts as often as it is met; a slice's spare places count too). A statement '..UptoSaid' is the law's where the arguments, and the package variables that the reading takes, are together of bulk at most 1048576: NARROWER than '..Said'. Prove '..Said' where nothing that the law and all that it calls make is longer than what came in: it says more and counts as full. Else prove '..UptoSaid'. A law counts once. -/
mutual
def uptoBulk {H : Type} : DataW H → Nat
  | .lit (.string bytes) => bytes.length + 1
  | .lit _ => 1
  | .nil => 1
  | .ptr d => uptoBulk d + 1
  | .slice elems spare => uptoBulkAll elems + uptoBulkAll spare + 1
  | .agg parts => uptoBulkAll parts + 1
  | .iface _ d => uptoBulk d + 1
  | .map entries => uptoBulkEntries entries + 1
  | .held _ => 1
def uptoBulkAll {H : Type} : List (DataW H) → Nat
  | [] => 0
  | d :: r => uptoBulk d + uptoBulkAll r
def uptoBulkEntries {H : Type} : List (Lit × DataW H) → Nat
  | [] => 0
  | x :: r => uptoBulkEntry x + uptoBulkEntries r
def uptoBulkEntry {H : Type} : Lit × DataW H → Nat
  | (.string bytes, d) => bytes.length + uptoBulk d + 1
  | (_, d) => uptoBulk d + 1
 end
def uptoSmall : (H : Type) → List (DataW H) → Bool := fun _ ds => decide (uptoBulkAll ds ≤ 1048576)
def OpenSpec.upto (s : _root_.Go.ChangeSpec) : _root_.Go.OpenSpec := { _root_.Go.OpenSpec.ofChange s with cond := some uptoSmall }

/-- 'laws.FnPlanTop', WHERE WHAT IT READS IS OF BULK AT MOST 1048576: true; the input reads as it did. -/
def fnPlanTopUptoRow : OpenClaim := { program := "ytldejkhemkjcgaagreatdoor", sum := "5404457c7688b15f1e170f867f92ac44e688a46f903a96e8f4eaaabd0a4b688a", func := "loop.example/tideline/laws.FnPlanTop", spec := "fnPlanTop", inPlace := ["internal/reflectlite.TypeOf", "math/bits.Add64"], unfollowed := true, recurses := true, named := ["loop.example/tideline/impl.errCannotBe"], ifaces := true, plainKeys := false, apart := false, laid := [("loop.example/tideline/impl.errCannotBe", laid_loop_example_tideline_impl_errCannotBe)], narrowed := true }
def FnPlanTopUptoSaid : Prop := fnPlanTopUptoRow.holds Tryz.pinned (OpenSpec.upto fnPlanTopSpec)

/-- 'laws.FnPlanBatch', WHERE WHAT IT READS IS OF BULK AT MOST 1048576: true; the input reads as it did. -/
def fnPlanBatchUptoRow : OpenClaim := { program := "ytldejkhemkjcgaagreatdoor", sum := "5404457c7688b15f1e170f867f92ac44e688a46f903a96e8f4eaaabd0a4b688a", func := "loop.example/tideline/laws.FnPlanBatch", spec := "fnPlanBatch", inPlace := ["internal/reflectlite.TypeOf"], unfollowed := true, recurses := true, named := ["loop.example/tideline/impl.errCannotBe"], ifaces := true, plainKeys := false, apart := false, laid := [("loop.example/tideline/impl.errCannotBe", laid_loop_example_tideline_impl_errCannotBe)], narrowed := true }
def FnPlanBatchUptoSaid : Prop := fnPlanBatchUptoRow.holds Tryz.pinned (OpenSpec.upto fnPlanBatchSpec)

/-- 'laws.FnPlanMove', WHERE WHAT IT READS IS OF BULK AT MOST 1048576: true; the input reads as it did. -/
def fnPlanMoveUptoRow : OpenClaim := { program := "ytldejkhemkjcgaagreatdoor", sum := "5404457c7688b15f1e170f867f92ac44e688a46f903a96e8f4eaaabd0a4b688a", func := "loop.example/tideline/laws.FnPlanMove", spec := "fnPlanMove", inPlace := ["internal/reflectlite.TypeOf"], unfollowed := true, recurses := true, named := ["loop.example/tideline/impl.errCannotBe"], ifaces := true, plainKeys := false, apart := false, laid := [("loop.example/tideline/impl.errCannotBe", laid_loop_example_tideline_impl_errCannotBe)], narrowed := true }
def FnPlanMoveUptoSaid : Prop := fnPlanMoveUptoRow.holds Tryz.pinned (OpenSpec.upto fnPlanMoveSpec)

/-- 'laws.FnPlanAhead', WHERE WHAT IT READS IS OF BULK AT MOST 1048576: true; the input reads as it did. -/
def fnPlanAheadUptoRow : OpenClaim := { program := "ytldejkhemkjcgaagreatdoor", sum := "5404457c7688b15f1e170f867f92ac44e688a46f903a96e8f4eaaabd0a4b688a", func := "loop.example/tideline/laws.FnPlanAhead", spec := "fnPlanAhead", inPlace := ["internal/reflectlite.TypeOf"], unfollowed := true, recurses := true, named := ["loop.example/tideline/impl.errCannotBe"], ifaces := true, plainKeys := false, apart := false, laid := [("loop.example/tideline/impl.errCannotBe", laid_loop_example_tideline_impl_errCannotBe)], narrowed := true }
def FnPlanAheadUptoSaid : Prop := fnPlanAheadUptoRow.holds Tryz.pinned (OpenSpec.upto fnPlanAheadSpec)

/-- 'laws.FnPlanLess', WHERE WHAT IT READS IS OF BULK AT MOST 1048576: true; the input reads as it did. -/
def fnPlanLessUptoRow : OpenClaim := { program := "ytldejkhemkjcgaagreatdoor", sum := "5404457c7688b15f1e170f867f92ac44e688a46f903a96e8f4eaaabd0a4b688a", func := "loop.example/tideline/laws.FnPlanLess", spec := "fnPlanLess", inPlace := ["internal/reflectlite.TypeOf"], unfollowed := true, recurses := true, named := ["loop.example/tideline/impl.errCannotBe"], ifaces := true, plainKeys := false, apart := false, laid := [("loop.example/tideline/impl.errCannotBe", laid_loop_example_tideline_impl_errCannotBe)], narrowed := true }
def FnPlanLessUptoSaid : Prop := fnPlanLessUptoRow.holds Tryz.pinned (OpenSpec.upto fnPlanLessSpec)

/-- 'laws.FnPlanBoth', WHERE WHAT IT READS IS OF BULK AT MOST 1048576: true; the input reads as it did. -/
def fnPlanBothUptoRow : OpenClaim := { program := "ytldejkhemkjcgaagreatdoor", sum := "5404457c7688b15f1e170f867f92ac44e688a46f903a96e8f4eaaabd0a4b688a", func := "loop.example/tideline/laws.FnPlanBoth", spec := "fnPlanBoth", inPlace := ["internal/reflectlite.TypeOf"], unfollowed := true, recurses := true, named := ["loop.example/tideline/impl.errCannotBe"], ifaces := true, plainKeys := false, apart := false, laid := [("loop.example/tideline/impl.errCannotBe", laid_loop_example_tideline_impl_errCannotBe)], narrowed := true }
def FnPlanBothUptoSaid : Prop := fnPlanBothUptoRow.holds Tryz.pinned (OpenSpec.upto fnPlanBothSpec)

/-- 'laws.FnPlanStep', WHERE WHAT IT READS IS OF BULK AT MOST 1048576: true; the input reads as it did. -/
def fnPlanStepUptoRow : OpenClaim := { program := "ytldejkhemkjcgaagreatdoor", sum := "5404457c7688b15f1e170f867f92ac44e688a46f903a96e8f4eaaabd0a4b688a", func := "loop.example/tideline/laws.FnPlanStep", spec := "fnPlanStep", inPlace := ["internal/reflectlite.TypeOf"], unfollowed := true, recurses := true, named := ["loop.example/tideline/impl.errCannotBe"], ifaces := true, plainKeys := false, apart := false, laid := [("loop.example/tideline/impl.errCannotBe", laid_loop_example_tideline_impl_errCannotBe)], narrowed := true }
def FnPlanStepUptoSaid : Prop := fnPlanStepUptoRow.holds Tryz.pinned (OpenSpec.upto fnPlanStepSpec)

/-- 'laws.FnPlanSame', WHERE WHAT IT READS IS OF BULK AT MOST 1048576: true; the input reads as it did. -/
def fnPlanSameUptoRow : OpenClaim := { program := "ytldejkhemkjcgaagreatdoor", sum := "5404457c7688b15f1e170f867f92ac44e688a46f903a96e8f4eaaabd0a4b688a", func := "loop.example/tideline/laws.FnPlanSame", spec := "fnPlanSame", inPlace := ["internal/reflectlite.TypeOf"], unfollowed := true, recurses := true, named := ["loop.example/tideline/impl.errCannotBe"], ifaces := true, plainKeys := false, apart := false, laid := [("loop.example/tideline/impl.errCannotBe", laid_loop_example_tideline_impl_errCannotBe)], narrowed := true }
def FnPlanSameUptoSaid : Prop := fnPlanSameUptoRow.holds Tryz.pinned (OpenSpec.upto fnPlanSameSpec)

/-- 'laws.FnPlanIns', WHERE WHAT IT READS IS OF BULK AT MOST 1048576: true; the input reads as it did. -/
def fnPlanInsUptoRow : OpenClaim := { program := "ytldejkhemkjcgaagreatdoor", sum := "5404457c7688b15f1e170f867f92ac44e688a46f903a96e8f4eaaabd0a4b688a", func := "loop.example/tideline/laws.FnPlanIns", spec := "fnPlanIns", inPlace := ["internal/reflectlite.TypeOf"], unfollowed := true, recurses := true, named := ["loop.example/tideline/impl.errCannotBe"], ifaces := true, plainKeys := false, apart := false, laid := [("loop.example/tideline/impl.errCannotBe", laid_loop_example_tideline_impl_errCannotBe)], narrowed := true }
def FnPlanInsUptoSaid : Prop := fnPlanInsUptoRow.holds Tryz.pinned (OpenSpec.upto fnPlanInsSpec)

/-- 'laws.FnPlanSetOk', WHERE WHAT IT READS IS OF BULK AT MOST 1048576: true; the input reads as it did. -/
def fnPlanSetOkUptoRow : OpenClaim := { program := "ytldejkhemkjcgaagreatdoor", sum := "5404457c7688b15f1e170f867f92ac44e688a46f903a96e8f4eaaabd0a4b688a", func := "loop.example/tideline/laws.FnPlanSetOk", spec := "fnPlanSetOk", inPlace := ["internal/reflectlite.TypeOf", "math/bits.Add64"], unfollowed := true, recurses := true, named := ["loop.example/tideline/impl.errCannotBe"], ifaces := true, plainKeys := false, apart := false, laid := [("loop.example/tideline/impl.errCannotBe", laid_loop_example_tideline_impl_errCannotBe)], narrowed := true }
def FnPlanSetOkUptoSaid : Prop := fnPlanSetOkUptoRow.holds Tryz.pinned (OpenSpec.upto fnPlanSetOkSpec)

end Rows
end Go.Proofs.YtldejkhemkjcgaaGreatDoor
