/-
  NARROWER THAN 'FOR EVERY INPUT', by the rows' own cells (each row's printed sentence says how): FnPlanOk: ifaces, laid · FnExactPlanOk: loops, ifaces, laid.
  DERIVED. THE GIVEN ROWS OF THIS SEAT. 2 by the template 'for every input the law returns true; each argument reads behind the call as it read before'; 0 by the template 'total and deterministic' (their statements: YtpkfgjloepbfpaaDoorTotals.lean).
  GIVEN WITH THE SEED: the statements are not yours to turn. If you find one false, say at which input.
  Laid BY PROGRAM, IN A SANDBOX (cutbox-rows.mjs): the forced cells as the released guide's own fill.sh prints them over the translation 5ddb40d023259151… (all of the seat's roots in one cut). By AI agents, Wed Nov 11 2026. No macro, syntax, notation, axiom, sorry.
-/
import Derived.Test.YtpkfgjloepbfpaaDoorChecked
import GoSem.Claim
import GoSem.ClaimJoined
import GoSem.ClaimMapViews
import Derived.JoinedTies
import Derived.KernelRfl
namespace Go.Proofs.YtpkfgjloepbfpaaDoor
/- THE CELL 'sum', in the pinned program and in every row, IS THE sha256 OF THE DUMP (.gsa) THAT YtpkfgjloepbfpaaDoorProg.lean LOADS. Nothing in Lean hashes anything: it is a label: what it is worth is what the hold of that sum in a sandbox is worth. -/
noncomputable def Tryd.pinned : Pinned := { name := "ytpkfgjloepbfpaadoor", sum := "5ddb40d0232591518f919b4f9a07a842382e3e5c791d7213772638164aedf605", checked := Tryd.checked }
namespace Rows
def none {H : Type} : Left H := { results := [], args := [] }

/- WHAT THE LISTED PACKAGE-LEVEL VARIABLES READ AS WHEN THE CALL BEGINS. Each datum BY PROGRAM (the guide's laid-datum.mjs) off the statement by which the dump's own 'gosem.cut.vars' lays the variable. In a bare row this is a premise. The card (YtpkfgjloepbfpaaDoorCards.lean) ties it to the program's text. -/
def laid_loop_example_tideline_impl_errCannotBe {H : Type} : DataW H := .iface "*errors.errorString" (.ptr (.agg [.lit (.string [99, 97, 110, 110, 111, 116, 32, 98, 101])]))

/-- 'laws.FnPlanOk': WHATEVER THE INPUT: true; the input reads as it did. -/
def fnPlanOkSpec : ChangeSpec := { name := "fnPlanOk", vars := ["loop.example/tideline/impl.errCannotBe"], fn := fun _ => fun
  | [d, g1] => { results := [.lit (.bool true)], args := [d], vars := [g1] }
  | _ => none }
def fnPlanOkRow : OpenClaim := { program := "ytpkfgjloepbfpaadoor", sum := "5ddb40d0232591518f919b4f9a07a842382e3e5c791d7213772638164aedf605", func := "loop.example/tideline/laws.FnPlanOk", spec := "fnPlanOk", inPlace := ["internal/reflectlite.TypeOf"], unfollowed := true, recurses := true, named := ["loop.example/tideline/impl.errCannotBe"], ifaces := true, apart := false, laid := [("loop.example/tideline/impl.errCannotBe", laid_loop_example_tideline_impl_errCannotBe)] }
def FnPlanOkSaid : Prop := fnPlanOkRow.holds Tryd.pinned (OpenSpec.ofChange fnPlanOkSpec)

/-- ITS FALSE NEIGHBOUR: 'it returns false'. Refute it at one input. -/
def fnPlanOkWrong : ChangeSpec := { name := "fnPlanOk", vars := ["loop.example/tideline/impl.errCannotBe"], fn := fun _ => fun
  | [d, g1] => { results := [.lit (.bool false)], args := [d], vars := [g1] }
  | _ => none }
def FnPlanOkWrongFalsely : Prop := fnPlanOkRow.holds Tryd.pinned (OpenSpec.ofChange fnPlanOkWrong)

/-- 'laws.FnExactPlanOk': WHATEVER THE INPUT: true; the input reads as it did. -/
def fnExactPlanOkSpec : ChangeSpec := { name := "fnExactPlanOk", vars := ["loop.example/tideline/impl.errCannotBe"], fn := fun _ => fun
  | [d, g1] => { results := [.lit (.bool true)], args := [d], vars := [g1] }
  | _ => none }
def fnExactPlanOkRow : OpenClaim := { program := "ytpkfgjloepbfpaadoor", sum := "5ddb40d0232591518f919b4f9a07a842382e3e5c791d7213772638164aedf605", func := "loop.example/tideline/laws.FnExactPlanOk", spec := "fnExactPlanOk", inPlace := ["internal/reflectlite.TypeOf"], unfollowed := true, recurses := true, named := ["loop.example/tideline/impl.errCannotBe"], ifaces := true, loops := true, apart := false, laid := [("loop.example/tideline/impl.errCannotBe", laid_loop_example_tideline_impl_errCannotBe)] }
def FnExactPlanOkSaid : Prop := fnExactPlanOkRow.holds Tryd.pinned (OpenSpec.ofChange fnExactPlanOkSpec)

/-- ITS FALSE NEIGHBOUR: 'it returns false'. Refute it at one input. -/
def fnExactPlanOkWrong : ChangeSpec := { name := "fnExactPlanOk", vars := ["loop.example/tideline/impl.errCannotBe"], fn := fun _ => fun
  | [d, g1] => { results := [.lit (.bool false)], args := [d], vars := [g1] }
  | _ => none }
def FnExactPlanOkWrongFalsely : Prop := fnExactPlanOkRow.holds Tryd.pinned (OpenSpec.ofChange fnExactPlanOkWrong)

/- THE SECOND FORM. 'bulk': how many values and letters a reading holds, each counted each time it is reached (what is shared counts as often as it is met; a slice's spare places count too). A statement '..UptoSaid' is the law's where the arguments, and the package variables that the reading takes, are together of bulk at most 1048576: NARROWER than '..Said'. Prove '..Said' where nothing that the law and all that it calls make is longer than what came in: it says more and counts as full. Else prove '..UptoSaid'. A law counts once. -/
mutual
def uptoBulk {H : Type} : DataW H → Nat
  | .lit (.string bytes) => bytes.length + 1
  | .lit _ => 1
  | .nil => 1
  | .ptr d => uptoBulk d + 1
  | .slice elems spare => uptoBulkAll elems + uptoBulkAll spare + 1
  | .agg parts => uptoBulkAll parts + 1
  | .iface _ d => uptoBulk d + 1
  | .map entries => uptoBulkEntries entries + 1
  | .held _ => 1
def uptoBulkAll {H : Type} : List (DataW H) → Nat
  | [] => 0
  | d :: r => uptoBulk d + uptoBulkAll r
def uptoBulkEntries {H : Type} : List (Lit × DataW H) → Nat
  | [] => 0
  | x :: r => uptoBulkEntry x + uptoBulkEntries r
def uptoBulkEntry {H : Type} : Lit × DataW H → Nat
  | (.string bytes, d) => bytes.length + uptoBulk d + 1
  | (_, d) => uptoBulk d + 1
 end
def uptoSmall : (H : Type) → List (DataW H) → Bool := fun _ ds => decide (uptoBulkAll ds ≤ 1048576)
def OpenSpec.upto (s : _root_.Go.ChangeSpec) : _root_.Go.OpenSpec := { _root_.Go.OpenSpec.ofChange s with cond := some uptoSmall }

/-- 'laws.FnPlanOk', WHERE WHAT IT READS IS OF BULK AT MOST 1048576: true; the input reads as it did. -/
def fnPlanOkUptoRow : OpenClaim := { program := "ytpkfgjloepbfpaadoor", sum := "5ddb40d0232591518f919b4f9a07a842382e3e5c791d7213772638164aedf605", func := "loop.example/tideline/laws.FnPlanOk", spec := "fnPlanOk", inPlace := ["internal/reflectlite.TypeOf"], unfollowed := true, recurses := true, named := ["loop.example/tideline/impl.errCannotBe"], ifaces := true, apart := false, laid := [("loop.example/tideline/impl.errCannotBe", laid_loop_example_tideline_impl_errCannotBe)], narrowed := true }
def FnPlanOkUptoSaid : Prop := fnPlanOkUptoRow.holds Tryd.pinned (OpenSpec.upto fnPlanOkSpec)

/-- 'laws.FnExactPlanOk', WHERE WHAT IT READS IS OF BULK AT MOST 1048576: true; the input reads as it did. -/
def fnExactPlanOkUptoRow : OpenClaim := { program := "ytpkfgjloepbfpaadoor", sum := "5ddb40d0232591518f919b4f9a07a842382e3e5c791d7213772638164aedf605", func := "loop.example/tideline/laws.FnExactPlanOk", spec := "fnExactPlanOk", inPlace := ["internal/reflectlite.TypeOf"], unfollowed := true, recurses := true, named := ["loop.example/tideline/impl.errCannotBe"], ifaces := true, loops := true, apart := false, laid := [("loop.example/tideline/impl.errCannotBe", laid_loop_example_tideline_impl_errCannotBe)], narrowed := true }
def FnExactPlanOkUptoSaid : Prop := fnExactPlanOkUptoRow.holds Tryd.pinned (OpenSpec.upto fnExactPlanOkSpec)

end Rows
end Go.Proofs.YtpkfgjloepbfpaaDoor
