/-
  NARROWER THAN 'FOR EVERY INPUT', by the rows' own cells (each row's printed sentence says how): FnSessTop: ifaces, laid · FnSessOn: ifaces, laid · FnSessOnNew: ifaces, laid · FnSessSteps: ifaces, laid · FnSessEnd: ifaces, laid · FnSessNew: ifaces, laid · FnSessNot: ifaces, laid · FnSessBack: ifaces, laid · FnExactSessOk: loops, ifaces, laid · FnExactSessOn: loops, ifaces, laid · FnExactSessAt: loops, ifaces, laid.
  DERIVED. THE GIVEN ROWS OF THIS SEAT. 11 by the template 'for every input the law returns true; each argument reads behind the call as it read before'; 0 by the template 'total and deterministic' (their statements: YtbdpcngcbnoioaaGreatDoorTotals.lean).
  GIVEN WITH THE SEED: the statements are not yours to turn. If you find one false, say at which input.
  Laid BY PROGRAM, IN A SANDBOX (cutbox-rows.mjs): the forced cells as the released guide's own fill.sh prints them over the translation a967abef2376fc64… (all of the seat's roots in one cut). By AI agents, Wed Nov 11 2026. No macro, syntax, notation, axiom, sorry.
-/
import Derived.Test.YtbdpcngcbnoioaaGreatDoorChecked
import GoSem.Claim
import GoSem.ClaimJoined
import GoSem.ClaimMapViews
import Derived.JoinedTies
import Derived.KernelRfl
namespace Go.Proofs.YtbdpcngcbnoioaaGreatDoor
/- THE CELL 'sum', in the pinned program and in every row, IS THE sha256 OF THE DUMP (.gsa) THAT YtbdpcngcbnoioaaGreatDoorProg.lean LOADS. Nothing in Lean hashes anything: it is a label: what it is worth is what the hold of that sum in a sandbox is worth. -/
noncomputable def Tryz.pinned : Pinned := { name := "ytbdpcngcbnoioaagreatdoor", sum := "a967abef2376fc64c8366848b6cb6ee9a4416c6d7c81f69e15f069be47698c51", checked := Tryz.checked }
namespace Rows
def none {H : Type} : Left H := { results := [], args := [] }

/- WHAT THE LISTED PACKAGE-LEVEL VARIABLES READ AS WHEN THE CALL BEGINS. Each datum BY PROGRAM (the guide's laid-datum.mjs) off the statement by which the dump's own 'gosem.cut.vars' lays the variable. In a bare row this is a premise. The card (YtbdpcngcbnoioaaGreatDoorCards.lean) ties it to the program's text. -/
def laid_loop_example_tideline_impl_errCannotBe {H : Type} : DataW H := .iface "*errors.errorString" (.ptr (.agg [.lit (.string [99, 97, 110, 110, 111, 116, 32, 98, 101])]))

/-- 'laws.FnSessTop': WHATEVER THE INPUT: true; the input reads as it did. -/
def fnSessTopSpec : ChangeSpec := { name := "fnSessTop", vars := ["loop.example/tideline/impl.errCannotBe"], fn := fun _ => fun
  | [d, g1] => { results := [.lit (.bool true)], args := [d], vars := [g1] }
  | _ => none }
def fnSessTopRow : OpenClaim := { program := "ytbdpcngcbnoioaagreatdoor", sum := "a967abef2376fc64c8366848b6cb6ee9a4416c6d7c81f69e15f069be47698c51", func := "loop.example/tideline/laws.FnSessTop", spec := "fnSessTop", inPlace := ["internal/reflectlite.TypeOf", "math/bits.Add64"], unfollowed := true, recurses := true, named := ["loop.example/tideline/impl.errCannotBe"], ifaces := true, plainKeys := false, apart := false, laid := [("loop.example/tideline/impl.errCannotBe", laid_loop_example_tideline_impl_errCannotBe)] }
def FnSessTopSaid : Prop := fnSessTopRow.holds Tryz.pinned (OpenSpec.ofChange fnSessTopSpec)

/-- ITS FALSE NEIGHBOUR: 'it returns false'. Refute it at one input. -/
def fnSessTopWrong : ChangeSpec := { name := "fnSessTop", vars := ["loop.example/tideline/impl.errCannotBe"], fn := fun _ => fun
  | [d, g1] => { results := [.lit (.bool false)], args := [d], vars := [g1] }
  | _ => none }
def FnSessTopWrongFalsely : Prop := fnSessTopRow.holds Tryz.pinned (OpenSpec.ofChange fnSessTopWrong)

/-- 'laws.FnSessOn': WHATEVER THE INPUT: true; the input reads as it did. -/
def fnSessOnSpec : ChangeSpec := { name := "fnSessOn", vars := ["loop.example/tideline/impl.errCannotBe"], fn := fun _ => fun
  | [d, g1] => { results := [.lit (.bool true)], args := [d], vars := [g1] }
  | _ => none }
def fnSessOnRow : OpenClaim := { program := "ytbdpcngcbnoioaagreatdoor", sum := "a967abef2376fc64c8366848b6cb6ee9a4416c6d7c81f69e15f069be47698c51", func := "loop.example/tideline/laws.FnSessOn", spec := "fnSessOn", inPlace := ["internal/reflectlite.TypeOf"], unfollowed := true, recurses := true, named := ["loop.example/tideline/impl.errCannotBe"], ifaces := true, plainKeys := false, apart := false, laid := [("loop.example/tideline/impl.errCannotBe", laid_loop_example_tideline_impl_errCannotBe)] }
def FnSessOnSaid : Prop := fnSessOnRow.holds Tryz.pinned (OpenSpec.ofChange fnSessOnSpec)

/-- ITS FALSE NEIGHBOUR: 'it returns false'. Refute it at one input. -/
def fnSessOnWrong : ChangeSpec := { name := "fnSessOn", vars := ["loop.example/tideline/impl.errCannotBe"], fn := fun _ => fun
  | [d, g1] => { results := [.lit (.bool false)], args := [d], vars := [g1] }
  | _ => none }
def FnSessOnWrongFalsely : Prop := fnSessOnRow.holds Tryz.pinned (OpenSpec.ofChange fnSessOnWrong)

/-- 'laws.FnSessOnNew': WHATEVER THE INPUT: true; the input reads as it did. -/
def fnSessOnNewSpec : ChangeSpec := { name := "fnSessOnNew", vars := ["loop.example/tideline/impl.errCannotBe"], fn := fun _ => fun
  | [d, g1] => { results := [.lit (.bool true)], args := [d], vars := [g1] }
  | _ => none }
def fnSessOnNewRow : OpenClaim := { program := "ytbdpcngcbnoioaagreatdoor", sum := "a967abef2376fc64c8366848b6cb6ee9a4416c6d7c81f69e15f069be47698c51", func := "loop.example/tideline/laws.FnSessOnNew", spec := "fnSessOnNew", inPlace := ["internal/reflectlite.TypeOf"], unfollowed := true, recurses := true, named := ["loop.example/tideline/impl.errCannotBe"], ifaces := true, plainKeys := false, apart := false, laid := [("loop.example/tideline/impl.errCannotBe", laid_loop_example_tideline_impl_errCannotBe)] }
def FnSessOnNewSaid : Prop := fnSessOnNewRow.holds Tryz.pinned (OpenSpec.ofChange fnSessOnNewSpec)

/-- ITS FALSE NEIGHBOUR: 'it returns false'. Refute it at one input. -/
def fnSessOnNewWrong : ChangeSpec := { name := "fnSessOnNew", vars := ["loop.example/tideline/impl.errCannotBe"], fn := fun _ => fun
  | [d, g1] => { results := [.lit (.bool false)], args := [d], vars := [g1] }
  | _ => none }
def FnSessOnNewWrongFalsely : Prop := fnSessOnNewRow.holds Tryz.pinned (OpenSpec.ofChange fnSessOnNewWrong)

/-- 'laws.FnSessSteps': WHATEVER THE INPUT: true; the input reads as it did. -/
def fnSessStepsSpec : ChangeSpec := { name := "fnSessSteps", vars := ["loop.example/tideline/impl.errCannotBe"], fn := fun _ => fun
  | [d1, d2, g1] => { results := [.lit (.bool true)], args := [d1, d2], vars := [g1] }
  | _ => none }
def fnSessStepsRow : OpenClaim := { program := "ytbdpcngcbnoioaagreatdoor", sum := "a967abef2376fc64c8366848b6cb6ee9a4416c6d7c81f69e15f069be47698c51", func := "loop.example/tideline/laws.FnSessSteps", spec := "fnSessSteps", inPlace := ["internal/reflectlite.TypeOf"], unfollowed := true, recurses := true, named := ["loop.example/tideline/impl.errCannotBe"], ifaces := true, plainKeys := false, apart := false, laid := [("loop.example/tideline/impl.errCannotBe", laid_loop_example_tideline_impl_errCannotBe)] }
def FnSessStepsSaid : Prop := fnSessStepsRow.holds Tryz.pinned (OpenSpec.ofChange fnSessStepsSpec)

/-- ITS FALSE NEIGHBOUR: 'it returns false'. Refute it at one input. -/
def fnSessStepsWrong : ChangeSpec := { name := "fnSessSteps", vars := ["loop.example/tideline/impl.errCannotBe"], fn := fun _ => fun
  | [d1, d2, g1] => { results := [.lit (.bool false)], args := [d1, d2], vars := [g1] }
  | _ => none }
def FnSessStepsWrongFalsely : Prop := fnSessStepsRow.holds Tryz.pinned (OpenSpec.ofChange fnSessStepsWrong)

/-- 'laws.FnSessEnd': WHATEVER THE INPUT: true; the input reads as it did. -/
def fnSessEndSpec : ChangeSpec := { name := "fnSessEnd", vars := ["loop.example/tideline/impl.errCannotBe"], fn := fun _ => fun
  | [d, g1] => { results := [.lit (.bool true)], args := [d], vars := [g1] }
  | _ => none }
def fnSessEndRow : OpenClaim := { program := "ytbdpcngcbnoioaagreatdoor", sum := "a967abef2376fc64c8366848b6cb6ee9a4416c6d7c81f69e15f069be47698c51", func := "loop.example/tideline/laws.FnSessEnd", spec := "fnSessEnd", inPlace := ["internal/reflectlite.TypeOf"], unfollowed := true, recurses := true, named := ["loop.example/tideline/impl.errCannotBe"], ifaces := true, plainKeys := false, apart := false, laid := [("loop.example/tideline/impl.errCannotBe", laid_loop_example_tideline_impl_errCannotBe)] }
def FnSessEndSaid : Prop := fnSessEndRow.holds Tryz.pinned (OpenSpec.ofChange fnSessEndSpec)

/-- ITS FALSE NEIGHBOUR: 'it returns false'. Refute it at one input. -/
def fnSessEndWrong : ChangeSpec := { name := "fnSessEnd", vars := ["loop.example/tideline/impl.errCannotBe"], fn := fun _ => fun
  | [d, g1] => { results := [.lit (.bool false)], args := [d], vars := [g1] }
  | _ => none }
def FnSessEndWrongFalsely : Prop := fnSessEndRow.holds Tryz.pinned (OpenSpec.ofChange fnSessEndWrong)

/-- 'laws.FnSessNew': WHATEVER THE INPUT: true; the input reads as it did. -/
def fnSessNewSpec : ChangeSpec := { name := "fnSessNew", vars := ["loop.example/tideline/impl.errCannotBe"], fn := fun _ => fun
  | [d, g1] => { results := [.lit (.bool true)], args := [d], vars := [g1] }
  | _ => none }
def fnSessNewRow : OpenClaim := { program := "ytbdpcngcbnoioaagreatdoor", sum := "a967abef2376fc64c8366848b6cb6ee9a4416c6d7c81f69e15f069be47698c51", func := "loop.example/tideline/laws.FnSessNew", spec := "fnSessNew", inPlace := ["internal/reflectlite.TypeOf"], unfollowed := true, recurses := true, named := ["loop.example/tideline/impl.errCannotBe"], ifaces := true, plainKeys := false, apart := false, laid := [("loop.example/tideline/impl.errCannotBe", laid_loop_example_tideline_impl_errCannotBe)] }
def FnSessNewSaid : Prop := fnSessNewRow.holds Tryz.pinned (OpenSpec.ofChange fnSessNewSpec)

/-- ITS FALSE NEIGHBOUR: 'it returns false'. Refute it at one input. -/
def fnSessNewWrong : ChangeSpec := { name := "fnSessNew", vars := ["loop.example/tideline/impl.errCannotBe"], fn := fun _ => fun
  | [d, g1] => { results := [.lit (.bool false)], args := [d], vars := [g1] }
  | _ => none }
def FnSessNewWrongFalsely : Prop := fnSessNewRow.holds Tryz.pinned (OpenSpec.ofChange fnSessNewWrong)

/-- 'laws.FnSessNot': WHATEVER THE INPUT: true; the input reads as it did. -/
def fnSessNotSpec : ChangeSpec := { name := "fnSessNot", vars := ["loop.example/tideline/impl.errCannotBe"], fn := fun _ => fun
  | [d, g1] => { results := [.lit (.bool true)], args := [d], vars := [g1] }
  | _ => none }
def fnSessNotRow : OpenClaim := { program := "ytbdpcngcbnoioaagreatdoor", sum := "a967abef2376fc64c8366848b6cb6ee9a4416c6d7c81f69e15f069be47698c51", func := "loop.example/tideline/laws.FnSessNot", spec := "fnSessNot", inPlace := ["internal/reflectlite.TypeOf"], unfollowed := true, recurses := true, named := ["loop.example/tideline/impl.errCannotBe"], ifaces := true, plainKeys := false, apart := false, laid := [("loop.example/tideline/impl.errCannotBe", laid_loop_example_tideline_impl_errCannotBe)] }
def FnSessNotSaid : Prop := fnSessNotRow.holds Tryz.pinned (OpenSpec.ofChange fnSessNotSpec)

/-- ITS FALSE NEIGHBOUR: 'it returns false'. Refute it at one input. -/
def fnSessNotWrong : ChangeSpec := { name := "fnSessNot", vars := ["loop.example/tideline/impl.errCannotBe"], fn := fun _ => fun
  | [d, g1] => { results := [.lit (.bool false)], args := [d], vars := [g1] }
  | _ => none }
def FnSessNotWrongFalsely : Prop := fnSessNotRow.holds Tryz.pinned (OpenSpec.ofChange fnSessNotWrong)

/-- 'laws.FnSessBack': WHATEVER THE INPUT: true; the input reads as it did. -/
def fnSessBackSpec : ChangeSpec := { name := "fnSessBack", vars := ["loop.example/tideline/impl.errCannotBe"], fn := fun _ => fun
  | [d, g1] => { results := [.lit (.bool true)], args := [d], vars := [g1] }
  | _ => none }
def fnSessBackRow : OpenClaim := { program := "ytbdpcngcbnoioaagreatdoor", sum := "a967abef2376fc64c8366848b6cb6ee9a4416c6d7c81f69e15f069be47698c51", func := "loop.example/tideline/laws.FnSessBack", spec := "fnSessBack", inPlace := ["internal/reflectlite.TypeOf"], unfollowed := true, recurses := true, named := ["loop.example/tideline/impl.errCannotBe"], ifaces := true, plainKeys := false, apart := false, laid := [("loop.example/tideline/impl.errCannotBe", laid_loop_example_tideline_impl_errCannotBe)] }
def FnSessBackSaid : Prop := fnSessBackRow.holds Tryz.pinned (OpenSpec.ofChange fnSessBackSpec)

/-- ITS FALSE NEIGHBOUR: 'it returns false'. Refute it at one input. -/
def fnSessBackWrong : ChangeSpec := { name := "fnSessBack", vars := ["loop.example/tideline/impl.errCannotBe"], fn := fun _ => fun
  | [d, g1] => { results := [.lit (.bool false)], args := [d], vars := [g1] }
  | _ => none }
def FnSessBackWrongFalsely : Prop := fnSessBackRow.holds Tryz.pinned (OpenSpec.ofChange fnSessBackWrong)

/-- 'laws.FnExactSessOk': WHATEVER THE INPUT: true; the input reads as it did. -/
def fnExactSessOkSpec : ChangeSpec := { name := "fnExactSessOk", vars := ["loop.example/tideline/impl.errCannotBe"], fn := fun _ => fun
  | [d, g1] => { results := [.lit (.bool true)], args := [d], vars := [g1] }
  | _ => none }
def fnExactSessOkRow : OpenClaim := { program := "ytbdpcngcbnoioaagreatdoor", sum := "a967abef2376fc64c8366848b6cb6ee9a4416c6d7c81f69e15f069be47698c51", func := "loop.example/tideline/laws.FnExactSessOk", spec := "fnExactSessOk", inPlace := ["internal/reflectlite.TypeOf"], unfollowed := true, recurses := true, named := ["loop.example/tideline/impl.errCannotBe"], ifaces := true, loops := true, plainKeys := false, apart := false, laid := [("loop.example/tideline/impl.errCannotBe", laid_loop_example_tideline_impl_errCannotBe)] }
def FnExactSessOkSaid : Prop := fnExactSessOkRow.holds Tryz.pinned (OpenSpec.ofChange fnExactSessOkSpec)

/-- ITS FALSE NEIGHBOUR: 'it returns false'. Refute it at one input. -/
def fnExactSessOkWrong : ChangeSpec := { name := "fnExactSessOk", vars := ["loop.example/tideline/impl.errCannotBe"], fn := fun _ => fun
  | [d, g1] => { results := [.lit (.bool false)], args := [d], vars := [g1] }
  | _ => none }
def FnExactSessOkWrongFalsely : Prop := fnExactSessOkRow.holds Tryz.pinned (OpenSpec.ofChange fnExactSessOkWrong)

/-- 'laws.FnExactSessOn': WHATEVER THE INPUT: true; the input reads as it did. -/
def fnExactSessOnSpec : ChangeSpec := { name := "fnExactSessOn", vars := ["loop.example/tideline/impl.errCannotBe"], fn := fun _ => fun
  | [d1, d2, g1] => { results := [.lit (.bool true)], args := [d1, d2], vars := [g1] }
  | _ => none }
def fnExactSessOnRow : OpenClaim := { program := "ytbdpcngcbnoioaagreatdoor", sum := "a967abef2376fc64c8366848b6cb6ee9a4416c6d7c81f69e15f069be47698c51", func := "loop.example/tideline/laws.FnExactSessOn", spec := "fnExactSessOn", inPlace := ["internal/reflectlite.TypeOf"], unfollowed := true, recurses := true, named := ["loop.example/tideline/impl.errCannotBe"], ifaces := true, loops := true, plainKeys := false, apart := false, laid := [("loop.example/tideline/impl.errCannotBe", laid_loop_example_tideline_impl_errCannotBe)] }
def FnExactSessOnSaid : Prop := fnExactSessOnRow.holds Tryz.pinned (OpenSpec.ofChange fnExactSessOnSpec)

/-- ITS FALSE NEIGHBOUR: 'it returns false'. Refute it at one input. -/
def fnExactSessOnWrong : ChangeSpec := { name := "fnExactSessOn", vars := ["loop.example/tideline/impl.errCannotBe"], fn := fun _ => fun
  | [d1, d2, g1] => { results := [.lit (.bool false)], args := [d1, d2], vars := [g1] }
  | _ => none }
def FnExactSessOnWrongFalsely : Prop := fnExactSessOnRow.holds Tryz.pinned (OpenSpec.ofChange fnExactSessOnWrong)

/-- 'laws.FnExactSessAt': WHATEVER THE INPUT: true; the input reads as it did. -/
def fnExactSessAtSpec : ChangeSpec := { name := "fnExactSessAt", vars := ["loop.example/tideline/impl.errCannotBe"], fn := fun _ => fun
  | [d1, d2, g1] => { results := [.lit (.bool true)], args := [d1, d2], vars := [g1] }
  | _ => none }
def fnExactSessAtRow : OpenClaim := { program := "ytbdpcngcbnoioaagreatdoor", sum := "a967abef2376fc64c8366848b6cb6ee9a4416c6d7c81f69e15f069be47698c51", func := "loop.example/tideline/laws.FnExactSessAt", spec := "fnExactSessAt", inPlace := ["internal/reflectlite.TypeOf"], unfollowed := true, recurses := true, named := ["loop.example/tideline/impl.errCannotBe"], ifaces := true, loops := true, plainKeys := false, apart := false, laid := [("loop.example/tideline/impl.errCannotBe", laid_loop_example_tideline_impl_errCannotBe)] }
def FnExactSessAtSaid : Prop := fnExactSessAtRow.holds Tryz.pinned (OpenSpec.ofChange fnExactSessAtSpec)

/-- ITS FALSE NEIGHBOUR: 'it returns false'. Refute it at one input. -/
def fnExactSessAtWrong : ChangeSpec := { name := "fnExactSessAt", vars := ["loop.example/tideline/impl.errCannotBe"], fn := fun _ => fun
  | [d1, d2, g1] => { results := [.lit (.bool false)], args := [d1, d2], vars := [g1] }
  | _ => none }
def FnExactSessAtWrongFalsely : Prop := fnExactSessAtRow.holds Tryz.pinned (OpenSpec.ofChange fnExactSessAtWrong)

/- THE SECOND FORM. 'bulk': how many values and letters a reading holds, each counted each time it is reached (what is shared counts as often as it is met; a slice's spare places count too). A statement '..UptoSaid' is the law's where the arguments, and the package variables that the reading takes, are together of bulk at most 1048576: NARROWER than '..Said'. Prove '..Said' where nothing that the law and all that it calls make is longer than what came in: it says more and counts as full. Else prove '..UptoSaid'. A law counts once. -/
mutual
def uptoBulk {H : Type} : DataW H → Nat
  | .lit (.string bytes) => bytes.length + 1
  | .lit _ => 1
  | .nil => 1
  | .ptr d => uptoBulk d + 1
  | .slice elems spare => uptoBulkAll elems + uptoBulkAll spare + 1
  | .agg parts => uptoBulkAll parts + 1
  | .iface _ d => uptoBulk d + 1
  | .map entries => uptoBulkEntries entries + 1
  | .held _ => 1
def uptoBulkAll {H : Type} : List (DataW H) → Nat
  | [] => 0
  | d :: r => uptoBulk d + uptoBulkAll r
def uptoBulkEntries {H : Type} : List (Lit × DataW H) → Nat
  | [] => 0
  | x :: r => uptoBulkEntry x + uptoBulkEntries r
def uptoBulkEntry {H : Type} : Lit × DataW H → Nat
  | (.string bytes, d) => bytes.length + uptoBulk d + 1
  | (_, d) => uptoBulk d + 1
 end
def uptoSmall : (H : Type) → List (DataW H) → Bool := fun _ ds => decide (uptoBulkAll ds ≤ 1048576)
def OpenSpec.upto (s : _root_.Go.ChangeSpec) : _root_.Go.OpenSpec := { _root_.Go.OpenSpec.ofChange s with cond := some uptoSmall }

/-- 'laws.FnSessTop', WHERE WHAT IT READS IS OF BULK AT MOST 1048576: true; the input reads as it did. -/
def fnSessTopUptoRow : OpenClaim := { program := "ytbdpcngcbnoioaagreatdoor", sum := "a967abef2376fc64c8366848b6cb6ee9a4416c6d7c81f69e15f069be47698c51", func := "loop.example/tideline/laws.FnSessTop", spec := "fnSessTop", inPlace := ["internal/reflectlite.TypeOf", "math/bits.Add64"], unfollowed := true, recurses := true, named := ["loop.example/tideline/impl.errCannotBe"], ifaces := true, plainKeys := false, apart := false, laid := [("loop.example/tideline/impl.errCannotBe", laid_loop_example_tideline_impl_errCannotBe)], narrowed := true }
def FnSessTopUptoSaid : Prop := fnSessTopUptoRow.holds Tryz.pinned (OpenSpec.upto fnSessTopSpec)

/-- 'laws.FnSessOn', WHERE WHAT IT READS IS OF BULK AT MOST 1048576: true; the input reads as it did. -/
def fnSessOnUptoRow : OpenClaim := { program := "ytbdpcngcbnoioaagreatdoor", sum := "a967abef2376fc64c8366848b6cb6ee9a4416c6d7c81f69e15f069be47698c51", func := "loop.example/tideline/laws.FnSessOn", spec := "fnSessOn", inPlace := ["internal/reflectlite.TypeOf"], unfollowed := true, recurses := true, named := ["loop.example/tideline/impl.errCannotBe"], ifaces := true, plainKeys := false, apart := false, laid := [("loop.example/tideline/impl.errCannotBe", laid_loop_example_tideline_impl_errCannotBe)], narrowed := true }
def FnSessOnUptoSaid : Prop := fnSessOnUptoRow.holds Tryz.pinned (OpenSpec.upto fnSessOnSpec)

/-- 'laws.FnSessOnNew', WHERE WHAT IT READS IS OF BULK AT MOST 1048576: true; the input reads as it did. -/
def fnSessOnNewUptoRow : OpenClaim := { program := "ytbdpcngcbnoioaagreatdoor", sum := "a967abef2376fc64c8366848b6cb6ee9a4416c6d7c81f69e15f069be47698c51", func := "loop.example/tideline/laws.FnSessOnNew", spec := "fnSessOnNew", inPlace := ["internal/reflectlite.TypeOf"], unfollowed := true, recurses := true, named := ["loop.example/tideline/impl.errCannotBe"], ifaces := true, plainKeys := false, apart := false, laid := [("loop.example/tideline/impl.errCannotBe", laid_loop_example_tideline_impl_errCannotBe)], narrowed := true }
def FnSessOnNewUptoSaid : Prop := fnSessOnNewUptoRow.holds Tryz.pinned (OpenSpec.upto fnSessOnNewSpec)

/-- 'laws.FnSessSteps', WHERE WHAT IT READS IS OF BULK AT MOST 1048576: true; the input reads as it did. -/
def fnSessStepsUptoRow : OpenClaim := { program := "ytbdpcngcbnoioaagreatdoor", sum := "a967abef2376fc64c8366848b6cb6ee9a4416c6d7c81f69e15f069be47698c51", func := "loop.example/tideline/laws.FnSessSteps", spec := "fnSessSteps", inPlace := ["internal/reflectlite.TypeOf"], unfollowed := true, recurses := true, named := ["loop.example/tideline/impl.errCannotBe"], ifaces := true, plainKeys := false, apart := false, laid := [("loop.example/tideline/impl.errCannotBe", laid_loop_example_tideline_impl_errCannotBe)], narrowed := true }
def FnSessStepsUptoSaid : Prop := fnSessStepsUptoRow.holds Tryz.pinned (OpenSpec.upto fnSessStepsSpec)

/-- 'laws.FnSessEnd', WHERE WHAT IT READS IS OF BULK AT MOST 1048576: true; the input reads as it did. -/
def fnSessEndUptoRow : OpenClaim := { program := "ytbdpcngcbnoioaagreatdoor", sum := "a967abef2376fc64c8366848b6cb6ee9a4416c6d7c81f69e15f069be47698c51", func := "loop.example/tideline/laws.FnSessEnd", spec := "fnSessEnd", inPlace := ["internal/reflectlite.TypeOf"], unfollowed := true, recurses := true, named := ["loop.example/tideline/impl.errCannotBe"], ifaces := true, plainKeys := false, apart := false, laid := [("loop.example/tideline/impl.errCannotBe", laid_loop_example_tideline_impl_errCannotBe)], narrowed := true }
def FnSessEndUptoSaid : Prop := fnSessEndUptoRow.holds Tryz.pinned (OpenSpec.upto fnSessEndSpec)

/-- 'laws.FnSessNew', WHERE WHAT IT READS IS OF BULK AT MOST 1048576: true; the input reads as it did. -/
def fnSessNewUptoRow : OpenClaim := { program := "ytbdpcngcbnoioaagreatdoor", sum := "a967abef2376fc64c8366848b6cb6ee9a4416c6d7c81f69e15f069be47698c51", func := "loop.example/tideline/laws.FnSessNew", spec := "fnSessNew", inPlace := ["internal/reflectlite.TypeOf"], unfollowed := true, recurses := true, named := ["loop.example/tideline/impl.errCannotBe"], ifaces := true, plainKeys := false, apart := false, laid := [("loop.example/tideline/impl.errCannotBe", laid_loop_example_tideline_impl_errCannotBe)], narrowed := true }
def FnSessNewUptoSaid : Prop := fnSessNewUptoRow.holds Tryz.pinned (OpenSpec.upto fnSessNewSpec)

/-- 'laws.FnSessNot', WHERE WHAT IT READS IS OF BULK AT MOST 1048576: true; the input reads as it did. -/
def fnSessNotUptoRow : OpenClaim := { program := "ytbdpcngcbnoioaagreatdoor", sum := "a967abef2376fc64c8366848b6cb6ee9a4416c6d7c81f69e15f069be47698c51", func := "loop.example/tideline/laws.FnSessNot", spec := "fnSessNot", inPlace := ["internal/reflectlite.TypeOf"], unfollowed := true, recurses := true, named := ["loop.example/tideline/impl.errCannotBe"], ifaces := true, plainKeys := false, apart := false, laid := [("loop.example/tideline/impl.errCannotBe", laid_loop_example_tideline_impl_errCannotBe)], narrowed := true }
def FnSessNotUptoSaid : Prop := fnSessNotUptoRow.holds Tryz.pinned (OpenSpec.upto fnSessNotSpec)

/-- 'laws.FnSessBack', WHERE WHAT IT READS IS OF BULK AT MOST 1048576: true; the input reads as it did. -/
def fnSessBackUptoRow : OpenClaim := { program := "ytbdpcngcbnoioaagreatdoor", sum := "a967abef2376fc64c8366848b6cb6ee9a4416c6d7c81f69e15f069be47698c51", func := "loop.example/tideline/laws.FnSessBack", spec := "fnSessBack", inPlace := ["internal/reflectlite.TypeOf"], unfollowed := true, recurses := true, named := ["loop.example/tideline/impl.errCannotBe"], ifaces := true, plainKeys := false, apart := false, laid := [("loop.example/tideline/impl.errCannotBe", laid_loop_example_tideline_impl_errCannotBe)], narrowed := true }
def FnSessBackUptoSaid : Prop := fnSessBackUptoRow.holds Tryz.pinned (OpenSpec.upto fnSessBackSpec)

/-- 'laws.FnExactSessOk', WHERE WHAT IT READS IS OF BULK AT MOST 1048576: true; the input reads as it did. -/
def fnExactSessOkUptoRow : OpenClaim := { program := "ytbdpcngcbnoioaagreatdoor", sum := "a967abef2376fc64c8366848b6cb6ee9a4416c6d7c81f69e15f069be47698c51", func := "loop.example/tideline/laws.FnExactSessOk", spec := "fnExactSessOk", inPlace := ["internal/reflectlite.TypeOf"], unfollowed := true, recurses := true, named := ["loop.example/tideline/impl.errCannotBe"], ifaces := true, loops := true, plainKeys := false, apart := false, laid := [("loop.example/tideline/impl.errCannotBe", laid_loop_example_tideline_impl_errCannotBe)], narrowed := true }
def FnExactSessOkUptoSaid : Prop := fnExactSessOkUptoRow.holds Tryz.pinned (OpenSpec.upto fnExactSessOkSpec)

/-- 'laws.FnExactSessOn', WHERE WHAT IT READS IS OF BULK AT MOST 1048576: true; the input reads as it did. -/
def fnExactSessOnUptoRow : OpenClaim := { program := "ytbdpcngcbnoioaagreatdoor", sum := "a967abef2376fc64c8366848b6cb6ee9a4416c6d7c81f69e15f069be47698c51", func := "loop.example/tideline/laws.FnExactSessOn", spec := "fnExactSessOn", inPlace := ["internal/reflectlite.TypeOf"], unfollowed := true, recurses := true, named := ["loop.example/tideline/impl.errCannotBe"], ifaces := true, loops := true, plainKeys := false, apart := false, laid := [("loop.example/tideline/impl.errCannotBe", laid_loop_example_tideline_impl_errCannotBe)], narrowed := true }
def FnExactSessOnUptoSaid : Prop := fnExactSessOnUptoRow.holds Tryz.pinned (OpenSpec.upto fnExactSessOnSpec)

/-- 'laws.FnExactSessAt', WHERE WHAT IT READS IS OF BULK AT MOST 1048576: true; the input reads as it did. -/
def fnExactSessAtUptoRow : OpenClaim := { program := "ytbdpcngcbnoioaagreatdoor", sum := "a967abef2376fc64c8366848b6cb6ee9a4416c6d7c81f69e15f069be47698c51", func := "loop.example/tideline/laws.FnExactSessAt", spec := "fnExactSessAt", inPlace := ["internal/reflectlite.TypeOf"], unfollowed := true, recurses := true, named := ["loop.example/tideline/impl.errCannotBe"], ifaces := true, loops := true, plainKeys := false, apart := false, laid := [("loop.example/tideline/impl.errCannotBe", laid_loop_example_tideline_impl_errCannotBe)], narrowed := true }
def FnExactSessAtUptoSaid : Prop := fnExactSessAtUptoRow.holds Tryz.pinned (OpenSpec.upto fnExactSessAtSpec)

end Rows
end Go.Proofs.YtbdpcngcbnoioaaGreatDoor
