/-
  No cell of these rows narrows 'for every input' (looked for: loops, veiled, ifaces, maps, wideKeys, modest, calm, conditions, laid).
  DERIVED. THE GIVEN ROWS OF THIS SEAT. 6 by the template 'for every input the law returns true; each argument reads behind the call as it read before'; 0 by the template 'total and deterministic' (their statements: YtebgjpghccnfcabTotals.lean).
  GIVEN WITH THE SEED: the statements are not yours to turn. If you find one false, say at which input.
  Laid BY PROGRAM, IN A SANDBOX (cutbox-rows.mjs): the forced cells as the released guide's own fill.sh prints them over the translation 2a678aa570dcd9b3… (all of the seat's roots in one cut). By AI agents, Wed Nov 11 2026. No macro, syntax, notation, axiom, sorry.
-/
import Derived.Test.YtebgjpghccnfcabChecked
import GoSem.Claim
import GoSem.ClaimJoined
import GoSem.ClaimMapViews
import Derived.JoinedTies
import Derived.KernelRfl
namespace Go.Proofs.Ytebgjpghccnfcab
/- THE CELL 'sum', in the pinned program and in every row, IS THE sha256 OF THE DUMP (.gsa) THAT YtebgjpghccnfcabProg.lean LOADS. Nothing in Lean hashes anything: it is a label: what it is worth is what the hold of that sum in a sandbox is worth. -/
noncomputable def Try.pinned : Pinned := { name := "ytebgjpghccnfcab", sum := "2a678aa570dcd9b3dcca1e72116cb5a30474100208531359fff523a9187f13b4", checked := Try.checked }
namespace Rows
def none {H : Type} : Left H := { results := [], args := [] }

/-- 'laws.FnBatchMoveBoth': WHATEVER THE INPUT: true; the input reads as it did. -/
def fnBatchMoveBothSpec : ChangeSpec := { name := "fnBatchMoveBoth", fn := fun _ => fun
  | [d1, d2] => { results := [.lit (.bool true)], args := [d1, d2] }
  | _ => none }
def fnBatchMoveBothRow : OpenClaim := { program := "ytebgjpghccnfcab", sum := "2a678aa570dcd9b3dcca1e72116cb5a30474100208531359fff523a9187f13b4", func := "loop.example/tideline/laws.FnBatchMoveBoth", spec := "fnBatchMoveBoth", unfollowed := true, recurses := true, plainKeys := false, apart := false }
def FnBatchMoveBothSaid : Prop := fnBatchMoveBothRow.holds Try.pinned (OpenSpec.ofChange fnBatchMoveBothSpec)

/-- ITS FALSE NEIGHBOUR: 'it returns false'. Refute it at one input. -/
def fnBatchMoveBothWrong : ChangeSpec := { name := "fnBatchMoveBoth", fn := fun _ => fun
  | [d1, d2] => { results := [.lit (.bool false)], args := [d1, d2] }
  | _ => none }
def FnBatchMoveBothWrongFalsely : Prop := fnBatchMoveBothRow.holds Try.pinned (OpenSpec.ofChange fnBatchMoveBothWrong)

/-- 'laws.FnBatchBoth': WHATEVER THE INPUT: true; the input reads as it did. -/
def fnBatchBothSpec : ChangeSpec := { name := "fnBatchBoth", fn := fun _ => fun
  | [d] => { results := [.lit (.bool true)], args := [d] }
  | _ => none }
def fnBatchBothRow : OpenClaim := { program := "ytebgjpghccnfcab", sum := "2a678aa570dcd9b3dcca1e72116cb5a30474100208531359fff523a9187f13b4", func := "loop.example/tideline/laws.FnBatchBoth", spec := "fnBatchBoth", unfollowed := true, recurses := true, plainKeys := false, apart := false }
def FnBatchBothSaid : Prop := fnBatchBothRow.holds Try.pinned (OpenSpec.ofChange fnBatchBothSpec)

/-- ITS FALSE NEIGHBOUR: 'it returns false'. Refute it at one input. -/
def fnBatchBothWrong : ChangeSpec := { name := "fnBatchBoth", fn := fun _ => fun
  | [d] => { results := [.lit (.bool false)], args := [d] }
  | _ => none }
def FnBatchBothWrongFalsely : Prop := fnBatchBothRow.holds Try.pinned (OpenSpec.ofChange fnBatchBothWrong)

/-- 'laws.FnBatchLess': WHATEVER THE INPUT: true; the input reads as it did. -/
def fnBatchLessSpec : ChangeSpec := { name := "fnBatchLess", fn := fun _ => fun
  | [d] => { results := [.lit (.bool true)], args := [d] }
  | _ => none }
def fnBatchLessRow : OpenClaim := { program := "ytebgjpghccnfcab", sum := "2a678aa570dcd9b3dcca1e72116cb5a30474100208531359fff523a9187f13b4", func := "loop.example/tideline/laws.FnBatchLess", spec := "fnBatchLess", unfollowed := true, recurses := true, plainKeys := false, apart := false }
def FnBatchLessSaid : Prop := fnBatchLessRow.holds Try.pinned (OpenSpec.ofChange fnBatchLessSpec)

/-- ITS FALSE NEIGHBOUR: 'it returns false'. Refute it at one input. -/
def fnBatchLessWrong : ChangeSpec := { name := "fnBatchLess", fn := fun _ => fun
  | [d] => { results := [.lit (.bool false)], args := [d] }
  | _ => none }
def FnBatchLessWrongFalsely : Prop := fnBatchLessRow.holds Try.pinned (OpenSpec.ofChange fnBatchLessWrong)

/-- 'laws.FnExactBatchOf': WHATEVER THE INPUT: true; the input reads as it did. -/
def fnExactBatchOfSpec : ChangeSpec := { name := "fnExactBatchOf", fn := fun _ => fun
  | [d] => { results := [.lit (.bool true)], args := [d] }
  | _ => none }
def fnExactBatchOfRow : OpenClaim := { program := "ytebgjpghccnfcab", sum := "2a678aa570dcd9b3dcca1e72116cb5a30474100208531359fff523a9187f13b4", func := "loop.example/tideline/laws.FnExactBatchOf", spec := "fnExactBatchOf", unfollowed := true, recurses := true, plainKeys := false, apart := false }
def FnExactBatchOfSaid : Prop := fnExactBatchOfRow.holds Try.pinned (OpenSpec.ofChange fnExactBatchOfSpec)

/-- ITS FALSE NEIGHBOUR: 'it returns false'. Refute it at one input. -/
def fnExactBatchOfWrong : ChangeSpec := { name := "fnExactBatchOf", fn := fun _ => fun
  | [d] => { results := [.lit (.bool false)], args := [d] }
  | _ => none }
def FnExactBatchOfWrongFalsely : Prop := fnExactBatchOfRow.holds Try.pinned (OpenSpec.ofChange fnExactBatchOfWrong)

/-- 'laws.FnExactBatchBoth': WHATEVER THE INPUT: true; the input reads as it did. -/
def fnExactBatchBothSpec : ChangeSpec := { name := "fnExactBatchBoth", fn := fun _ => fun
  | [d1, d2] => { results := [.lit (.bool true)], args := [d1, d2] }
  | _ => none }
def fnExactBatchBothRow : OpenClaim := { program := "ytebgjpghccnfcab", sum := "2a678aa570dcd9b3dcca1e72116cb5a30474100208531359fff523a9187f13b4", func := "loop.example/tideline/laws.FnExactBatchBoth", spec := "fnExactBatchBoth", unfollowed := true, recurses := true, plainKeys := false, apart := false }
def FnExactBatchBothSaid : Prop := fnExactBatchBothRow.holds Try.pinned (OpenSpec.ofChange fnExactBatchBothSpec)

/-- ITS FALSE NEIGHBOUR: 'it returns false'. Refute it at one input. -/
def fnExactBatchBothWrong : ChangeSpec := { name := "fnExactBatchBoth", fn := fun _ => fun
  | [d1, d2] => { results := [.lit (.bool false)], args := [d1, d2] }
  | _ => none }
def FnExactBatchBothWrongFalsely : Prop := fnExactBatchBothRow.holds Try.pinned (OpenSpec.ofChange fnExactBatchBothWrong)

/-- 'laws.FnExactBatchLess': WHATEVER THE INPUT: true; the input reads as it did. -/
def fnExactBatchLessSpec : ChangeSpec := { name := "fnExactBatchLess", fn := fun _ => fun
  | [d] => { results := [.lit (.bool true)], args := [d] }
  | _ => none }
def fnExactBatchLessRow : OpenClaim := { program := "ytebgjpghccnfcab", sum := "2a678aa570dcd9b3dcca1e72116cb5a30474100208531359fff523a9187f13b4", func := "loop.example/tideline/laws.FnExactBatchLess", spec := "fnExactBatchLess", unfollowed := true, recurses := true, plainKeys := false, apart := false }
def FnExactBatchLessSaid : Prop := fnExactBatchLessRow.holds Try.pinned (OpenSpec.ofChange fnExactBatchLessSpec)

/-- ITS FALSE NEIGHBOUR: 'it returns false'. Refute it at one input. -/
def fnExactBatchLessWrong : ChangeSpec := { name := "fnExactBatchLess", fn := fun _ => fun
  | [d] => { results := [.lit (.bool false)], args := [d] }
  | _ => none }
def FnExactBatchLessWrongFalsely : Prop := fnExactBatchLessRow.holds Try.pinned (OpenSpec.ofChange fnExactBatchLessWrong)

/- THE SECOND FORM. 'bulk': how many values and letters a reading holds, each counted each time it is reached (what is shared counts as often as it is met; a slice's spare places count too). A statement '..UptoSaid' is the law's where the arguments, and the package variables that the reading takes, are together of bulk at most 1048576: NARROWER than '..Said'. Prove '..Said' where nothing that the law and all that it calls make is longer than what came in: it says more and counts as full. Else prove '..UptoSaid'. A law counts once. -/
mutual
def uptoBulk {H : Type} : DataW H → Nat
  | .lit (.string bytes) => bytes.length + 1
  | .lit _ => 1
  | .nil => 1
  | .ptr d => uptoBulk d + 1
  | .slice elems spare => uptoBulkAll elems + uptoBulkAll spare + 1
  | .agg parts => uptoBulkAll parts + 1
  | .iface _ d => uptoBulk d + 1
  | .map entries => uptoBulkEntries entries + 1
  | .held _ => 1
def uptoBulkAll {H : Type} : List (DataW H) → Nat
  | [] => 0
  | d :: r => uptoBulk d + uptoBulkAll r
def uptoBulkEntries {H : Type} : List (Lit × DataW H) → Nat
  | [] => 0
  | x :: r => uptoBulkEntry x + uptoBulkEntries r
def uptoBulkEntry {H : Type} : Lit × DataW H → Nat
  | (.string bytes, d) => bytes.length + uptoBulk d + 1
  | (_, d) => uptoBulk d + 1
 end
def uptoSmall : (H : Type) → List (DataW H) → Bool := fun _ ds => decide (uptoBulkAll ds ≤ 1048576)
def OpenSpec.upto (s : _root_.Go.ChangeSpec) : _root_.Go.OpenSpec := { _root_.Go.OpenSpec.ofChange s with cond := some uptoSmall }

/-- 'laws.FnBatchMoveBoth', WHERE WHAT IT READS IS OF BULK AT MOST 1048576: true; the input reads as it did. -/
def fnBatchMoveBothUptoRow : OpenClaim := { program := "ytebgjpghccnfcab", sum := "2a678aa570dcd9b3dcca1e72116cb5a30474100208531359fff523a9187f13b4", func := "loop.example/tideline/laws.FnBatchMoveBoth", spec := "fnBatchMoveBoth", unfollowed := true, recurses := true, plainKeys := false, apart := false, narrowed := true }
def FnBatchMoveBothUptoSaid : Prop := fnBatchMoveBothUptoRow.holds Try.pinned (OpenSpec.upto fnBatchMoveBothSpec)

/-- 'laws.FnBatchBoth', WHERE WHAT IT READS IS OF BULK AT MOST 1048576: true; the input reads as it did. -/
def fnBatchBothUptoRow : OpenClaim := { program := "ytebgjpghccnfcab", sum := "2a678aa570dcd9b3dcca1e72116cb5a30474100208531359fff523a9187f13b4", func := "loop.example/tideline/laws.FnBatchBoth", spec := "fnBatchBoth", unfollowed := true, recurses := true, plainKeys := false, apart := false, narrowed := true }
def FnBatchBothUptoSaid : Prop := fnBatchBothUptoRow.holds Try.pinned (OpenSpec.upto fnBatchBothSpec)

/-- 'laws.FnBatchLess', WHERE WHAT IT READS IS OF BULK AT MOST 1048576: true; the input reads as it did. -/
def fnBatchLessUptoRow : OpenClaim := { program := "ytebgjpghccnfcab", sum := "2a678aa570dcd9b3dcca1e72116cb5a30474100208531359fff523a9187f13b4", func := "loop.example/tideline/laws.FnBatchLess", spec := "fnBatchLess", unfollowed := true, recurses := true, plainKeys := false, apart := false, narrowed := true }
def FnBatchLessUptoSaid : Prop := fnBatchLessUptoRow.holds Try.pinned (OpenSpec.upto fnBatchLessSpec)

/-- 'laws.FnExactBatchOf', WHERE WHAT IT READS IS OF BULK AT MOST 1048576: true; the input reads as it did. -/
def fnExactBatchOfUptoRow : OpenClaim := { program := "ytebgjpghccnfcab", sum := "2a678aa570dcd9b3dcca1e72116cb5a30474100208531359fff523a9187f13b4", func := "loop.example/tideline/laws.FnExactBatchOf", spec := "fnExactBatchOf", unfollowed := true, recurses := true, plainKeys := false, apart := false, narrowed := true }
def FnExactBatchOfUptoSaid : Prop := fnExactBatchOfUptoRow.holds Try.pinned (OpenSpec.upto fnExactBatchOfSpec)

/-- 'laws.FnExactBatchBoth', WHERE WHAT IT READS IS OF BULK AT MOST 1048576: true; the input reads as it did. -/
def fnExactBatchBothUptoRow : OpenClaim := { program := "ytebgjpghccnfcab", sum := "2a678aa570dcd9b3dcca1e72116cb5a30474100208531359fff523a9187f13b4", func := "loop.example/tideline/laws.FnExactBatchBoth", spec := "fnExactBatchBoth", unfollowed := true, recurses := true, plainKeys := false, apart := false, narrowed := true }
def FnExactBatchBothUptoSaid : Prop := fnExactBatchBothUptoRow.holds Try.pinned (OpenSpec.upto fnExactBatchBothSpec)

/-- 'laws.FnExactBatchLess', WHERE WHAT IT READS IS OF BULK AT MOST 1048576: true; the input reads as it did. -/
def fnExactBatchLessUptoRow : OpenClaim := { program := "ytebgjpghccnfcab", sum := "2a678aa570dcd9b3dcca1e72116cb5a30474100208531359fff523a9187f13b4", func := "loop.example/tideline/laws.FnExactBatchLess", spec := "fnExactBatchLess", unfollowed := true, recurses := true, plainKeys := false, apart := false, narrowed := true }
def FnExactBatchLessUptoSaid : Prop := fnExactBatchLessUptoRow.holds Try.pinned (OpenSpec.upto fnExactBatchLessSpec)

end Rows
end Go.Proofs.Ytebgjpghccnfcab
