/-
  No cell of these rows narrows 'for every input' (looked for: loops, veiled, ifaces, maps, wideKeys, modest, calm, conditions, laid).
  DERIVED. THE GIVEN ROWS OF THIS SEAT. 8 by the template 'for every input the law returns true; each argument reads behind the call as it read before'; 0 by the template 'total and deterministic' (their statements: YtpjmkejojenflaaGreatTotals.lean).
  GIVEN WITH THE SEED: the statements are not yours to turn. If you find one false, say at which input.
  Laid BY PROGRAM, IN A SANDBOX (cutbox-rows.mjs): the forced cells as the released guide's own fill.sh prints them over the translation d5d1d7e8bf152735… (all of the seat's roots in one cut). By AI agents, Wed Nov 11 2026. No macro, syntax, notation, axiom, sorry.
-/
import Derived.Test.YtpjmkejojenflaaGreatChecked
import GoSem.Claim
import GoSem.ClaimJoined
import GoSem.ClaimMapViews
import Derived.JoinedTies
import Derived.KernelRfl
namespace Go.Proofs.YtpjmkejojenflaaGreat
/- THE CELL 'sum', in the pinned program and in every row, IS THE sha256 OF THE DUMP (.gsa) THAT YtpjmkejojenflaaGreatProg.lean LOADS. Nothing in Lean hashes anything: it is a label: what it is worth is what the hold of that sum in a sandbox is worth. -/
noncomputable def Tryz.pinned : Pinned := { name := "ytpjmkejojenflaagreat", sum := "d5d1d7e8bf15273572d4d963f6d89653328d00752169fa98bfbefb2a9b3b733b", checked := Tryz.checked }
namespace Rows
def none {H : Type} : Left H := { results := [], args := [] }

/-- 'laws.FnFlowSum': WHATEVER THE INPUT: true; the input reads as it did. -/
def fnFlowSumSpec : ChangeSpec := { name := "fnFlowSum", fn := fun _ => fun
  | [d] => { results := [.lit (.bool true)], args := [d] }
  | _ => none }
def fnFlowSumRow : OpenClaim := { program := "ytpjmkejojenflaagreat", sum := "d5d1d7e8bf15273572d4d963f6d89653328d00752169fa98bfbefb2a9b3b733b", func := "loop.example/tideline/laws.FnFlowSum", spec := "fnFlowSum", unfollowed := true, recurses := true, plainKeys := false, apart := false }
def FnFlowSumSaid : Prop := fnFlowSumRow.holds Tryz.pinned (OpenSpec.ofChange fnFlowSumSpec)

/-- ITS FALSE NEIGHBOUR: 'it returns false'. Refute it at one input. -/
def fnFlowSumWrong : ChangeSpec := { name := "fnFlowSum", fn := fun _ => fun
  | [d] => { results := [.lit (.bool false)], args := [d] }
  | _ => none }
def FnFlowSumWrongFalsely : Prop := fnFlowSumRow.holds Tryz.pinned (OpenSpec.ofChange fnFlowSumWrong)

/-- 'laws.FnFlowSumTimes': WHATEVER THE INPUT: true; the input reads as it did. -/
def fnFlowSumTimesSpec : ChangeSpec := { name := "fnFlowSumTimes", fn := fun _ => fun
  | [d] => { results := [.lit (.bool true)], args := [d] }
  | _ => none }
def fnFlowSumTimesRow : OpenClaim := { program := "ytpjmkejojenflaagreat", sum := "d5d1d7e8bf15273572d4d963f6d89653328d00752169fa98bfbefb2a9b3b733b", func := "loop.example/tideline/laws.FnFlowSumTimes", spec := "fnFlowSumTimes", unfollowed := true, recurses := true, plainKeys := false, apart := false }
def FnFlowSumTimesSaid : Prop := fnFlowSumTimesRow.holds Tryz.pinned (OpenSpec.ofChange fnFlowSumTimesSpec)

/-- ITS FALSE NEIGHBOUR: 'it returns false'. Refute it at one input. -/
def fnFlowSumTimesWrong : ChangeSpec := { name := "fnFlowSumTimes", fn := fun _ => fun
  | [d] => { results := [.lit (.bool false)], args := [d] }
  | _ => none }
def FnFlowSumTimesWrongFalsely : Prop := fnFlowSumTimesRow.holds Tryz.pinned (OpenSpec.ofChange fnFlowSumTimesWrong)

/-- 'laws.FnFlowMove': WHATEVER THE INPUT: true; the input reads as it did. -/
def fnFlowMoveSpec : ChangeSpec := { name := "fnFlowMove", fn := fun _ => fun
  | [d1, d2] => { results := [.lit (.bool true)], args := [d1, d2] }
  | _ => none }
def fnFlowMoveRow : OpenClaim := { program := "ytpjmkejojenflaagreat", sum := "d5d1d7e8bf15273572d4d963f6d89653328d00752169fa98bfbefb2a9b3b733b", func := "loop.example/tideline/laws.FnFlowMove", spec := "fnFlowMove", unfollowed := true, recurses := true, plainKeys := false, apart := false }
def FnFlowMoveSaid : Prop := fnFlowMoveRow.holds Tryz.pinned (OpenSpec.ofChange fnFlowMoveSpec)

/-- ITS FALSE NEIGHBOUR: 'it returns false'. Refute it at one input. -/
def fnFlowMoveWrong : ChangeSpec := { name := "fnFlowMove", fn := fun _ => fun
  | [d1, d2] => { results := [.lit (.bool false)], args := [d1, d2] }
  | _ => none }
def FnFlowMoveWrongFalsely : Prop := fnFlowMoveRow.holds Tryz.pinned (OpenSpec.ofChange fnFlowMoveWrong)

/-- 'laws.FnFlowSumMove': WHATEVER THE INPUT: true; the input reads as it did. -/
def fnFlowSumMoveSpec : ChangeSpec := { name := "fnFlowSumMove", fn := fun _ => fun
  | [d1, d2] => { results := [.lit (.bool true)], args := [d1, d2] }
  | _ => none }
def fnFlowSumMoveRow : OpenClaim := { program := "ytpjmkejojenflaagreat", sum := "d5d1d7e8bf15273572d4d963f6d89653328d00752169fa98bfbefb2a9b3b733b", func := "loop.example/tideline/laws.FnFlowSumMove", spec := "fnFlowSumMove", unfollowed := true, recurses := true, plainKeys := false, apart := false }
def FnFlowSumMoveSaid : Prop := fnFlowSumMoveRow.holds Tryz.pinned (OpenSpec.ofChange fnFlowSumMoveSpec)

/-- ITS FALSE NEIGHBOUR: 'it returns false'. Refute it at one input. -/
def fnFlowSumMoveWrong : ChangeSpec := { name := "fnFlowSumMove", fn := fun _ => fun
  | [d1, d2] => { results := [.lit (.bool false)], args := [d1, d2] }
  | _ => none }
def FnFlowSumMoveWrongFalsely : Prop := fnFlowSumMoveRow.holds Tryz.pinned (OpenSpec.ofChange fnFlowSumMoveWrong)

/-- 'laws.FnFlowOnce': WHATEVER THE INPUT: true; the input reads as it did. -/
def fnFlowOnceSpec : ChangeSpec := { name := "fnFlowOnce", fn := fun _ => fun
  | [d] => { results := [.lit (.bool true)], args := [d] }
  | _ => none }
def fnFlowOnceRow : OpenClaim := { program := "ytpjmkejojenflaagreat", sum := "d5d1d7e8bf15273572d4d963f6d89653328d00752169fa98bfbefb2a9b3b733b", func := "loop.example/tideline/laws.FnFlowOnce", spec := "fnFlowOnce", unfollowed := true, recurses := true, plainKeys := false, apart := false }
def FnFlowOnceSaid : Prop := fnFlowOnceRow.holds Tryz.pinned (OpenSpec.ofChange fnFlowOnceSpec)

/-- ITS FALSE NEIGHBOUR: 'it returns false'. Refute it at one input. -/
def fnFlowOnceWrong : ChangeSpec := { name := "fnFlowOnce", fn := fun _ => fun
  | [d] => { results := [.lit (.bool false)], args := [d] }
  | _ => none }
def FnFlowOnceWrongFalsely : Prop := fnFlowOnceRow.holds Tryz.pinned (OpenSpec.ofChange fnFlowOnceWrong)

/-- 'laws.FnFlowNone': WHATEVER THE INPUT: true; the input reads as it did. -/
def fnFlowNoneSpec : ChangeSpec := { name := "fnFlowNone", fn := fun _ => fun
  | [d] => { results := [.lit (.bool true)], args := [d] }
  | _ => none }
def fnFlowNoneRow : OpenClaim := { program := "ytpjmkejojenflaagreat", sum := "d5d1d7e8bf15273572d4d963f6d89653328d00752169fa98bfbefb2a9b3b733b", func := "loop.example/tideline/laws.FnFlowNone", spec := "fnFlowNone", unfollowed := true, recurses := true, plainKeys := false, apart := false }
def FnFlowNoneSaid : Prop := fnFlowNoneRow.holds Tryz.pinned (OpenSpec.ofChange fnFlowNoneSpec)

/-- ITS FALSE NEIGHBOUR: 'it returns false'. Refute it at one input. -/
def fnFlowNoneWrong : ChangeSpec := { name := "fnFlowNone", fn := fun _ => fun
  | [d] => { results := [.lit (.bool false)], args := [d] }
  | _ => none }
def FnFlowNoneWrongFalsely : Prop := fnFlowNoneRow.holds Tryz.pinned (OpenSpec.ofChange fnFlowNoneWrong)

/-- 'laws.FnFlowBatch': WHATEVER THE INPUT: true; the input reads as it did. -/
def fnFlowBatchSpec : ChangeSpec := { name := "fnFlowBatch", fn := fun _ => fun
  | [d1, d2] => { results := [.lit (.bool true)], args := [d1, d2] }
  | _ => none }
def fnFlowBatchRow : OpenClaim := { program := "ytpjmkejojenflaagreat", sum := "d5d1d7e8bf15273572d4d963f6d89653328d00752169fa98bfbefb2a9b3b733b", func := "loop.example/tideline/laws.FnFlowBatch", spec := "fnFlowBatch", unfollowed := true, recurses := true, plainKeys := false, apart := false }
def FnFlowBatchSaid : Prop := fnFlowBatchRow.holds Tryz.pinned (OpenSpec.ofChange fnFlowBatchSpec)

/-- ITS FALSE NEIGHBOUR: 'it returns false'. Refute it at one input. -/
def fnFlowBatchWrong : ChangeSpec := { name := "fnFlowBatch", fn := fun _ => fun
  | [d1, d2] => { results := [.lit (.bool false)], args := [d1, d2] }
  | _ => none }
def FnFlowBatchWrongFalsely : Prop := fnFlowBatchRow.holds Tryz.pinned (OpenSpec.ofChange fnFlowBatchWrong)

/-- 'laws.FnExactFlowSum': WHATEVER THE INPUT: true; the input reads as it did. -/
def fnExactFlowSumSpec : ChangeSpec := { name := "fnExactFlowSum", fn := fun _ => fun
  | [d1, d2] => { results := [.lit (.bool true)], args := [d1, d2] }
  | _ => none }
def fnExactFlowSumRow : OpenClaim := { program := "ytpjmkejojenflaagreat", sum := "d5d1d7e8bf15273572d4d963f6d89653328d00752169fa98bfbefb2a9b3b733b", func := "loop.example/tideline/laws.FnExactFlowSum", spec := "fnExactFlowSum", unfollowed := true, recurses := true, plainKeys := false, apart := false }
def FnExactFlowSumSaid : Prop := fnExactFlowSumRow.holds Tryz.pinned (OpenSpec.ofChange fnExactFlowSumSpec)

/-- ITS FALSE NEIGHBOUR: 'it returns false'. Refute it at one input. -/
def fnExactFlowSumWrong : ChangeSpec := { name := "fnExactFlowSum", fn := fun _ => fun
  | [d1, d2] => { results := [.lit (.bool false)], args := [d1, d2] }
  | _ => none }
def FnExactFlowSumWrongFalsely : Prop := fnExactFlowSumRow.holds Tryz.pinned (OpenSpec.ofChange fnExactFlowSumWrong)

/- THE SECOND FORM. 'bulk': how many values and letters a reading holds, each counted each time it is reached (what is shared counts as often as it is met; a slice's spare places count too). A statement '..UptoSaid' is the law's where the arguments, and the package variables that the reading takes, are together of bulk at most 1048576: NARROWER than '..Said'. Prove '..Said' where nothing that the law and all that it calls make is longer than what came in: it says more and counts as full. Else prove '..UptoSaid'. A law counts once. -/
mutual
def uptoBulk {H : Type} : DataW H → Nat
  | .lit (.string bytes) => bytes.length + 1
  | .lit _ => 1
  | .nil => 1
  | .ptr d => uptoBulk d + 1
  | .slice elems spare => uptoBulkAll elems + uptoBulkAll spare + 1
  | .agg parts => uptoBulkAll parts + 1
  | .iface _ d => uptoBulk d + 1
  | .map entries => uptoBulkEntries entries + 1
  | .held _ => 1
def uptoBulkAll {H : Type} : List (DataW H) → Nat
  | [] => 0
  | d :: r => uptoBulk d + uptoBulkAll r
def uptoBulkEntries {H : Type} : List (Lit × DataW H) → Nat
  | [] => 0
  | x :: r => uptoBulkEntry x + uptoBulkEntries r
def uptoBulkEntry {H : Type} : Lit × DataW H → Nat
  | (.string bytes, d) => bytes.length + uptoBulk d + 1
  | (_, d) => uptoBulk d + 1
 end
def uptoSmall : (H : Type) → List (DataW H) → Bool := fun _ ds => decide (uptoBulkAll ds ≤ 1048576)
def OpenSpec.upto (s : _root_.Go.ChangeSpec) : _root_.Go.OpenSpec := { _root_.Go.OpenSpec.ofChange s with cond := some uptoSmall }

/-- 'laws.FnFlowSum', WHERE WHAT IT READS IS OF BULK AT MOST 1048576: true; the input reads as it did. -/
def fnFlowSumUptoRow : OpenClaim := { program := "ytpjmkejojenflaagreat", sum := "d5d1d7e8bf15273572d4d963f6d89653328d00752169fa98bfbefb2a9b3b733b", func := "loop.example/tideline/laws.FnFlowSum", spec := "fnFlowSum", unfollowed := true, recurses := true, plainKeys := false, apart := false, narrowed := true }
def FnFlowSumUptoSaid : Prop := fnFlowSumUptoRow.holds Tryz.pinned (OpenSpec.upto fnFlowSumSpec)

/-- 'laws.FnFlowSumTimes', WHERE WHAT IT READS IS OF BULK AT MOST 1048576: true; the input reads as it did. -/
def fnFlowSumTimesUptoRow : OpenClaim := { program := "ytpjmkejojenflaagreat", sum := "d5d1d7e8bf15273572d4d963f6d89653328d00752169fa98bfbefb2a9b3b733b", func := "loop.example/tideline/laws.FnFlowSumTimes", spec := "fnFlowSumTimes", unfollowed := true, recurses := true, plainKeys := false, apart := false, narrowed := true }
def FnFlowSumTimesUptoSaid : Prop := fnFlowSumTimesUptoRow.holds Tryz.pinned (OpenSpec.upto fnFlowSumTimesSpec)

/-- 'laws.FnFlowMove', WHERE WHAT IT READS IS OF BULK AT MOST 1048576: true; the input reads as it did. -/
def fnFlowMoveUptoRow : OpenClaim := { program := "ytpjmkejojenflaagreat", sum := "d5d1d7e8bf15273572d4d963f6d89653328d00752169fa98bfbefb2a9b3b733b", func := "loop.example/tideline/laws.FnFlowMove", spec := "fnFlowMove", unfollowed := true, recurses := true, plainKeys := false, apart := false, narrowed := true }
def FnFlowMoveUptoSaid : Prop := fnFlowMoveUptoRow.holds Tryz.pinned (OpenSpec.upto fnFlowMoveSpec)

/-- 'laws.FnFlowSumMove', WHERE WHAT IT READS IS OF BULK AT MOST 1048576: true; the input reads as it did. -/
def fnFlowSumMoveUptoRow : OpenClaim := { program := "ytpjmkejojenflaagreat", sum := "d5d1d7e8bf15273572d4d963f6d89653328d00752169fa98bfbefb2a9b3b733b", func := "loop.example/tideline/laws.FnFlowSumMove", spec := "fnFlowSumMove", unfollowed := true, recurses := true, plainKeys := false, apart := false, narrowed := true }
def FnFlowSumMoveUptoSaid : Prop := fnFlowSumMoveUptoRow.holds Tryz.pinned (OpenSpec.upto fnFlowSumMoveSpec)

/-- 'laws.FnFlowOnce', WHERE WHAT IT READS IS OF BULK AT MOST 1048576: true; the input reads as it did. -/
def fnFlowOnceUptoRow : OpenClaim := { program := "ytpjmkejojenflaagreat", sum := "d5d1d7e8bf15273572d4d963f6d89653328d00752169fa98bfbefb2a9b3b733b", func := "loop.example/tideline/laws.FnFlowOnce", spec := "fnFlowOnce", unfollowed := true, recurses := true, plainKeys := false, apart := false, narrowed := true }
def FnFlowOnceUptoSaid : Prop := fnFlowOnceUptoRow.holds Tryz.pinned (OpenSpec.upto fnFlowOnceSpec)

/-- 'laws.FnFlowNone', WHERE WHAT IT READS IS OF BULK AT MOST 1048576: true; the input reads as it did. -/
def fnFlowNoneUptoRow : OpenClaim := { program := "ytpjmkejojenflaagreat", sum := "d5d1d7e8bf15273572d4d963f6d89653328d00752169fa98bfbefb2a9b3b733b", func := "loop.example/tideline/laws.FnFlowNone", spec := "fnFlowNone", unfollowed := true, recurses := true, plainKeys := false, apart := false, narrowed := true }
def FnFlowNoneUptoSaid : Prop := fnFlowNoneUptoRow.holds Tryz.pinned (OpenSpec.upto fnFlowNoneSpec)

/-- 'laws.FnFlowBatch', WHERE WHAT IT READS IS OF BULK AT MOST 1048576: true; the input reads as it did. -/
def fnFlowBatchUptoRow : OpenClaim := { program := "ytpjmkejojenflaagreat", sum := "d5d1d7e8bf15273572d4d963f6d89653328d00752169fa98bfbefb2a9b3b733b", func := "loop.example/tideline/laws.FnFlowBatch", spec := "fnFlowBatch", unfollowed := true, recurses := true, plainKeys := false, apart := false, narrowed := true }
def FnFlowBatchUptoSaid : Prop := fnFlowBatchUptoRow.holds Tryz.pinned (OpenSpec.upto fnFlowBatchSpec)

/-- 'laws.FnExactFlowSum', WHERE WHAT IT READS IS OF BULK AT MOST 1048576: true; the input reads as it did. -/
def fnExactFlowSumUptoRow : OpenClaim := { program := "ytpjmkejojenflaagreat", sum := "d5d1d7e8bf15273572d4d963f6d89653328d00752169fa98bfbefb2a9b3b733b", func := "loop.example/tideline/laws.FnExactFlowSum", spec := "fnExactFlowSum", unfollowed := true, recurses := true, plainKeys := false, apart := false, narrowed := true }
def FnExactFlowSumUptoSaid : Prop := fnExactFlowSumUptoRow.holds Tryz.pinned (OpenSpec.upto fnExactFlowSumSpec)

end Rows
end Go.Proofs.YtpjmkejojenflaaGreat
