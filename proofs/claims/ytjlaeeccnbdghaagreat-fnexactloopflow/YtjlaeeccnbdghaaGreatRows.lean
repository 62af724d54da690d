/-
  No cell of these rows narrows 'for every input' (looked for: loops, veiled, ifaces, maps, wideKeys, modest, calm, conditions, laid).
  DERIVED. THE GIVEN ROWS OF THIS SEAT. 6 by the template 'for every input the law returns true; each argument reads behind the call as it read before'; 0 by the template 'total and deterministic' (their statements: YtjlaeeccnbdghaaGreatTotals.lean).
  GIVEN WITH THE SEED: the statements are not yours to turn. If you find one false, say at which input.
  Laid BY PROGRAM, IN A SANDBOX (cutbox-rows.mjs): the forced cells as the released guide's own fill.sh prints them over the translation 3d95806dc7b48bb2… (all of the seat's roots in one cut). By AI agents, Wed Nov 11 2026. No macro, syntax, notation, axiom, sorry.
-/
import Derived.Test.YtjlaeeccnbdghaaGreatChecked
import GoSem.Claim
import GoSem.ClaimJoined
import GoSem.ClaimMapViews
import Derived.JoinedTies
import Derived.KernelRfl
namespace Go.Proofs.YtjlaeeccnbdghaaGreat
/- THE CELL 'sum', in the pinned program and in every row, IS THE sha256 OF THE DUMP (.gsa) THAT YtjlaeeccnbdghaaGreatProg.lean LOADS. Nothing in Lean hashes anything: it is a label: what it is worth is what the hold of that sum in a sandbox is worth. -/
noncomputable def Tryz.pinned : Pinned := { name := "ytjlaeeccnbdghaagreat", sum := "3d95806dc7b48bb2be9c0a803ef803e4dc1b8400479b27c2a46bb30d2146a244", checked := Tryz.checked }
namespace Rows
def none {H : Type} : Left H := { results := [], args := [] }

/-- 'laws.FnLoopFlow': WHATEVER THE INPUT: true; the input reads as it did. -/
def fnLoopFlowSpec : ChangeSpec := { name := "fnLoopFlow", fn := fun _ => fun
  | [d] => { results := [.lit (.bool true)], args := [d] }
  | _ => none }
def fnLoopFlowRow : OpenClaim := { program := "ytjlaeeccnbdghaagreat", sum := "3d95806dc7b48bb2be9c0a803ef803e4dc1b8400479b27c2a46bb30d2146a244", func := "loop.example/tideline/laws.FnLoopFlow", spec := "fnLoopFlow", inPlace := ["math/bits.Add64"], unfollowed := true, recurses := true, plainKeys := false, apart := false }
def FnLoopFlowSaid : Prop := fnLoopFlowRow.holds Tryz.pinned (OpenSpec.ofChange fnLoopFlowSpec)

/-- ITS FALSE NEIGHBOUR: 'it returns false'. Refute it at one input. -/
def fnLoopFlowWrong : ChangeSpec := { name := "fnLoopFlow", fn := fun _ => fun
  | [d] => { results := [.lit (.bool false)], args := [d] }
  | _ => none }
def FnLoopFlowWrongFalsely : Prop := fnLoopFlowRow.holds Tryz.pinned (OpenSpec.ofChange fnLoopFlowWrong)

/-- 'laws.FnLoopMore': WHATEVER THE INPUT: true; the input reads as it did. -/
def fnLoopMoreSpec : ChangeSpec := { name := "fnLoopMore", fn := fun _ => fun
  | [d] => { results := [.lit (.bool true)], args := [d] }
  | _ => none }
def fnLoopMoreRow : OpenClaim := { program := "ytjlaeeccnbdghaagreat", sum := "3d95806dc7b48bb2be9c0a803ef803e4dc1b8400479b27c2a46bb30d2146a244", func := "loop.example/tideline/laws.FnLoopMore", spec := "fnLoopMore", inPlace := ["math/bits.Add64"], unfollowed := true, recurses := true, plainKeys := false, apart := false }
def FnLoopMoreSaid : Prop := fnLoopMoreRow.holds Tryz.pinned (OpenSpec.ofChange fnLoopMoreSpec)

/-- ITS FALSE NEIGHBOUR: 'it returns false'. Refute it at one input. -/
def fnLoopMoreWrong : ChangeSpec := { name := "fnLoopMore", fn := fun _ => fun
  | [d] => { results := [.lit (.bool false)], args := [d] }
  | _ => none }
def FnLoopMoreWrongFalsely : Prop := fnLoopMoreRow.holds Tryz.pinned (OpenSpec.ofChange fnLoopMoreWrong)

/-- 'laws.FnLoopNone': WHATEVER THE INPUT: true; the input reads as it did. -/
def fnLoopNoneSpec : ChangeSpec := { name := "fnLoopNone", fn := fun _ => fun
  | [d] => { results := [.lit (.bool true)], args := [d] }
  | _ => none }
def fnLoopNoneRow : OpenClaim := { program := "ytjlaeeccnbdghaagreat", sum := "3d95806dc7b48bb2be9c0a803ef803e4dc1b8400479b27c2a46bb30d2146a244", func := "loop.example/tideline/laws.FnLoopNone", spec := "fnLoopNone", inPlace := ["math/bits.Add64"], unfollowed := true, recurses := true, plainKeys := false, apart := false }
def FnLoopNoneSaid : Prop := fnLoopNoneRow.holds Tryz.pinned (OpenSpec.ofChange fnLoopNoneSpec)

/-- ITS FALSE NEIGHBOUR: 'it returns false'. Refute it at one input. -/
def fnLoopNoneWrong : ChangeSpec := { name := "fnLoopNone", fn := fun _ => fun
  | [d] => { results := [.lit (.bool false)], args := [d] }
  | _ => none }
def FnLoopNoneWrongFalsely : Prop := fnLoopNoneRow.holds Tryz.pinned (OpenSpec.ofChange fnLoopNoneWrong)

/-- 'laws.FnLoopRounds': WHATEVER THE INPUT: true; the input reads as it did. -/
def fnLoopRoundsSpec : ChangeSpec := { name := "fnLoopRounds", fn := fun _ => fun
  | [d] => { results := [.lit (.bool true)], args := [d] }
  | _ => none }
def fnLoopRoundsRow : OpenClaim := { program := "ytjlaeeccnbdghaagreat", sum := "3d95806dc7b48bb2be9c0a803ef803e4dc1b8400479b27c2a46bb30d2146a244", func := "loop.example/tideline/laws.FnLoopRounds", spec := "fnLoopRounds", inPlace := ["math/bits.Add64"], unfollowed := true, recurses := true, plainKeys := false, apart := false }
def FnLoopRoundsSaid : Prop := fnLoopRoundsRow.holds Tryz.pinned (OpenSpec.ofChange fnLoopRoundsSpec)

/-- ITS FALSE NEIGHBOUR: 'it returns false'. Refute it at one input. -/
def fnLoopRoundsWrong : ChangeSpec := { name := "fnLoopRounds", fn := fun _ => fun
  | [d] => { results := [.lit (.bool false)], args := [d] }
  | _ => none }
def FnLoopRoundsWrongFalsely : Prop := fnLoopRoundsRow.holds Tryz.pinned (OpenSpec.ofChange fnLoopRoundsWrong)

/-- 'laws.FnLoopBatch': WHATEVER THE INPUT: true; the input reads as it did. -/
def fnLoopBatchSpec : ChangeSpec := { name := "fnLoopBatch", fn := fun _ => fun
  | [d] => { results := [.lit (.bool true)], args := [d] }
  | _ => none }
def fnLoopBatchRow : OpenClaim := { program := "ytjlaeeccnbdghaagreat", sum := "3d95806dc7b48bb2be9c0a803ef803e4dc1b8400479b27c2a46bb30d2146a244", func := "loop.example/tideline/laws.FnLoopBatch", spec := "fnLoopBatch", inPlace := ["math/bits.Add64"], unfollowed := true, recurses := true, plainKeys := false, apart := false }
def FnLoopBatchSaid : Prop := fnLoopBatchRow.holds Tryz.pinned (OpenSpec.ofChange fnLoopBatchSpec)

/-- ITS FALSE NEIGHBOUR: 'it returns false'. Refute it at one input. -/
def fnLoopBatchWrong : ChangeSpec := { name := "fnLoopBatch", fn := fun _ => fun
  | [d] => { results := [.lit (.bool false)], args := [d] }
  | _ => none }
def FnLoopBatchWrongFalsely : Prop := fnLoopBatchRow.holds Tryz.pinned (OpenSpec.ofChange fnLoopBatchWrong)

/-- 'laws.FnExactLoopFlow': WHATEVER THE INPUT: true; the input reads as it did. -/
def fnExactLoopFlowSpec : ChangeSpec := { name := "fnExactLoopFlow", fn := fun _ => fun
  | [d1, d2, d3] => { results := [.lit (.bool true)], args := [d1, d2, d3] }
  | _ => none }
def fnExactLoopFlowRow : OpenClaim := { program := "ytjlaeeccnbdghaagreat", sum := "3d95806dc7b48bb2be9c0a803ef803e4dc1b8400479b27c2a46bb30d2146a244", func := "loop.example/tideline/laws.FnExactLoopFlow", spec := "fnExactLoopFlow", inPlace := ["math/bits.Add64"], unfollowed := true, recurses := true, plainKeys := false, apart := false }
def FnExactLoopFlowSaid : Prop := fnExactLoopFlowRow.holds Tryz.pinned (OpenSpec.ofChange fnExactLoopFlowSpec)

/-- ITS FALSE NEIGHBOUR: 'it returns false'. Refute it at one input. -/
def fnExactLoopFlowWrong : ChangeSpec := { name := "fnExactLoopFlow", fn := fun _ => fun
  | [d1, d2, d3] => { results := [.lit (.bool false)], args := [d1, d2, d3] }
  | _ => none }
def FnExactLoopFlowWrongFalsely : Prop := fnExactLoopFlowRow.holds Tryz.pinned (OpenSpec.ofChange fnExactLoopFlowWrong)

/- THE SECOND FORM. 'bulk': how many values and letters a reading holds, each counted each time it is reached (what is shared counts as often as it is met; a slice's spare places count too). A statement '..UptoSaid' is the law's where the arguments, and the package variables that the reading takes, are together of bulk at most 1048576: NARROWER than '..Said'. Prove '..Said' where nothing that the law and all that it calls make is longer than what came in: it says more and counts as full. Else prove '..UptoSaid'. A law counts once. -/
mutual
def uptoBulk {H : Type} : DataW H → Nat
  | .lit (.string bytes) => bytes.length + 1
  | .lit _ => 1
  | .nil => 1
  | .ptr d => uptoBulk d + 1
  | .slice elems spare => uptoBulkAll elems + uptoBulkAll spare + 1
  | .agg parts => uptoBulkAll parts + 1
  | .iface _ d => uptoBulk d + 1
  | .map entries => uptoBulkEntries entries + 1
  | .held _ => 1
def uptoBulkAll {H : Type} : List (DataW H) → Nat
  | [] => 0
  | d :: r => uptoBulk d + uptoBulkAll r
def uptoBulkEntries {H : Type} : List (Lit × DataW H) → Nat
  | [] => 0
  | x :: r => uptoBulkEntry x + uptoBulkEntries r
def uptoBulkEntry {H : Type} : Lit × DataW H → Nat
  | (.string bytes, d) => bytes.length + uptoBulk d + 1
  | (_, d) => uptoBulk d + 1
 end
def uptoSmall : (H : Type) → List (DataW H) → Bool := fun _ ds => decide (uptoBulkAll ds ≤ 1048576)
def OpenSpec.upto (s : _root_.Go.ChangeSpec) : _root_.Go.OpenSpec := { _root_.Go.OpenSpec.ofChange s with cond := some uptoSmall }

/-- 'laws.FnLoopFlow', WHERE WHAT IT READS IS OF BULK AT MOST 1048576: true; the input reads as it did. -/
def fnLoopFlowUptoRow : OpenClaim := { program := "ytjlaeeccnbdghaagreat", sum := "3d95806dc7b48bb2be9c0a803ef803e4dc1b8400479b27c2a46bb30d2146a244", func := "loop.example/tideline/laws.FnLoopFlow", spec := "fnLoopFlow", inPlace := ["math/bits.Add64"], unfollowed := true, recurses := true, plainKeys := false, apart := false, narrowed := true }
def FnLoopFlowUptoSaid : Prop := fnLoopFlowUptoRow.holds Tryz.pinned (OpenSpec.upto fnLoopFlowSpec)

/-- 'laws.FnLoopMore', WHERE WHAT IT READS IS OF BULK AT MOST 1048576: true; the input reads as it did. -/
def fnLoopMoreUptoRow : OpenClaim := { program := "ytjlaeeccnbdghaagreat", sum := "3d95806dc7b48bb2be9c0a803ef803e4dc1b8400479b27c2a46bb30d2146a244", func := "loop.example/tideline/laws.FnLoopMore", spec := "fnLoopMore", inPlace := ["math/bits.Add64"], unfollowed := true, recurses := true, plainKeys := false, apart := false, narrowed := true }
def FnLoopMoreUptoSaid : Prop := fnLoopMoreUptoRow.holds Tryz.pinned (OpenSpec.upto fnLoopMoreSpec)

/-- 'laws.FnLoopNone', WHERE WHAT IT READS IS OF BULK AT MOST 1048576: true; the input reads as it did. -/
def fnLoopNoneUptoRow : OpenClaim := { program := "ytjlaeeccnbdghaagreat", sum := "3d95806dc7b48bb2be9c0a803ef803e4dc1b8400479b27c2a46bb30d2146a244", func := "loop.example/tideline/laws.FnLoopNone", spec := "fnLoopNone", inPlace := ["math/bits.Add64"], unfollowed := true, recurses := true, plainKeys := false, apart := false, narrowed := true }
def FnLoopNoneUptoSaid : Prop := fnLoopNoneUptoRow.holds Tryz.pinned (OpenSpec.upto fnLoopNoneSpec)

/-- 'laws.FnLoopRounds', WHERE WHAT IT READS IS OF BULK AT MOST 1048576: true; the input reads as it did. -/
def fnLoopRoundsUptoRow : OpenClaim := { program := "ytjlaeeccnbdghaagreat", sum := "3d95806dc7b48bb2be9c0a803ef803e4dc1b8400479b27c2a46bb30d2146a244", func := "loop.example/tideline/laws.FnLoopRounds", spec := "fnLoopRounds", inPlace := ["math/bits.Add64"], unfollowed := true, recurses := true, plainKeys := false, apart := false, narrowed := true }
def FnLoopRoundsUptoSaid : Prop := fnLoopRoundsUptoRow.holds Tryz.pinned (OpenSpec.upto fnLoopRoundsSpec)

/-- 'laws.FnLoopBatch', WHERE WHAT IT READS IS OF BULK AT MOST 1048576: true; the input reads as it did. -/
def fnLoopBatchUptoRow : OpenClaim := { program := "ytjlaeeccnbdghaagreat", sum := "3d95806dc7b48bb2be9c0a803ef803e4dc1b8400479b27c2a46bb30d2146a244", func := "loop.example/tideline/laws.FnLoopBatch", spec := "fnLoopBatch", inPlace := ["math/bits.Add64"], unfollowed := true, recurses := true, plainKeys := false, apart := false, narrowed := true }
def FnLoopBatchUptoSaid : Prop := fnLoopBatchUptoRow.holds Tryz.pinned (OpenSpec.upto fnLoopBatchSpec)

/-- 'laws.FnExactLoopFlow', WHERE WHAT IT READS IS OF BULK AT MOST 1048576: true; the input reads as it did. -/
def fnExactLoopFlowUptoRow : OpenClaim := { program := "ytjlaeeccnbdghaagreat", sum := "3d95806dc7b48bb2be9c0a803ef803e4dc1b8400479b27c2a46bb30d2146a244", func := "loop.example/tideline/laws.FnExactLoopFlow", spec := "fnExactLoopFlow", inPlace := ["math/bits.Add64"], unfollowed := true, recurses := true, plainKeys := false, apart := false, narrowed := true }
def FnExactLoopFlowUptoSaid : Prop := fnExactLoopFlowUptoRow.holds Tryz.pinned (OpenSpec.upto fnExactLoopFlowSpec)

end Rows
end Go.Proofs.YtjlaeeccnbdghaaGreat
