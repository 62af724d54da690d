/-
  No cell of these rows narrows 'for every input' (looked for: loops, veiled, ifaces, maps, wideKeys, modest, calm, conditions, laid).
  DERIVED. THE GIVEN ROWS OF THIS SEAT. 8 by the template 'for every input the law returns true; each argument reads behind the call as it read before'; 0 by the template 'total and deterministic' (their statements: YtjlaeeccnbdghaaTotals.lean).
  GIVEN WITH THE SEED: the statements are not yours to turn. If you find one false, say at which input.
  Laid BY PROGRAM, IN A SANDBOX (cutbox-rows.mjs): the forced cells as the released guide's own fill.sh prints them over the translation 3adc892053437c6c… (all of the seat's roots in one cut). By AI agents, Wed Nov 11 2026. No macro, syntax, notation, axiom, sorry.
-/
import Derived.Test.YtjlaeeccnbdghaaChecked
import GoSem.Claim
import GoSem.ClaimJoined
import GoSem.ClaimMapViews
import Derived.JoinedTies
import Derived.KernelRfl
namespace Go.Proofs.Ytjlaeeccnbdghaa
/- THE CELL 'sum', in the pinned program and in every row, IS THE sha256 OF THE DUMP (.gsa) THAT YtjlaeeccnbdghaaProg.lean LOADS. Nothing in Lean hashes anything: it is a label: what it is worth is what the hold of that sum in a sandbox is worth. -/
noncomputable def Try.pinned : Pinned := { name := "ytjlaeeccnbdghaa", sum := "3adc892053437c6c9387442f671da510bee6d799b106a46f52baf60486fa1944", checked := Try.checked }
namespace Rows
def none {H : Type} : Left H := { results := [], args := [] }

/-- 'laws.FnLoopStep': WHATEVER THE INPUT: true; the input reads as it did. -/
def fnLoopStepSpec : ChangeSpec := { name := "fnLoopStep", fn := fun _ => fun
  | [d] => { results := [.lit (.bool true)], args := [d] }
  | _ => none }
def fnLoopStepRow : OpenClaim := { program := "ytjlaeeccnbdghaa", sum := "3adc892053437c6c9387442f671da510bee6d799b106a46f52baf60486fa1944", func := "loop.example/tideline/laws.FnLoopStep", spec := "fnLoopStep", inPlace := ["math/bits.Add64"], unfollowed := true, recurses := true, plainKeys := false, apart := false }
def FnLoopStepSaid : Prop := fnLoopStepRow.holds Try.pinned (OpenSpec.ofChange fnLoopStepSpec)

/-- ITS FALSE NEIGHBOUR: 'it returns false'. Refute it at one input. -/
def fnLoopStepWrong : ChangeSpec := { name := "fnLoopStep", fn := fun _ => fun
  | [d] => { results := [.lit (.bool false)], args := [d] }
  | _ => none }
def FnLoopStepWrongFalsely : Prop := fnLoopStepRow.holds Try.pinned (OpenSpec.ofChange fnLoopStepWrong)

/-- 'laws.FnLoopSet': WHATEVER THE INPUT: true; the input reads as it did. -/
def fnLoopSetSpec : ChangeSpec := { name := "fnLoopSet", fn := fun _ => fun
  | [d] => { results := [.lit (.bool true)], args := [d] }
  | _ => none }
def fnLoopSetRow : OpenClaim := { program := "ytjlaeeccnbdghaa", sum := "3adc892053437c6c9387442f671da510bee6d799b106a46f52baf60486fa1944", func := "loop.example/tideline/laws.FnLoopSet", spec := "fnLoopSet", inPlace := ["math/bits.Add64"], unfollowed := true, recurses := true, plainKeys := false, apart := false }
def FnLoopSetSaid : Prop := fnLoopSetRow.holds Try.pinned (OpenSpec.ofChange fnLoopSetSpec)

/-- ITS FALSE NEIGHBOUR: 'it returns false'. Refute it at one input. -/
def fnLoopSetWrong : ChangeSpec := { name := "fnLoopSet", fn := fun _ => fun
  | [d] => { results := [.lit (.bool false)], args := [d] }
  | _ => none }
def FnLoopSetWrongFalsely : Prop := fnLoopSetRow.holds Try.pinned (OpenSpec.ofChange fnLoopSetWrong)

/-- 'laws.FnLoopFix': WHATEVER THE INPUT: true; the input reads as it did. -/
def fnLoopFixSpec : ChangeSpec := { name := "fnLoopFix", fn := fun _ => fun
  | [d] => { results := [.lit (.bool true)], args := [d] }
  | _ => none }
def fnLoopFixRow : OpenClaim := { program := "ytjlaeeccnbdghaa", sum := "3adc892053437c6c9387442f671da510bee6d799b106a46f52baf60486fa1944", func := "loop.example/tideline/laws.FnLoopFix", spec := "fnLoopFix", inPlace := ["math/bits.Add64"], unfollowed := true, recurses := true, plainKeys := false, apart := false }
def FnLoopFixSaid : Prop := fnLoopFixRow.holds Try.pinned (OpenSpec.ofChange fnLoopFixSpec)

/-- ITS FALSE NEIGHBOUR: 'it returns false'. Refute it at one input. -/
def fnLoopFixWrong : ChangeSpec := { name := "fnLoopFix", fn := fun _ => fun
  | [d] => { results := [.lit (.bool false)], args := [d] }
  | _ => none }
def FnLoopFixWrongFalsely : Prop := fnLoopFixRow.holds Try.pinned (OpenSpec.ofChange fnLoopFixWrong)

/-- 'laws.FnLoopOut': WHATEVER THE INPUT: true; the input reads as it did. -/
def fnLoopOutSpec : ChangeSpec := { name := "fnLoopOut", fn := fun _ => fun
  | [d] => { results := [.lit (.bool true)], args := [d] }
  | _ => none }
def fnLoopOutRow : OpenClaim := { program := "ytjlaeeccnbdghaa", sum := "3adc892053437c6c9387442f671da510bee6d799b106a46f52baf60486fa1944", func := "loop.example/tideline/laws.FnLoopOut", spec := "fnLoopOut", unfollowed := true, recurses := true, plainKeys := false, apart := false }
def FnLoopOutSaid : Prop := fnLoopOutRow.holds Try.pinned (OpenSpec.ofChange fnLoopOutSpec)

/-- ITS FALSE NEIGHBOUR: 'it returns false'. Refute it at one input. -/
def fnLoopOutWrong : ChangeSpec := { name := "fnLoopOut", fn := fun _ => fun
  | [d] => { results := [.lit (.bool false)], args := [d] }
  | _ => none }
def FnLoopOutWrongFalsely : Prop := fnLoopOutRow.holds Try.pinned (OpenSpec.ofChange fnLoopOutWrong)

/-- 'laws.FnLoopFour': WHATEVER THE INPUT: true; the input reads as it did. -/
def fnLoopFourSpec : ChangeSpec := { name := "fnLoopFour", fn := fun _ => fun
  | [d] => { results := [.lit (.bool true)], args := [d] }
  | _ => none }
def fnLoopFourRow : OpenClaim := { program := "ytjlaeeccnbdghaa", sum := "3adc892053437c6c9387442f671da510bee6d799b106a46f52baf60486fa1944", func := "loop.example/tideline/laws.FnLoopFour", spec := "fnLoopFour", inPlace := ["math/bits.Add64"], unfollowed := true, recurses := true, plainKeys := false, apart := false }
def FnLoopFourSaid : Prop := fnLoopFourRow.holds Try.pinned (OpenSpec.ofChange fnLoopFourSpec)

/-- ITS FALSE NEIGHBOUR: 'it returns false'. Refute it at one input. -/
def fnLoopFourWrong : ChangeSpec := { name := "fnLoopFour", fn := fun _ => fun
  | [d] => { results := [.lit (.bool false)], args := [d] }
  | _ => none }
def FnLoopFourWrongFalsely : Prop := fnLoopFourRow.holds Try.pinned (OpenSpec.ofChange fnLoopFourWrong)

/-- 'laws.FnExactLoopStep': WHATEVER THE INPUT: true; the input reads as it did. -/
def fnExactLoopStepSpec : ChangeSpec := { name := "fnExactLoopStep", fn := fun _ => fun
  | [d1, d2, d3] => { results := [.lit (.bool true)], args := [d1, d2, d3] }
  | _ => none }
def fnExactLoopStepRow : OpenClaim := { program := "ytjlaeeccnbdghaa", sum := "3adc892053437c6c9387442f671da510bee6d799b106a46f52baf60486fa1944", func := "loop.example/tideline/laws.FnExactLoopStep", spec := "fnExactLoopStep", inPlace := ["math/bits.Add64"], unfollowed := true, recurses := true, plainKeys := false, apart := false }
def FnExactLoopStepSaid : Prop := fnExactLoopStepRow.holds Try.pinned (OpenSpec.ofChange fnExactLoopStepSpec)

/-- ITS FALSE NEIGHBOUR: 'it returns false'. Refute it at one input. -/
def fnExactLoopStepWrong : ChangeSpec := { name := "fnExactLoopStep", fn := fun _ => fun
  | [d1, d2, d3] => { results := [.lit (.bool false)], args := [d1, d2, d3] }
  | _ => none }
def FnExactLoopStepWrongFalsely : Prop := fnExactLoopStepRow.holds Try.pinned (OpenSpec.ofChange fnExactLoopStepWrong)

/-- 'laws.FnExactLoopSet': WHATEVER THE INPUT: true; the input reads as it did. -/
def fnExactLoopSetSpec : ChangeSpec := { name := "fnExactLoopSet", fn := fun _ => fun
  | [d1, d2, d3] => { results := [.lit (.bool true)], args := [d1, d2, d3] }
  | _ => none }
def fnExactLoopSetRow : OpenClaim := { program := "ytjlaeeccnbdghaa", sum := "3adc892053437c6c9387442f671da510bee6d799b106a46f52baf60486fa1944", func := "loop.example/tideline/laws.FnExactLoopSet", spec := "fnExactLoopSet", inPlace := ["math/bits.Add64"], unfollowed := true, recurses := true, plainKeys := false, apart := false }
def FnExactLoopSetSaid : Prop := fnExactLoopSetRow.holds Try.pinned (OpenSpec.ofChange fnExactLoopSetSpec)

/-- ITS FALSE NEIGHBOUR: 'it returns false'. Refute it at one input. -/
def fnExactLoopSetWrong : ChangeSpec := { name := "fnExactLoopSet", fn := fun _ => fun
  | [d1, d2, d3] => { results := [.lit (.bool false)], args := [d1, d2, d3] }
  | _ => none }
def FnExactLoopSetWrongFalsely : Prop := fnExactLoopSetRow.holds Try.pinned (OpenSpec.ofChange fnExactLoopSetWrong)

/-- 'laws.FnExactLoopOut': WHATEVER THE INPUT: true; the input reads as it did. -/
def fnExactLoopOutSpec : ChangeSpec := { name := "fnExactLoopOut", fn := fun _ => fun
  | [d1, d2] => { results := [.lit (.bool true)], args := [d1, d2] }
  | _ => none }
def fnExactLoopOutRow : OpenClaim := { program := "ytjlaeeccnbdghaa", sum := "3adc892053437c6c9387442f671da510bee6d799b106a46f52baf60486fa1944", func := "loop.example/tideline/laws.FnExactLoopOut", spec := "fnExactLoopOut", unfollowed := true, recurses := true, plainKeys := false, apart := false }
def FnExactLoopOutSaid : Prop := fnExactLoopOutRow.holds Try.pinned (OpenSpec.ofChange fnExactLoopOutSpec)

/-- ITS FALSE NEIGHBOUR: 'it returns false'. Refute it at one input. -/
def fnExactLoopOutWrong : ChangeSpec := { name := "fnExactLoopOut", fn := fun _ => fun
  | [d1, d2] => { results := [.lit (.bool false)], args := [d1, d2] }
  | _ => none }
def FnExactLoopOutWrongFalsely : Prop := fnExactLoopOutRow.holds Try.pinned (OpenSpec.ofChange fnExactLoopOutWrong)

/- THE SECOND FORM. 'bulk': how many values and letters a reading holds, each counted each time it is reached (what is shared counts as often as it is met; a slice's spare places count too). A statement '..UptoSaid' is the law's where the arguments, and the package variables that the reading takes, are together of bulk at most 1048576: NARROWER than '..Said'. Prove '..Said' where nothing that the law and all that it calls make is longer than what came in: it says more and counts as full. Else prove '..UptoSaid'. A law counts once. -/
mutual
def uptoBulk {H : Type} : DataW H → Nat
  | .lit (.string bytes) => bytes.length + 1
  | .lit _ => 1
  | .nil => 1
  | .ptr d => uptoBulk d + 1
  | .slice elems spare => uptoBulkAll elems + uptoBulkAll spare + 1
  | .agg parts => uptoBulkAll parts + 1
  | .iface _ d => uptoBulk d + 1
  | .map entries => uptoBulkEntries entries + 1
  | .held _ => 1
def uptoBulkAll {H : Type} : List (DataW H) → Nat
  | [] => 0
  | d :: r => uptoBulk d + uptoBulkAll r
def uptoBulkEntries {H : Type} : List (Lit × DataW H) → Nat
  | [] => 0
  | x :: r => uptoBulkEntry x + uptoBulkEntries r
def uptoBulkEntry {H : Type} : Lit × DataW H → Nat
  | (.string bytes, d) => bytes.length + uptoBulk d + 1
  | (_, d) => uptoBulk d + 1
 end
def uptoSmall : (H : Type) → List (DataW H) → Bool := fun _ ds => decide (uptoBulkAll ds ≤ 1048576)
def OpenSpec.upto (s : _root_.Go.ChangeSpec) : _root_.Go.OpenSpec := { _root_.Go.OpenSpec.ofChange s with cond := some uptoSmall }

/-- 'laws.FnLoopStep', WHERE WHAT IT READS IS OF BULK AT MOST 1048576: true; the input reads as it did. -/
def fnLoopStepUptoRow : OpenClaim := { program := "ytjlaeeccnbdghaa", sum := "3adc892053437c6c9387442f671da510bee6d799b106a46f52baf60486fa1944", func := "loop.example/tideline/laws.FnLoopStep", spec := "fnLoopStep", inPlace := ["math/bits.Add64"], unfollowed := true, recurses := true, plainKeys := false, apart := false, narrowed := true }
def FnLoopStepUptoSaid : Prop := fnLoopStepUptoRow.holds Try.pinned (OpenSpec.upto fnLoopStepSpec)

/-- 'laws.FnLoopSet', WHERE WHAT IT READS IS OF BULK AT MOST 1048576: true; the input reads as it did. -/
def fnLoopSetUptoRow : OpenClaim := { program := "ytjlaeeccnbdghaa", sum := "3adc892053437c6c9387442f671da510bee6d799b106a46f52baf60486fa1944", func := "loop.example/tideline/laws.FnLoopSet", spec := "fnLoopSet", inPlace := ["math/bits.Add64"], unfollowed := true, recurses := true, plainKeys := false, apart := false, narrowed := true }
def FnLoopSetUptoSaid : Prop := fnLoopSetUptoRow.holds Try.pinned (OpenSpec.upto fnLoopSetSpec)

/-- 'laws.FnLoopFix', WHERE WHAT IT READS IS OF BULK AT MOST 1048576: true; the input reads as it did. -/
def fnLoopFixUptoRow : OpenClaim := { program := "ytjlaeeccnbdghaa", sum := "3adc892053437c6c9387442f671da510bee6d799b106a46f52baf60486fa1944", func := "loop.example/tideline/laws.FnLoopFix", spec := "fnLoopFix", inPlace := ["math/bits.Add64"], unfollowed := true, recurses := true, plainKeys := false, apart := false, narrowed := true }
def FnLoopFixUptoSaid : Prop := fnLoopFixUptoRow.holds Try.pinned (OpenSpec.upto fnLoopFixSpec)

/-- 'laws.FnLoopOut', WHERE WHAT IT READS IS OF BULK AT MOST 1048576: true; the input reads as it did. -/
def fnLoopOutUptoRow : OpenClaim := { program := "ytjlaeeccnbdghaa", sum := "3adc892053437c6c9387442f671da510bee6d799b106a46f52baf60486fa1944", func := "loop.example/tideline/laws.FnLoopOut", spec := "fnLoopOut", unfollowed := true, recurses := true, plainKeys := false, apart := false, narrowed := true }
def FnLoopOutUptoSaid : Prop := fnLoopOutUptoRow.holds Try.pinned (OpenSpec.upto fnLoopOutSpec)

/-- 'laws.FnLoopFour', WHERE WHAT IT READS IS OF BULK AT MOST 1048576: true; the input reads as it did. -/
def fnLoopFourUptoRow : OpenClaim := { program := "ytjlaeeccnbdghaa", sum := "3adc892053437c6c9387442f671da510bee6d799b106a46f52baf60486fa1944", func := "loop.example/tideline/laws.FnLoopFour", spec := "fnLoopFour", inPlace := ["math/bits.Add64"], unfollowed := true, recurses := true, plainKeys := false, apart := false, narrowed := true }
def FnLoopFourUptoSaid : Prop := fnLoopFourUptoRow.holds Try.pinned (OpenSpec.upto fnLoopFourSpec)

/-- 'laws.FnExactLoopStep', WHERE WHAT IT READS IS OF BULK AT MOST 1048576: true; the input reads as it did. -/
def fnExactLoopStepUptoRow : OpenClaim := { program := "ytjlaeeccnbdghaa", sum := "3adc892053437c6c9387442f671da510bee6d799b106a46f52baf60486fa1944", func := "loop.example/tideline/laws.FnExactLoopStep", spec := "fnExactLoopStep", inPlace := ["math/bits.Add64"], unfollowed := true, recurses := true, plainKeys := false, apart := false, narrowed := true }
def FnExactLoopStepUptoSaid : Prop := fnExactLoopStepUptoRow.holds Try.pinned (OpenSpec.upto fnExactLoopStepSpec)

/-- 'laws.FnExactLoopSet', WHERE WHAT IT READS IS OF BULK AT MOST 1048576: true; the input reads as it did. -/
def fnExactLoopSetUptoRow : OpenClaim := { program := "ytjlaeeccnbdghaa", sum := "3adc892053437c6c9387442f671da510bee6d799b106a46f52baf60486fa1944", func := "loop.example/tideline/laws.FnExactLoopSet", spec := "fnExactLoopSet", inPlace := ["math/bits.Add64"], unfollowed := true, recurses := true, plainKeys := false, apart := false, narrowed := true }
def FnExactLoopSetUptoSaid : Prop := fnExactLoopSetUptoRow.holds Try.pinned (OpenSpec.upto fnExactLoopSetSpec)

/-- 'laws.FnExactLoopOut', WHERE WHAT IT READS IS OF BULK AT MOST 1048576: true; the input reads as it did. -/
def fnExactLoopOutUptoRow : OpenClaim := { program := "ytjlaeeccnbdghaa", sum := "3adc892053437c6c9387442f671da510bee6d799b106a46f52baf60486fa1944", func := "loop.example/tideline/laws.FnExactLoopOut", spec := "fnExactLoopOut", unfollowed := true, recurses := true, plainKeys := false, apart := false, narrowed := true }
def FnExactLoopOutUptoSaid : Prop := fnExactLoopOutUptoRow.holds Try.pinned (OpenSpec.upto fnExactLoopOutSpec)

end Rows
end Go.Proofs.Ytjlaeeccnbdghaa
