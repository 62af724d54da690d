/-
  No cell of these rows narrows 'for every input' (looked for: loops, veiled, ifaces, maps, wideKeys, modest, calm, conditions, laid).
  DERIVED. THE GIVEN ROWS OF THIS SEAT. 9 by the template 'for every input the law returns true; each argument reads behind the call as it read before'; 0 by the template 'total and deterministic' (their statements: YtdbhgocaelmanaaTotals.lean).
  GIVEN WITH THE SEED: the statements are not yours to turn. If you find one false, say at which input.
  Laid BY PROGRAM, IN A SANDBOX (cutbox-rows.mjs): the forced cells as the released guide's own fill.sh prints them over the translation fc0a1fe48d957e3c… (all of the seat's roots in one cut). By AI agents, Wed Nov 11 2026. No macro, syntax, notation, axiom, sorry.
-/
import Derived.Test.YtdbhgocaelmanaaChecked
import GoSem.Claim
import GoSem.ClaimJoined
import GoSem.ClaimMapViews
import Derived.JoinedTies
import Derived.KernelRfl
namespace Go.Proofs.Ytdbhgocaelmanaa
/- THE CELL 'sum', in the pinned program and in every row, IS THE sha256 OF THE DUMP (.gsa) THAT YtdbhgocaelmanaaProg.lean LOADS. Nothing in Lean hashes anything: it is a label: what it is worth is what the hold of that sum in a sandbox is worth. -/
noncomputable def Try.pinned : Pinned := { name := "ytdbhgocaelmanaa", sum := "fc0a1fe48d957e3c9101b0c92bdf867ce96081beec188220269cb1aabcfdae3c", checked := Try.checked }
namespace Rows
def none {H : Type} : Left H := { results := [], args := [] }

/-- 'laws.FnSpineSince': WHATEVER THE INPUT: true; the input reads as it did. -/
def fnSpineSinceSpec : ChangeSpec := { name := "fnSpineSince", fn := fun _ => fun
  | [d] => { results := [.lit (.bool true)], args := [d] }
  | _ => none }
def fnSpineSinceRow : OpenClaim := { program := "ytdbhgocaelmanaa", sum := "fc0a1fe48d957e3c9101b0c92bdf867ce96081beec188220269cb1aabcfdae3c", func := "loop.example/tideline/laws.FnSpineSince", spec := "fnSpineSince", unfollowed := true, recurses := true, plainKeys := false, apart := false }
def FnSpineSinceSaid : Prop := fnSpineSinceRow.holds Try.pinned (OpenSpec.ofChange fnSpineSinceSpec)

/-- ITS FALSE NEIGHBOUR: 'it returns false'. Refute it at one input. -/
def fnSpineSinceWrong : ChangeSpec := { name := "fnSpineSince", fn := fun _ => fun
  | [d] => { results := [.lit (.bool false)], args := [d] }
  | _ => none }
def FnSpineSinceWrongFalsely : Prop := fnSpineSinceRow.holds Try.pinned (OpenSpec.ofChange fnSpineSinceWrong)

/-- 'laws.FnSpineLess': WHATEVER THE INPUT: true; the input reads as it did. -/
def fnSpineLessSpec : ChangeSpec := { name := "fnSpineLess", fn := fun _ => fun
  | [d] => { results := [.lit (.bool true)], args := [d] }
  | _ => none }
def fnSpineLessRow : OpenClaim := { program := "ytdbhgocaelmanaa", sum := "fc0a1fe48d957e3c9101b0c92bdf867ce96081beec188220269cb1aabcfdae3c", func := "loop.example/tideline/laws.FnSpineLess", spec := "fnSpineLess", unfollowed := true, recurses := true, plainKeys := false, apart := false }
def FnSpineLessSaid : Prop := fnSpineLessRow.holds Try.pinned (OpenSpec.ofChange fnSpineLessSpec)

/-- ITS FALSE NEIGHBOUR: 'it returns false'. Refute it at one input. -/
def fnSpineLessWrong : ChangeSpec := { name := "fnSpineLess", fn := fun _ => fun
  | [d] => { results := [.lit (.bool false)], args := [d] }
  | _ => none }
def FnSpineLessWrongFalsely : Prop := fnSpineLessRow.holds Try.pinned (OpenSpec.ofChange fnSpineLessWrong)

/-- 'laws.FnSpineNot': WHATEVER THE INPUT: true; the input reads as it did. -/
def fnSpineNotSpec : ChangeSpec := { name := "fnSpineNot", fn := fun _ => fun
  | [d] => { results := [.lit (.bool true)], args := [d] }
  | _ => none }
def fnSpineNotRow : OpenClaim := { program := "ytdbhgocaelmanaa", sum := "fc0a1fe48d957e3c9101b0c92bdf867ce96081beec188220269cb1aabcfdae3c", func := "loop.example/tideline/laws.FnSpineNot", spec := "fnSpineNot", unfollowed := true, recurses := true, plainKeys := false, apart := false }
def FnSpineNotSaid : Prop := fnSpineNotRow.holds Try.pinned (OpenSpec.ofChange fnSpineNotSpec)

/-- ITS FALSE NEIGHBOUR: 'it returns false'. Refute it at one input. -/
def fnSpineNotWrong : ChangeSpec := { name := "fnSpineNot", fn := fun _ => fun
  | [d] => { results := [.lit (.bool false)], args := [d] }
  | _ => none }
def FnSpineNotWrongFalsely : Prop := fnSpineNotRow.holds Try.pinned (OpenSpec.ofChange fnSpineNotWrong)

/-- 'laws.FnSpineSinceTwice': WHATEVER THE INPUT: true; the input reads as it did. -/
def fnSpineSinceTwiceSpec : ChangeSpec := { name := "fnSpineSinceTwice", fn := fun _ => fun
  | [d] => { results := [.lit (.bool true)], args := [d] }
  | _ => none }
def fnSpineSinceTwiceRow : OpenClaim := { program := "ytdbhgocaelmanaa", sum := "fc0a1fe48d957e3c9101b0c92bdf867ce96081beec188220269cb1aabcfdae3c", func := "loop.example/tideline/laws.FnSpineSinceTwice", spec := "fnSpineSinceTwice", unfollowed := true, recurses := true, plainKeys := false, apart := false }
def FnSpineSinceTwiceSaid : Prop := fnSpineSinceTwiceRow.holds Try.pinned (OpenSpec.ofChange fnSpineSinceTwiceSpec)

/-- ITS FALSE NEIGHBOUR: 'it returns false'. Refute it at one input. -/
def fnSpineSinceTwiceWrong : ChangeSpec := { name := "fnSpineSinceTwice", fn := fun _ => fun
  | [d] => { results := [.lit (.bool false)], args := [d] }
  | _ => none }
def FnSpineSinceTwiceWrongFalsely : Prop := fnSpineSinceTwiceRow.holds Try.pinned (OpenSpec.ofChange fnSpineSinceTwiceWrong)

/-- 'laws.FnExactSpineOk': WHATEVER THE INPUT: true; the input reads as it did. -/
def fnExactSpineOkSpec : ChangeSpec := { name := "fnExactSpineOk", fn := fun _ => fun
  | [d] => { results := [.lit (.bool true)], args := [d] }
  | _ => none }
def fnExactSpineOkRow : OpenClaim := { program := "ytdbhgocaelmanaa", sum := "fc0a1fe48d957e3c9101b0c92bdf867ce96081beec188220269cb1aabcfdae3c", func := "loop.example/tideline/laws.FnExactSpineOk", spec := "fnExactSpineOk", plainKeys := false, apart := false }
def FnExactSpineOkSaid : Prop := fnExactSpineOkRow.holds Try.pinned (OpenSpec.ofChange fnExactSpineOkSpec)

/-- ITS FALSE NEIGHBOUR: 'it returns false'. Refute it at one input. -/
def fnExactSpineOkWrong : ChangeSpec := { name := "fnExactSpineOk", fn := fun _ => fun
  | [d] => { results := [.lit (.bool false)], args := [d] }
  | _ => none }
def FnExactSpineOkWrongFalsely : Prop := fnExactSpineOkRow.holds Try.pinned (OpenSpec.ofChange fnExactSpineOkWrong)

/-- 'laws.FnExactSpineJoin': WHATEVER THE INPUT: true; the input reads as it did. -/
def fnExactSpineJoinSpec : ChangeSpec := { name := "fnExactSpineJoin", fn := fun _ => fun
  | [d1, d2] => { results := [.lit (.bool true)], args := [d1, d2] }
  | _ => none }
def fnExactSpineJoinRow : OpenClaim := { program := "ytdbhgocaelmanaa", sum := "fc0a1fe48d957e3c9101b0c92bdf867ce96081beec188220269cb1aabcfdae3c", func := "loop.example/tideline/laws.FnExactSpineJoin", spec := "fnExactSpineJoin", unfollowed := true, recurses := true, plainKeys := false, apart := false }
def FnExactSpineJoinSaid : Prop := fnExactSpineJoinRow.holds Try.pinned (OpenSpec.ofChange fnExactSpineJoinSpec)

/-- ITS FALSE NEIGHBOUR: 'it returns false'. Refute it at one input. -/
def fnExactSpineJoinWrong : ChangeSpec := { name := "fnExactSpineJoin", fn := fun _ => fun
  | [d1, d2] => { results := [.lit (.bool false)], args := [d1, d2] }
  | _ => none }
def FnExactSpineJoinWrongFalsely : Prop := fnExactSpineJoinRow.holds Try.pinned (OpenSpec.ofChange fnExactSpineJoinWrong)

/-- 'laws.FnExactSpineSince': WHATEVER THE INPUT: true; the input reads as it did. -/
def fnExactSpineSinceSpec : ChangeSpec := { name := "fnExactSpineSince", fn := fun _ => fun
  | [d1, d2] => { results := [.lit (.bool true)], args := [d1, d2] }
  | _ => none }
def fnExactSpineSinceRow : OpenClaim := { program := "ytdbhgocaelmanaa", sum := "fc0a1fe48d957e3c9101b0c92bdf867ce96081beec188220269cb1aabcfdae3c", func := "loop.example/tideline/laws.FnExactSpineSince", spec := "fnExactSpineSince", unfollowed := true, recurses := true, plainKeys := false, apart := false }
def FnExactSpineSinceSaid : Prop := fnExactSpineSinceRow.holds Try.pinned (OpenSpec.ofChange fnExactSpineSinceSpec)

/-- ITS FALSE NEIGHBOUR: 'it returns false'. Refute it at one input. -/
def fnExactSpineSinceWrong : ChangeSpec := { name := "fnExactSpineSince", fn := fun _ => fun
  | [d1, d2] => { results := [.lit (.bool false)], args := [d1, d2] }
  | _ => none }
def FnExactSpineSinceWrongFalsely : Prop := fnExactSpineSinceRow.holds Try.pinned (OpenSpec.ofChange fnExactSpineSinceWrong)

/-- 'laws.FnExactSpineAt': WHATEVER THE INPUT: true; the input reads as it did. -/
def fnExactSpineAtSpec : ChangeSpec := { name := "fnExactSpineAt", fn := fun _ => fun
  | [d1, d2] => { results := [.lit (.bool true)], args := [d1, d2] }
  | _ => none }
def fnExactSpineAtRow : OpenClaim := { program := "ytdbhgocaelmanaa", sum := "fc0a1fe48d957e3c9101b0c92bdf867ce96081beec188220269cb1aabcfdae3c", func := "loop.example/tideline/laws.FnExactSpineAt", spec := "fnExactSpineAt", unfollowed := true, recurses := true, plainKeys := false, apart := false }
def FnExactSpineAtSaid : Prop := fnExactSpineAtRow.holds Try.pinned (OpenSpec.ofChange fnExactSpineAtSpec)

/-- ITS FALSE NEIGHBOUR: 'it returns false'. Refute it at one input. -/
def fnExactSpineAtWrong : ChangeSpec := { name := "fnExactSpineAt", fn := fun _ => fun
  | [d1, d2] => { results := [.lit (.bool false)], args := [d1, d2] }
  | _ => none }
def FnExactSpineAtWrongFalsely : Prop := fnExactSpineAtRow.holds Try.pinned (OpenSpec.ofChange fnExactSpineAtWrong)

/-- 'laws.FnExactSpineAll': WHATEVER THE INPUT: true; the input reads as it did. -/
def fnExactSpineAllSpec : ChangeSpec := { name := "fnExactSpineAll", fn := fun _ => fun
  | [d] => { results := [.lit (.bool true)], args := [d] }
  | _ => none }
def fnExactSpineAllRow : OpenClaim := { program := "ytdbhgocaelmanaa", sum := "fc0a1fe48d957e3c9101b0c92bdf867ce96081beec188220269cb1aabcfdae3c", func := "loop.example/tideline/laws.FnExactSpineAll", spec := "fnExactSpineAll", unfollowed := true, recurses := true, plainKeys := false, apart := false }
def FnExactSpineAllSaid : Prop := fnExactSpineAllRow.holds Try.pinned (OpenSpec.ofChange fnExactSpineAllSpec)

/-- ITS FALSE NEIGHBOUR: 'it returns false'. Refute it at one input. -/
def fnExactSpineAllWrong : ChangeSpec := { name := "fnExactSpineAll", fn := fun _ => fun
  | [d] => { results := [.lit (.bool false)], args := [d] }
  | _ => none }
def FnExactSpineAllWrongFalsely : Prop := fnExactSpineAllRow.holds Try.pinned (OpenSpec.ofChange fnExactSpineAllWrong)

/- THE SECOND FORM. 'bulk': how many values and letters a reading holds, each counted each time it is reached (what is shared counts as often as it is met; a slice's spare places count too). A statement '..UptoSaid' is the law's where the arguments, and the package variables that the reading takes, are together of bulk at most 1048576: NARROWER than '..Said'. Prove '..Said' where nothing that the law and all that it calls make is longer than what came in: it says more and counts as full. Else prove '..UptoSaid'. A law counts once. -/
mutual
def uptoBulk {H : Type} : DataW H → Nat
  | .lit (.string bytes) => bytes.length + 1
  | .lit _ => 1
  | .nil => 1
  | .ptr d => uptoBulk d + 1
  | .slice elems spare => uptoBulkAll elems + uptoBulkAll spare + 1
  | .agg parts => uptoBulkAll parts + 1
  | .iface _ d => uptoBulk d + 1
  | .map entries => uptoBulkEntries entries + 1
  | .held _ => 1
def uptoBulkAll {H : Type} : List (DataW H) → Nat
  | [] => 0
  | d :: r => uptoBulk d + uptoBulkAll r
def uptoBulkEntries {H : Type} : List (Lit × DataW H) → Nat
  | [] => 0
  | x :: r => uptoBulkEntry x + uptoBulkEntries r
def uptoBulkEntry {H : Type} : Lit × DataW H → Nat
  | (.string bytes, d) => bytes.length + uptoBulk d + 1
  | (_, d) => uptoBulk d + 1
 end
def uptoSmall : (H : Type) → List (DataW H) → Bool := fun _ ds => decide (uptoBulkAll ds ≤ 1048576)
def OpenSpec.upto (s : _root_.Go.ChangeSpec) : _root_.Go.OpenSpec := { _root_.Go.OpenSpec.ofChange s with cond := some uptoSmall }

/-- 'laws.FnSpineSince', WHERE WHAT IT READS IS OF BULK AT MOST 1048576: true; the input reads as it did. -/
def fnSpineSinceUptoRow : OpenClaim := { program := "ytdbhgocaelmanaa", sum := "fc0a1fe48d957e3c9101b0c92bdf867ce96081beec188220269cb1aabcfdae3c", func := "loop.example/tideline/laws.FnSpineSince", spec := "fnSpineSince", unfollowed := true, recurses := true, plainKeys := false, apart := false, narrowed := true }
def FnSpineSinceUptoSaid : Prop := fnSpineSinceUptoRow.holds Try.pinned (OpenSpec.upto fnSpineSinceSpec)

/-- 'laws.FnSpineLess', WHERE WHAT IT READS IS OF BULK AT MOST 1048576: true; the input reads as it did. -/
def fnSpineLessUptoRow : OpenClaim := { program := "ytdbhgocaelmanaa", sum := "fc0a1fe48d957e3c9101b0c92bdf867ce96081beec188220269cb1aabcfdae3c", func := "loop.example/tideline/laws.FnSpineLess", spec := "fnSpineLess", unfollowed := true, recurses := true, plainKeys := false, apart := false, narrowed := true }
def FnSpineLessUptoSaid : Prop := fnSpineLessUptoRow.holds Try.pinned (OpenSpec.upto fnSpineLessSpec)

/-- 'laws.FnSpineNot', WHERE WHAT IT READS IS OF BULK AT MOST 1048576: true; the input reads as it did. -/
def fnSpineNotUptoRow : OpenClaim := { program := "ytdbhgocaelmanaa", sum := "fc0a1fe48d957e3c9101b0c92bdf867ce96081beec188220269cb1aabcfdae3c", func := "loop.example/tideline/laws.FnSpineNot", spec := "fnSpineNot", unfollowed := true, recurses := true, plainKeys := false, apart := false, narrowed := true }
def FnSpineNotUptoSaid : Prop := fnSpineNotUptoRow.holds Try.pinned (OpenSpec.upto fnSpineNotSpec)

/-- 'laws.FnSpineSinceTwice', WHERE WHAT IT READS IS OF BULK AT MOST 1048576: true; the input reads as it did. -/
def fnSpineSinceTwiceUptoRow : OpenClaim := { program := "ytdbhgocaelmanaa", sum := "fc0a1fe48d957e3c9101b0c92bdf867ce96081beec188220269cb1aabcfdae3c", func := "loop.example/tideline/laws.FnSpineSinceTwice", spec := "fnSpineSinceTwice", unfollowed := true, recurses := true, plainKeys := false, apart := false, narrowed := true }
def FnSpineSinceTwiceUptoSaid : Prop := fnSpineSinceTwiceUptoRow.holds Try.pinned (OpenSpec.upto fnSpineSinceTwiceSpec)

/-- 'laws.FnExactSpineOk', WHERE WHAT IT READS IS OF BULK AT MOST 1048576: true; the input reads as it did. -/
def fnExactSpineOkUptoRow : OpenClaim := { program := "ytdbhgocaelmanaa", sum := "fc0a1fe48d957e3c9101b0c92bdf867ce96081beec188220269cb1aabcfdae3c", func := "loop.example/tideline/laws.FnExactSpineOk", spec := "fnExactSpineOk", plainKeys := false, apart := false, narrowed := true }
def FnExactSpineOkUptoSaid : Prop := fnExactSpineOkUptoRow.holds Try.pinned (OpenSpec.upto fnExactSpineOkSpec)

/-- 'laws.FnExactSpineJoin', WHERE WHAT IT READS IS OF BULK AT MOST 1048576: true; the input reads as it did. -/
def fnExactSpineJoinUptoRow : OpenClaim := { program := "ytdbhgocaelmanaa", sum := "fc0a1fe48d957e3c9101b0c92bdf867ce96081beec188220269cb1aabcfdae3c", func := "loop.example/tideline/laws.FnExactSpineJoin", spec := "fnExactSpineJoin", unfollowed := true, recurses := true, plainKeys := false, apart := false, narrowed := true }
def FnExactSpineJoinUptoSaid : Prop := fnExactSpineJoinUptoRow.holds Try.pinned (OpenSpec.upto fnExactSpineJoinSpec)

/-- 'laws.FnExactSpineSince', WHERE WHAT IT READS IS OF BULK AT MOST 1048576: true; the input reads as it did. -/
def fnExactSpineSinceUptoRow : OpenClaim := { program := "ytdbhgocaelmanaa", sum := "fc0a1fe48d957e3c9101b0c92bdf867ce96081beec188220269cb1aabcfdae3c", func := "loop.example/tideline/laws.FnExactSpineSince", spec := "fnExactSpineSince", unfollowed := true, recurses := true, plainKeys := false, apart := false, narrowed := true }
def FnExactSpineSinceUptoSaid : Prop := fnExactSpineSinceUptoRow.holds Try.pinned (OpenSpec.upto fnExactSpineSinceSpec)

/-- 'laws.FnExactSpineAt', WHERE WHAT IT READS IS OF BULK AT MOST 1048576: true; the input reads as it did. -/
def fnExactSpineAtUptoRow : OpenClaim := { program := "ytdbhgocaelmanaa", sum := "fc0a1fe48d957e3c9101b0c92bdf867ce96081beec188220269cb1aabcfdae3c", func := "loop.example/tideline/laws.FnExactSpineAt", spec := "fnExactSpineAt", unfollowed := true, recurses := true, plainKeys := false, apart := false, narrowed := true }
def FnExactSpineAtUptoSaid : Prop := fnExactSpineAtUptoRow.holds Try.pinned (OpenSpec.upto fnExactSpineAtSpec)

/-- 'laws.FnExactSpineAll', WHERE WHAT IT READS IS OF BULK AT MOST 1048576: true; the input reads as it did. -/
def fnExactSpineAllUptoRow : OpenClaim := { program := "ytdbhgocaelmanaa", sum := "fc0a1fe48d957e3c9101b0c92bdf867ce96081beec188220269cb1aabcfdae3c", func := "loop.example/tideline/laws.FnExactSpineAll", spec := "fnExactSpineAll", unfollowed := true, recurses := true, plainKeys := false, apart := false, narrowed := true }
def FnExactSpineAllUptoSaid : Prop := fnExactSpineAllUptoRow.holds Try.pinned (OpenSpec.upto fnExactSpineAllSpec)

end Rows
end Go.Proofs.Ytdbhgocaelmanaa
