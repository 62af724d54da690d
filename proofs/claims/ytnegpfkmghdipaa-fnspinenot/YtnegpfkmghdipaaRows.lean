/-
  No cell of these rows narrows 'for every input' (looked for: loops, veiled, ifaces, maps, wideKeys, modest, calm, conditions, laid).
  DERIVED. THE GIVEN ROWS OF THIS SEAT. 4 by the template 'for every input the law returns true; each argument reads behind the call as it read before'; 0 by the template 'total and deterministic' (their statements: YtnegpfkmghdipaaTotals.lean).
  GIVEN WITH THE SEED: the statements are not yours to turn. If you find one false, say at which input.
  Laid BY PROGRAM, IN A SANDBOX (cutbox-rows.mjs): the forced cells as the released guide's own fill.sh prints them over the translation 9442fc7228d40488… (all of the seat's roots in one cut). By AI agents, Wed Nov 11 2026. No macro, syntax, notation, axiom, sorry.
-/
import Derived.Test.YtnegpfkmghdipaaChecked
import GoSem.Claim
import GoSem.ClaimJoined
import GoSem.ClaimMapViews
import Derived.JoinedTies
import Derived.KernelRfl
namespace Go.Proofs.Ytnegpfkmghdipaa
/- THE CELL 'sum', in the pinned program and in every row, IS THE sha256 OF THE DUMP (.gsa) THAT YtnegpfkmghdipaaProg.lean LOADS. Nothing in Lean hashes anything: it is a label: what it is worth is what the hold of that sum in a sandbox is worth. -/
noncomputable def Try.pinned : Pinned := { name := "ytnegpfkmghdipaa", sum := "9442fc7228d40488ade6c57f27e6c0757f6624630fdee768ba04440f214de60c", checked := Try.checked }
namespace Rows
def none {H : Type} : Left H := { results := [], args := [] }

/-- 'laws.FnSpineSince': WHATEVER THE INPUT: true; the input reads as it did. -/
def fnSpineSinceSpec : ChangeSpec := { name := "fnSpineSince", fn := fun _ => fun
  | [d] => { results := [.lit (.bool true)], args := [d] }
  | _ => none }
def fnSpineSinceRow : OpenClaim := { program := "ytnegpfkmghdipaa", sum := "9442fc7228d40488ade6c57f27e6c0757f6624630fdee768ba04440f214de60c", func := "loop.example/tideline/laws.FnSpineSince", spec := "fnSpineSince", unfollowed := true, recurses := true, plainKeys := false, apart := false }
def FnSpineSinceSaid : Prop := fnSpineSinceRow.holds Try.pinned (OpenSpec.ofChange fnSpineSinceSpec)

/-- ITS FALSE NEIGHBOUR: 'it returns false'. Refute it at one input. -/
def fnSpineSinceWrong : ChangeSpec := { name := "fnSpineSince", fn := fun _ => fun
  | [d] => { results := [.lit (.bool false)], args := [d] }
  | _ => none }
def FnSpineSinceWrongFalsely : Prop := fnSpineSinceRow.holds Try.pinned (OpenSpec.ofChange fnSpineSinceWrong)

/-- 'laws.FnSpineLess': WHATEVER THE INPUT: true; the input reads as it did. -/
def fnSpineLessSpec : ChangeSpec := { name := "fnSpineLess", fn := fun _ => fun
  | [d] => { results := [.lit (.bool true)], args := [d] }
  | _ => none }
def fnSpineLessRow : OpenClaim := { program := "ytnegpfkmghdipaa", sum := "9442fc7228d40488ade6c57f27e6c0757f6624630fdee768ba04440f214de60c", func := "loop.example/tideline/laws.FnSpineLess", spec := "fnSpineLess", unfollowed := true, recurses := true, plainKeys := false, apart := false }
def FnSpineLessSaid : Prop := fnSpineLessRow.holds Try.pinned (OpenSpec.ofChange fnSpineLessSpec)

/-- ITS FALSE NEIGHBOUR: 'it returns false'. Refute it at one input. -/
def fnSpineLessWrong : ChangeSpec := { name := "fnSpineLess", fn := fun _ => fun
  | [d] => { results := [.lit (.bool false)], args := [d] }
  | _ => none }
def FnSpineLessWrongFalsely : Prop := fnSpineLessRow.holds Try.pinned (OpenSpec.ofChange fnSpineLessWrong)

/-- 'laws.FnSpineNot': WHATEVER THE INPUT: true; the input reads as it did. -/
def fnSpineNotSpec : ChangeSpec := { name := "fnSpineNot", fn := fun _ => fun
  | [d] => { results := [.lit (.bool true)], args := [d] }
  | _ => none }
def fnSpineNotRow : OpenClaim := { program := "ytnegpfkmghdipaa", sum := "9442fc7228d40488ade6c57f27e6c0757f6624630fdee768ba04440f214de60c", func := "loop.example/tideline/laws.FnSpineNot", spec := "fnSpineNot", unfollowed := true, recurses := true, plainKeys := false, apart := false }
def FnSpineNotSaid : Prop := fnSpineNotRow.holds Try.pinned (OpenSpec.ofChange fnSpineNotSpec)

/-- ITS FALSE NEIGHBOUR: 'it returns false'. Refute it at one input. -/
def fnSpineNotWrong : ChangeSpec := { name := "fnSpineNot", fn := fun _ => fun
  | [d] => { results := [.lit (.bool false)], args := [d] }
  | _ => none }
def FnSpineNotWrongFalsely : Prop := fnSpineNotRow.holds Try.pinned (OpenSpec.ofChange fnSpineNotWrong)

/-- 'laws.FnSpineSinceTwice': WHATEVER THE INPUT: true; the input reads as it did. -/
def fnSpineSinceTwiceSpec : ChangeSpec := { name := "fnSpineSinceTwice", fn := fun _ => fun
  | [d] => { results := [.lit (.bool true)], args := [d] }
  | _ => none }
def fnSpineSinceTwiceRow : OpenClaim := { program := "ytnegpfkmghdipaa", sum := "9442fc7228d40488ade6c57f27e6c0757f6624630fdee768ba04440f214de60c", func := "loop.example/tideline/laws.FnSpineSinceTwice", spec := "fnSpineSinceTwice", unfollowed := true, recurses := true, plainKeys := false, apart := false }
def FnSpineSinceTwiceSaid : Prop := fnSpineSinceTwiceRow.holds Try.pinned (OpenSpec.ofChange fnSpineSinceTwiceSpec)

/-- ITS FALSE NEIGHBOUR: 'it returns false'. Refute it at one input. -/
def fnSpineSinceTwiceWrong : ChangeSpec := { name := "fnSpineSinceTwice", fn := fun _ => fun
  | [d] => { results := [.lit (.bool false)], args := [d] }
  | _ => none }
def FnSpineSinceTwiceWrongFalsely : Prop := fnSpineSinceTwiceRow.holds Try.pinned (OpenSpec.ofChange fnSpineSinceTwiceWrong)

/- THE SECOND FORM. 'bulk': how many values and letters a reading holds, each counted each time it is reached (what is shared counts as often as it is met; a slice's spare places count too). A statement '..UptoSaid' is the law's where the arguments, and the package variables that the reading takes, are together of bulk at most 1048576: NARROWER than '..Said'. Prove '..Said' where nothing that the law and all that it calls make is longer than what came in: it says more and counts as full. Else prove '..UptoSaid'. A law counts once. -/
mutual
def uptoBulk {H : Type} : DataW H → Nat
  | .lit (.string bytes) => bytes.length + 1
  | .lit _ => 1
  | .nil => 1
  | .ptr d => uptoBulk d + 1
  | .slice elems spare => uptoBulkAll elems + uptoBulkAll spare + 1
  | .agg parts => uptoBulkAll parts + 1
  | .iface _ d => uptoBulk d + 1
  | .map entries => uptoBulkEntries entries + 1
  | .held _ => 1
def uptoBulkAll {H : Type} : List (DataW H) → Nat
  | [] => 0
  | d :: r => uptoBulk d + uptoBulkAll r
def uptoBulkEntries {H : Type} : List (Lit × DataW H) → Nat
  | [] => 0
  | x :: r => uptoBulkEntry x + uptoBulkEntries r
def uptoBulkEntry {H : Type} : Lit × DataW H → Nat
  | (.string bytes, d) => bytes.length + uptoBulk d + 1
  | (_, d) => uptoBulk d + 1
 end
def uptoSmall : (H : Type) → List (DataW H) → Bool := fun _ ds => decide (uptoBulkAll ds ≤ 1048576)
def OpenSpec.upto (s : _root_.Go.ChangeSpec) : _root_.Go.OpenSpec := { _root_.Go.OpenSpec.ofChange s with cond := some uptoSmall }

/-- 'laws.FnSpineSince', WHERE WHAT IT READS IS OF BULK AT MOST 1048576: true; the input reads as it did. -/
def fnSpineSinceUptoRow : OpenClaim := { program := "ytnegpfkmghdipaa", sum := "9442fc7228d40488ade6c57f27e6c0757f6624630fdee768ba04440f214de60c", func := "loop.example/tideline/laws.FnSpineSince", spec := "fnSpineSince", unfollowed := true, recurses := true, plainKeys := false, apart := false, narrowed := true }
def FnSpineSinceUptoSaid : Prop := fnSpineSinceUptoRow.holds Try.pinned (OpenSpec.upto fnSpineSinceSpec)

/-- 'laws.FnSpineLess', WHERE WHAT IT READS IS OF BULK AT MOST 1048576: true; the input reads as it did. -/
def fnSpineLessUptoRow : OpenClaim := { program := "ytnegpfkmghdipaa", sum := "9442fc7228d40488ade6c57f27e6c0757f6624630fdee768ba04440f214de60c", func := "loop.example/tideline/laws.FnSpineLess", spec := "fnSpineLess", unfollowed := true, recurses := true, plainKeys := false, apart := false, narrowed := true }
def FnSpineLessUptoSaid : Prop := fnSpineLessUptoRow.holds Try.pinned (OpenSpec.upto fnSpineLessSpec)

/-- 'laws.FnSpineNot', WHERE WHAT IT READS IS OF BULK AT MOST 1048576: true; the input reads as it did. -/
def fnSpineNotUptoRow : OpenClaim := { program := "ytnegpfkmghdipaa", sum := "9442fc7228d40488ade6c57f27e6c0757f6624630fdee768ba04440f214de60c", func := "loop.example/tideline/laws.FnSpineNot", spec := "fnSpineNot", unfollowed := true, recurses := true, plainKeys := false, apart := false, narrowed := true }
def FnSpineNotUptoSaid : Prop := fnSpineNotUptoRow.holds Try.pinned (OpenSpec.upto fnSpineNotSpec)

/-- 'laws.FnSpineSinceTwice', WHERE WHAT IT READS IS OF BULK AT MOST 1048576: true; the input reads as it did. -/
def fnSpineSinceTwiceUptoRow : OpenClaim := { program := "ytnegpfkmghdipaa", sum := "9442fc7228d40488ade6c57f27e6c0757f6624630fdee768ba04440f214de60c", func := "loop.example/tideline/laws.FnSpineSinceTwice", spec := "fnSpineSinceTwice", unfollowed := true, recurses := true, plainKeys := false, apart := false, narrowed := true }
def FnSpineSinceTwiceUptoSaid : Prop := fnSpineSinceTwiceUptoRow.holds Try.pinned (OpenSpec.upto fnSpineSinceTwiceSpec)

end Rows
end Go.Proofs.Ytnegpfkmghdipaa
