/-
  No cell of these rows narrows 'for every input' (looked for: loops, veiled, ifaces, maps, wideKeys, modest, calm, conditions, laid).
  DERIVED. THE GIVEN ROWS OF THIS SEAT. 4 by the template 'for every input the law returns true; each argument reads behind the call as it read before'; 0 by the template 'total and deterministic' (their statements: YtjkojbafifbdgaaGreatTotals.lean).
  GIVEN WITH THE SEED: the statements are not yours to turn. If you find one false, say at which input.
  Laid BY PROGRAM, IN A SANDBOX (cutbox-rows.mjs): the forced cells as the released guide's own fill.sh prints them over the translation 9843592fc69d3884… (all of the seat's roots in one cut). By AI agents, Wed Nov 11 2026. No macro, syntax, notation, axiom, sorry.
-/
import Derived.Test.YtjkojbafifbdgaaGreatChecked
import GoSem.Claim
import GoSem.ClaimJoined
import GoSem.ClaimMapViews
import Derived.JoinedTies
import Derived.KernelRfl
namespace Go.Proofs.YtjkojbafifbdgaaGreat
/- THE CELL 'sum', in the pinned program and in every row, IS THE sha256 OF THE DUMP (.gsa) THAT YtjkojbafifbdgaaGreatProg.lean LOADS. Nothing in Lean hashes anything: it is a label: what it is worth is what the hold of that sum in a sandbox is worth. -/
noncomputable def Tryz.pinned : Pinned := { name := "ytjkojbafifbdgaagreat", sum := "9843592fc69d3884802da6f15b29df7df129735e1cb9ae7b5dae24b9c6275b61", checked := Tryz.checked }
namespace Rows
def none {H : Type} : Left H := { results := [], args := [] }

/-- 'laws.FnSpineDown': WHATEVER THE INPUT: true; the input reads as it did. -/
def fnSpineDownSpec : ChangeSpec := { name := "fnSpineDown", fn := fun _ => fun
  | [d] => { results := [.lit (.bool true)], args := [d] }
  | _ => none }
def fnSpineDownRow : OpenClaim := { program := "ytjkojbafifbdgaagreat", sum := "9843592fc69d3884802da6f15b29df7df129735e1cb9ae7b5dae24b9c6275b61", func := "loop.example/tideline/laws.FnSpineDown", spec := "fnSpineDown", unfollowed := true, recurses := true, plainKeys := false, apart := false }
def FnSpineDownSaid : Prop := fnSpineDownRow.holds Tryz.pinned (OpenSpec.ofChange fnSpineDownSpec)

/-- ITS FALSE NEIGHBOUR: 'it returns false'. Refute it at one input. -/
def fnSpineDownWrong : ChangeSpec := { name := "fnSpineDown", fn := fun _ => fun
  | [d] => { results := [.lit (.bool false)], args := [d] }
  | _ => none }
def FnSpineDownWrongFalsely : Prop := fnSpineDownRow.holds Tryz.pinned (OpenSpec.ofChange fnSpineDownWrong)

/-- 'laws.FnSpineOk': WHATEVER THE INPUT: true; the input reads as it did. -/
def fnSpineOkSpec : ChangeSpec := { name := "fnSpineOk", fn := fun _ => fun
  | [d1, d2] => { results := [.lit (.bool true)], args := [d1, d2] }
  | _ => none }
def fnSpineOkRow : OpenClaim := { program := "ytjkojbafifbdgaagreat", sum := "9843592fc69d3884802da6f15b29df7df129735e1cb9ae7b5dae24b9c6275b61", func := "loop.example/tideline/laws.FnSpineOk", spec := "fnSpineOk", unfollowed := true, recurses := true, plainKeys := false, apart := false }
def FnSpineOkSaid : Prop := fnSpineOkRow.holds Tryz.pinned (OpenSpec.ofChange fnSpineOkSpec)

/-- ITS FALSE NEIGHBOUR: 'it returns false'. Refute it at one input. -/
def fnSpineOkWrong : ChangeSpec := { name := "fnSpineOk", fn := fun _ => fun
  | [d1, d2] => { results := [.lit (.bool false)], args := [d1, d2] }
  | _ => none }
def FnSpineOkWrongFalsely : Prop := fnSpineOkRow.holds Tryz.pinned (OpenSpec.ofChange fnSpineOkWrong)

/-- 'laws.FnSpineEmpty': WHATEVER THE INPUT: true; the input reads as it did. -/
def fnSpineEmptySpec : ChangeSpec := { name := "fnSpineEmpty", fn := fun _ => fun
  | [d] => { results := [.lit (.bool true)], args := [d] }
  | _ => none }
def fnSpineEmptyRow : OpenClaim := { program := "ytjkojbafifbdgaagreat", sum := "9843592fc69d3884802da6f15b29df7df129735e1cb9ae7b5dae24b9c6275b61", func := "loop.example/tideline/laws.FnSpineEmpty", spec := "fnSpineEmpty", unfollowed := true, recurses := true, plainKeys := false, apart := false }
def FnSpineEmptySaid : Prop := fnSpineEmptyRow.holds Tryz.pinned (OpenSpec.ofChange fnSpineEmptySpec)

/-- ITS FALSE NEIGHBOUR: 'it returns false'. Refute it at one input. -/
def fnSpineEmptyWrong : ChangeSpec := { name := "fnSpineEmpty", fn := fun _ => fun
  | [d] => { results := [.lit (.bool false)], args := [d] }
  | _ => none }
def FnSpineEmptyWrongFalsely : Prop := fnSpineEmptyRow.holds Tryz.pinned (OpenSpec.ofChange fnSpineEmptyWrong)

/-- 'laws.FnExactSpineIn': WHATEVER THE INPUT: true; the input reads as it did. -/
def fnExactSpineInSpec : ChangeSpec := { name := "fnExactSpineIn", fn := fun _ => fun
  | [d1, d2] => { results := [.lit (.bool true)], args := [d1, d2] }
  | _ => none }
def fnExactSpineInRow : OpenClaim := { program := "ytjkojbafifbdgaagreat", sum := "9843592fc69d3884802da6f15b29df7df129735e1cb9ae7b5dae24b9c6275b61", func := "loop.example/tideline/laws.FnExactSpineIn", spec := "fnExactSpineIn", unfollowed := true, recurses := true, plainKeys := false, apart := false }
def FnExactSpineInSaid : Prop := fnExactSpineInRow.holds Tryz.pinned (OpenSpec.ofChange fnExactSpineInSpec)

/-- ITS FALSE NEIGHBOUR: 'it returns false'. Refute it at one input. -/
def fnExactSpineInWrong : ChangeSpec := { name := "fnExactSpineIn", fn := fun _ => fun
  | [d1, d2] => { results := [.lit (.bool false)], args := [d1, d2] }
  | _ => none }
def FnExactSpineInWrongFalsely : Prop := fnExactSpineInRow.holds Tryz.pinned (OpenSpec.ofChange fnExactSpineInWrong)

/- THE SECOND FORM. 'bulk': how many values and letters a reading holds, each counted each time it is reached (what is shared counts as often as it is met; a slice's spare places count too). A statement '..UptoSaid' is the law's where the arguments, and the package variables that the reading takes, are together of bulk at most 1048576: NARROWER than '..Said'. Prove '..Said' where nothing that the law and all that it calls make is longer than what came in: it says more and counts as full. Else prove '..UptoSaid'. A law counts once. -/
mutual
def uptoBulk {H : Type} : DataW H → Nat
  | .lit (.string bytes) => bytes.length + 1
  | .lit _ => 1
  | .nil => 1
  | .ptr d => uptoBulk d + 1
  | .slice elems spare => uptoBulkAll elems + uptoBulkAll spare + 1
  | .agg parts => uptoBulkAll parts + 1
  | .iface _ d => uptoBulk d + 1
  | .map entries => uptoBulkEntries entries + 1
  | .held _ => 1
def uptoBulkAll {H : Type} : List (DataW H) → Nat
  | [] => 0
  | d :: r => uptoBulk d + uptoBulkAll r
def uptoBulkEntries {H : Type} : List (Lit × DataW H) → Nat
  | [] => 0
  | x :: r => uptoBulkEntry x + uptoBulkEntries r
def uptoBulkEntry {H : Type} : Lit × DataW H → Nat
  | (.string bytes, d) => bytes.length + uptoBulk d + 1
  | (_, d) => uptoBulk d + 1
 end
def uptoSmall : (H : Type) → List (DataW H) → Bool := fun _ ds => decide (uptoBulkAll ds ≤ 1048576)
def OpenSpec.upto (s : _root_.Go.ChangeSpec) : _root_.Go.OpenSpec := { _root_.Go.OpenSpec.ofChange s with cond := some uptoSmall }

/-- 'laws.FnSpineDown', WHERE WHAT IT READS IS OF BULK AT MOST 1048576: true; the input reads as it did. -/
def fnSpineDownUptoRow : OpenClaim := { program := "ytjkojbafifbdgaagreat", sum := "9843592fc69d3884802da6f15b29df7df129735e1cb9ae7b5dae24b9c6275b61", func := "loop.example/tideline/laws.FnSpineDown", spec := "fnSpineDown", unfollowed := true, recurses := true, plainKeys := false, apart := false, narrowed := true }
def FnSpineDownUptoSaid : Prop := fnSpineDownUptoRow.holds Tryz.pinned (OpenSpec.upto fnSpineDownSpec)

/-- 'laws.FnSpineOk', WHERE WHAT IT READS IS OF BULK AT MOST 1048576: true; the input reads as it did. -/
def fnSpineOkUptoRow : OpenClaim := { program := "ytjkojbafifbdgaagreat", sum := "9843592fc69d3884802da6f15b29df7df129735e1cb9ae7b5dae24b9c6275b61", func := "loop.example/tideline/laws.FnSpineOk", spec := "fnSpineOk", unfollowed := true, recurses := true, plainKeys := false, apart := false, narrowed := true }
def FnSpineOkUptoSaid : Prop := fnSpineOkUptoRow.holds Tryz.pinned (OpenSpec.upto fnSpineOkSpec)

/-- 'laws.FnSpineEmpty', WHERE WHAT IT READS IS OF BULK AT MOST 1048576: true; the input reads as it did. -/
def fnSpineEmptyUptoRow : OpenClaim := { program := "ytjkojbafifbdgaagreat", sum := "9843592fc69d3884802da6f15b29df7df129735e1cb9ae7b5dae24b9c6275b61", func := "loop.example/tideline/laws.FnSpineEmpty", spec := "fnSpineEmpty", unfollowed := true, recurses := true, plainKeys := false, apart := false, narrowed := true }
def FnSpineEmptyUptoSaid : Prop := fnSpineEmptyUptoRow.holds Tryz.pinned (OpenSpec.upto fnSpineEmptySpec)

/-- 'laws.FnExactSpineIn', WHERE WHAT IT READS IS OF BULK AT MOST 1048576: true; the input reads as it did. -/
def fnExactSpineInUptoRow : OpenClaim := { program := "ytjkojbafifbdgaagreat", sum := "9843592fc69d3884802da6f15b29df7df129735e1cb9ae7b5dae24b9c6275b61", func := "loop.example/tideline/laws.FnExactSpineIn", spec := "fnExactSpineIn", unfollowed := true, recurses := true, plainKeys := false, apart := false, narrowed := true }
def FnExactSpineInUptoSaid : Prop := fnExactSpineInUptoRow.holds Tryz.pinned (OpenSpec.upto fnExactSpineInSpec)

end Rows
end Go.Proofs.YtjkojbafifbdgaaGreat
