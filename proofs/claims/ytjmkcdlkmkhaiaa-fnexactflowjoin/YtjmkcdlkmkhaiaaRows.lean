/-
  No cell of these rows narrows 'for every input' (looked for: loops, veiled, ifaces, maps, wideKeys, modest, calm, conditions, laid).
  DERIVED. THE GIVEN ROWS OF THIS SEAT. 11 by the template 'for every input the law returns true; each argument reads behind the call as it read before'; 0 by the template 'total and deterministic' (their statements: YtjmkcdlkmkhaiaaTotals.lean).
  GIVEN WITH THE SEED: the statements are not yours to turn. If you find one false, say at which input.
  Laid BY PROGRAM, IN A SANDBOX (cutbox-rows.mjs): the forced cells as the released guide's own fill.sh prints them over the translation 0df636513fb5a1bc… (all of the seat's roots in one cut). By AI agents, Wed Nov 11 2026. No macro, syntax, notation, axiom, sorry.
-/
import Derived.Test.YtjmkcdlkmkhaiaaChecked
import GoSem.Claim
import GoSem.ClaimJoined
import GoSem.ClaimMapViews
import Derived.JoinedTies
import Derived.KernelRfl
namespace Go.Proofs.Ytjmkcdlkmkhaiaa
/- THE CELL 'sum', in the pinned program and in every row, IS THE sha256 OF THE DUMP (.gsa) THAT YtjmkcdlkmkhaiaaProg.lean LOADS. Nothing in Lean hashes anything: it is a label: what it is worth is what the hold of that sum in a sandbox is worth. -/
noncomputable def Try.pinned : Pinned := { name := "ytjmkcdlkmkhaiaa", sum := "0df636513fb5a1bc010a471db0188b2ae0cf117bad750c10c461963c8ea934e5", checked := Try.checked }
namespace Rows
def none {H : Type} : Left H := { results := [], args := [] }

/-- 'laws.FnSetJoin': WHATEVER THE INPUT: true; the input reads as it did. -/
def fnSetJoinSpec : ChangeSpec := { name := "fnSetJoin", fn := fun _ => fun
  | [d1, d2] => { results := [.lit (.bool true)], args := [d1, d2] }
  | _ => none }
def fnSetJoinRow : OpenClaim := { program := "ytjmkcdlkmkhaiaa", sum := "0df636513fb5a1bc010a471db0188b2ae0cf117bad750c10c461963c8ea934e5", func := "loop.example/tideline/laws.FnSetJoin", spec := "fnSetJoin", inPlace := ["math/bits.Add64"], unfollowed := true, recurses := true, plainKeys := false, apart := false }
def FnSetJoinSaid : Prop := fnSetJoinRow.holds Try.pinned (OpenSpec.ofChange fnSetJoinSpec)

/-- ITS FALSE NEIGHBOUR: 'it returns false'. Refute it at one input. -/
def fnSetJoinWrong : ChangeSpec := { name := "fnSetJoin", fn := fun _ => fun
  | [d1, d2] => { results := [.lit (.bool false)], args := [d1, d2] }
  | _ => none }
def FnSetJoinWrongFalsely : Prop := fnSetJoinRow.holds Try.pinned (OpenSpec.ofChange fnSetJoinWrong)

/-- 'laws.FnSetJoinLess': WHATEVER THE INPUT: true; the input reads as it did. -/
def fnSetJoinLessSpec : ChangeSpec := { name := "fnSetJoinLess", fn := fun _ => fun
  | [d] => { results := [.lit (.bool true)], args := [d] }
  | _ => none }
def fnSetJoinLessRow : OpenClaim := { program := "ytjmkcdlkmkhaiaa", sum := "0df636513fb5a1bc010a471db0188b2ae0cf117bad750c10c461963c8ea934e5", func := "loop.example/tideline/laws.FnSetJoinLess", spec := "fnSetJoinLess", inPlace := ["math/bits.Add64"], unfollowed := true, recurses := true, plainKeys := false, apart := false }
def FnSetJoinLessSaid : Prop := fnSetJoinLessRow.holds Try.pinned (OpenSpec.ofChange fnSetJoinLessSpec)

/-- ITS FALSE NEIGHBOUR: 'it returns false'. Refute it at one input. -/
def fnSetJoinLessWrong : ChangeSpec := { name := "fnSetJoinLess", fn := fun _ => fun
  | [d] => { results := [.lit (.bool false)], args := [d] }
  | _ => none }
def FnSetJoinLessWrongFalsely : Prop := fnSetJoinLessRow.holds Try.pinned (OpenSpec.ofChange fnSetJoinLessWrong)

/-- 'laws.FnSetJoinKeys': WHATEVER THE INPUT: true; the input reads as it did. -/
def fnSetJoinKeysSpec : ChangeSpec := { name := "fnSetJoinKeys", fn := fun _ => fun
  | [d] => { results := [.lit (.bool true)], args := [d] }
  | _ => none }
def fnSetJoinKeysRow : OpenClaim := { program := "ytjmkcdlkmkhaiaa", sum := "0df636513fb5a1bc010a471db0188b2ae0cf117bad750c10c461963c8ea934e5", func := "loop.example/tideline/laws.FnSetJoinKeys", spec := "fnSetJoinKeys", inPlace := ["math/bits.Add64"], unfollowed := true, recurses := true, plainKeys := false, apart := false }
def FnSetJoinKeysSaid : Prop := fnSetJoinKeysRow.holds Try.pinned (OpenSpec.ofChange fnSetJoinKeysSpec)

/-- ITS FALSE NEIGHBOUR: 'it returns false'. Refute it at one input. -/
def fnSetJoinKeysWrong : ChangeSpec := { name := "fnSetJoinKeys", fn := fun _ => fun
  | [d] => { results := [.lit (.bool false)], args := [d] }
  | _ => none }
def FnSetJoinKeysWrongFalsely : Prop := fnSetJoinKeysRow.holds Try.pinned (OpenSpec.ofChange fnSetJoinKeysWrong)

/-- 'laws.FnFlowEach': WHATEVER THE INPUT: true; the input reads as it did. -/
def fnFlowEachSpec : ChangeSpec := { name := "fnFlowEach", fn := fun _ => fun
  | [d] => { results := [.lit (.bool true)], args := [d] }
  | _ => none }
def fnFlowEachRow : OpenClaim := { program := "ytjmkcdlkmkhaiaa", sum := "0df636513fb5a1bc010a471db0188b2ae0cf117bad750c10c461963c8ea934e5", func := "loop.example/tideline/laws.FnFlowEach", spec := "fnFlowEach", unfollowed := true, recurses := true, plainKeys := false, apart := false }
def FnFlowEachSaid : Prop := fnFlowEachRow.holds Try.pinned (OpenSpec.ofChange fnFlowEachSpec)

/-- ITS FALSE NEIGHBOUR: 'it returns false'. Refute it at one input. -/
def fnFlowEachWrong : ChangeSpec := { name := "fnFlowEach", fn := fun _ => fun
  | [d] => { results := [.lit (.bool false)], args := [d] }
  | _ => none }
def FnFlowEachWrongFalsely : Prop := fnFlowEachRow.holds Try.pinned (OpenSpec.ofChange fnFlowEachWrong)

/-- 'laws.FnFlowJoin': WHATEVER THE INPUT: true; the input reads as it did. -/
def fnFlowJoinSpec : ChangeSpec := { name := "fnFlowJoin", fn := fun _ => fun
  | [d] => { results := [.lit (.bool true)], args := [d] }
  | _ => none }
def fnFlowJoinRow : OpenClaim := { program := "ytjmkcdlkmkhaiaa", sum := "0df636513fb5a1bc010a471db0188b2ae0cf117bad750c10c461963c8ea934e5", func := "loop.example/tideline/laws.FnFlowJoin", spec := "fnFlowJoin", inPlace := ["math/bits.Add64"], unfollowed := true, recurses := true, plainKeys := false, apart := false }
def FnFlowJoinSaid : Prop := fnFlowJoinRow.holds Try.pinned (OpenSpec.ofChange fnFlowJoinSpec)

/-- ITS FALSE NEIGHBOUR: 'it returns false'. Refute it at one input. -/
def fnFlowJoinWrong : ChangeSpec := { name := "fnFlowJoin", fn := fun _ => fun
  | [d] => { results := [.lit (.bool false)], args := [d] }
  | _ => none }
def FnFlowJoinWrongFalsely : Prop := fnFlowJoinRow.holds Try.pinned (OpenSpec.ofChange fnFlowJoinWrong)

/-- 'laws.FnFlowTimes': WHATEVER THE INPUT: true; the input reads as it did. -/
def fnFlowTimesSpec : ChangeSpec := { name := "fnFlowTimes", fn := fun _ => fun
  | [d] => { results := [.lit (.bool true)], args := [d] }
  | _ => none }
def fnFlowTimesRow : OpenClaim := { program := "ytjmkcdlkmkhaiaa", sum := "0df636513fb5a1bc010a471db0188b2ae0cf117bad750c10c461963c8ea934e5", func := "loop.example/tideline/laws.FnFlowTimes", spec := "fnFlowTimes", unfollowed := true, recurses := true, plainKeys := false, apart := false }
def FnFlowTimesSaid : Prop := fnFlowTimesRow.holds Try.pinned (OpenSpec.ofChange fnFlowTimesSpec)

/-- ITS FALSE NEIGHBOUR: 'it returns false'. Refute it at one input. -/
def fnFlowTimesWrong : ChangeSpec := { name := "fnFlowTimes", fn := fun _ => fun
  | [d] => { results := [.lit (.bool false)], args := [d] }
  | _ => none }
def FnFlowTimesWrongFalsely : Prop := fnFlowTimesRow.holds Try.pinned (OpenSpec.ofChange fnFlowTimesWrong)

/-- 'laws.FnFlowJoinBoth': WHATEVER THE INPUT: true; the input reads as it did. -/
def fnFlowJoinBothSpec : ChangeSpec := { name := "fnFlowJoinBoth", fn := fun _ => fun
  | [d1, d2] => { results := [.lit (.bool true)], args := [d1, d2] }
  | _ => none }
def fnFlowJoinBothRow : OpenClaim := { program := "ytjmkcdlkmkhaiaa", sum := "0df636513fb5a1bc010a471db0188b2ae0cf117bad750c10c461963c8ea934e5", func := "loop.example/tideline/laws.FnFlowJoinBoth", spec := "fnFlowJoinBoth", unfollowed := true, recurses := true, plainKeys := false, apart := false }
def FnFlowJoinBothSaid : Prop := fnFlowJoinBothRow.holds Try.pinned (OpenSpec.ofChange fnFlowJoinBothSpec)

/-- ITS FALSE NEIGHBOUR: 'it returns false'. Refute it at one input. -/
def fnFlowJoinBothWrong : ChangeSpec := { name := "fnFlowJoinBoth", fn := fun _ => fun
  | [d1, d2] => { results := [.lit (.bool false)], args := [d1, d2] }
  | _ => none }
def FnFlowJoinBothWrongFalsely : Prop := fnFlowJoinBothRow.holds Try.pinned (OpenSpec.ofChange fnFlowJoinBothWrong)

/-- 'laws.FnFlowEachBoth': WHATEVER THE INPUT: true; the input reads as it did. -/
def fnFlowEachBothSpec : ChangeSpec := { name := "fnFlowEachBoth", fn := fun _ => fun
  | [d1, d2] => { results := [.lit (.bool true)], args := [d1, d2] }
  | _ => none }
def fnFlowEachBothRow : OpenClaim := { program := "ytjmkcdlkmkhaiaa", sum := "0df636513fb5a1bc010a471db0188b2ae0cf117bad750c10c461963c8ea934e5", func := "loop.example/tideline/laws.FnFlowEachBoth", spec := "fnFlowEachBoth", unfollowed := true, recurses := true, plainKeys := false, apart := false }
def FnFlowEachBothSaid : Prop := fnFlowEachBothRow.holds Try.pinned (OpenSpec.ofChange fnFlowEachBothSpec)

/-- ITS FALSE NEIGHBOUR: 'it returns false'. Refute it at one input. -/
def fnFlowEachBothWrong : ChangeSpec := { name := "fnFlowEachBoth", fn := fun _ => fun
  | [d1, d2] => { results := [.lit (.bool false)], args := [d1, d2] }
  | _ => none }
def FnFlowEachBothWrongFalsely : Prop := fnFlowEachBothRow.holds Try.pinned (OpenSpec.ofChange fnFlowEachBothWrong)

/-- 'laws.FnFlowJoinTimes': WHATEVER THE INPUT: true; the input reads as it did. -/
def fnFlowJoinTimesSpec : ChangeSpec := { name := "fnFlowJoinTimes", fn := fun _ => fun
  | [d] => { results := [.lit (.bool true)], args := [d] }
  | _ => none }
def fnFlowJoinTimesRow : OpenClaim := { program := "ytjmkcdlkmkhaiaa", sum := "0df636513fb5a1bc010a471db0188b2ae0cf117bad750c10c461963c8ea934e5", func := "loop.example/tideline/laws.FnFlowJoinTimes", spec := "fnFlowJoinTimes", unfollowed := true, recurses := true, plainKeys := false, apart := false }
def FnFlowJoinTimesSaid : Prop := fnFlowJoinTimesRow.holds Try.pinned (OpenSpec.ofChange fnFlowJoinTimesSpec)

/-- ITS FALSE NEIGHBOUR: 'it returns false'. Refute it at one input. -/
def fnFlowJoinTimesWrong : ChangeSpec := { name := "fnFlowJoinTimes", fn := fun _ => fun
  | [d] => { results := [.lit (.bool false)], args := [d] }
  | _ => none }
def FnFlowJoinTimesWrongFalsely : Prop := fnFlowJoinTimesRow.holds Try.pinned (OpenSpec.ofChange fnFlowJoinTimesWrong)

/-- 'laws.FnExactFlowEach': WHATEVER THE INPUT: true; the input reads as it did. -/
def fnExactFlowEachSpec : ChangeSpec := { name := "fnExactFlowEach", fn := fun _ => fun
  | [d1, d2] => { results := [.lit (.bool true)], args := [d1, d2] }
  | _ => none }
def fnExactFlowEachRow : OpenClaim := { program := "ytjmkcdlkmkhaiaa", sum := "0df636513fb5a1bc010a471db0188b2ae0cf117bad750c10c461963c8ea934e5", func := "loop.example/tideline/laws.FnExactFlowEach", spec := "fnExactFlowEach", unfollowed := true, recurses := true, plainKeys := false, apart := false }
def FnExactFlowEachSaid : Prop := fnExactFlowEachRow.holds Try.pinned (OpenSpec.ofChange fnExactFlowEachSpec)

/-- ITS FALSE NEIGHBOUR: 'it returns false'. Refute it at one input. -/
def fnExactFlowEachWrong : ChangeSpec := { name := "fnExactFlowEach", fn := fun _ => fun
  | [d1, d2] => { results := [.lit (.bool false)], args := [d1, d2] }
  | _ => none }
def FnExactFlowEachWrongFalsely : Prop := fnExactFlowEachRow.holds Try.pinned (OpenSpec.ofChange fnExactFlowEachWrong)

/-- 'laws.FnExactFlowJoin': WHATEVER THE INPUT: true; the input reads as it did. -/
def fnExactFlowJoinSpec : ChangeSpec := { name := "fnExactFlowJoin", fn := fun _ => fun
  | [d1, d2] => { results := [.lit (.bool true)], args := [d1, d2] }
  | _ => none }
def fnExactFlowJoinRow : OpenClaim := { program := "ytjmkcdlkmkhaiaa", sum := "0df636513fb5a1bc010a471db0188b2ae0cf117bad750c10c461963c8ea934e5", func := "loop.example/tideline/laws.FnExactFlowJoin", spec := "fnExactFlowJoin", unfollowed := true, recurses := true, plainKeys := false, apart := false }
def FnExactFlowJoinSaid : Prop := fnExactFlowJoinRow.holds Try.pinned (OpenSpec.ofChange fnExactFlowJoinSpec)

/-- ITS FALSE NEIGHBOUR: 'it returns false'. Refute it at one input. -/
def fnExactFlowJoinWrong : ChangeSpec := { name := "fnExactFlowJoin", fn := fun _ => fun
  | [d1, d2] => { results := [.lit (.bool false)], args := [d1, d2] }
  | _ => none }
def FnExactFlowJoinWrongFalsely : Prop := fnExactFlowJoinRow.holds Try.pinned (OpenSpec.ofChange fnExactFlowJoinWrong)

/- THE SECOND FORM. 'bulk': how many values and letters a reading holds, each counted each time it is reached (what is shared counts as often as it is met; a slice's spare places count too). A statement '..UptoSaid' is the law's where the arguments, and the package variables that the reading takes, are together of bulk at most 1048576: NARROWER than '..Said'. Prove '..Said' where nothing that the law and all that it calls make is longer than what came in: it says more and counts as full. Else prove '..UptoSaid'. A law counts once. -/
mutual
def uptoBulk {H : Type} : DataW H → Nat
  | .lit (.string bytes) => bytes.length + 1
  | .lit _ => 1
  | .nil => 1
  | .ptr d => uptoBulk d + 1
  | .slice elems spare => uptoBulkAll elems + uptoBulkAll spare + 1
  | .agg parts => uptoBulkAll parts + 1
  | .iface _ d => uptoBulk d + 1
  | .map entries => uptoBulkEntries entries + 1
  | .held _ => 1
def uptoBulkAll {H : Type} : List (DataW H) → Nat
  | [] => 0
  | d :: r => uptoBulk d + uptoBulkAll r
def uptoBulkEntries {H : Type} : List (Lit × DataW H) → Nat
  | [] => 0
  | x :: r => uptoBulkEntry x + uptoBulkEntries r
def uptoBulkEntry {H : Type} : Lit × DataW H → Nat
  | (.string bytes, d) => bytes.length + uptoBulk d + 1
  | (_, d) => uptoBulk d + 1
 end
def uptoSmall : (H : Type) → List (DataW H) → Bool := fun _ ds => decide (uptoBulkAll ds ≤ 1048576)
def OpenSpec.upto (s : _root_.Go.ChangeSpec) : _root_.Go.OpenSpec := { _root_.Go.OpenSpec.ofChange s with cond := some uptoSmall }

/-- 'laws.FnSetJoin', WHERE WHAT IT READS IS OF BULK AT MOST 1048576: true; the input reads as it did. -/
def fnSetJoinUptoRow : OpenClaim := { program := "ytjmkcdlkmkhaiaa", sum := "0df636513fb5a1bc010a471db0188b2ae0cf117bad750c10c461963c8ea934e5", func := "loop.example/tideline/laws.FnSetJoin", spec := "fnSetJoin", inPlace := ["math/bits.Add64"], unfollowed := true, recurses := true, plainKeys := false, apart := false, narrowed := true }
def FnSetJoinUptoSaid : Prop := fnSetJoinUptoRow.holds Try.pinned (OpenSpec.upto fnSetJoinSpec)

/-- 'laws.FnSetJoinLess', WHERE WHAT IT READS IS OF BULK AT MOST 1048576: true; the input reads as it did. -/
def fnSetJoinLessUptoRow : OpenClaim := { program := "ytjmkcdlkmkhaiaa", sum := "0df636513fb5a1bc010a471db0188b2ae0cf117bad750c10c461963c8ea934e5", func := "loop.example/tideline/laws.FnSetJoinLess", spec := "fnSetJoinLess", inPlace := ["math/bits.Add64"], unfollowed := true, recurses := true, plainKeys := false, apart := false, narrowed := true }
def FnSetJoinLessUptoSaid : Prop := fnSetJoinLessUptoRow.holds Try.pinned (OpenSpec.upto fnSetJoinLessSpec)

/-- 'laws.FnSetJoinKeys', WHERE WHAT IT READS IS OF BULK AT MOST 1048576: true; the input reads as it did. -/
def fnSetJoinKeysUptoRow : OpenClaim := { program := "ytjmkcdlkmkhaiaa", sum := "0df636513fb5a1bc010a471db0188b2ae0cf117bad750c10c461963c8ea934e5", func := "loop.example/tideline/laws.FnSetJoinKeys", spec := "fnSetJoinKeys", inPlace := ["math/bits.Add64"], unfollowed := true, recurses := true, plainKeys := false, apart := false, narrowed := true }
def FnSetJoinKeysUptoSaid : Prop := fnSetJoinKeysUptoRow.holds Try.pinned (OpenSpec.upto fnSetJoinKeysSpec)

/-- 'laws.FnFlowEach', WHERE WHAT IT READS IS OF BULK AT MOST 1048576: true; the input reads as it did. -/
def fnFlowEachUptoRow : OpenClaim := { program := "ytjmkcdlkmkhaiaa", sum := "0df636513fb5a1bc010a471db0188b2ae0cf117bad750c10c461963c8ea934e5", func := "loop.example/tideline/laws.FnFlowEach", spec := "fnFlowEach", unfollowed := true, recurses := true, plainKeys := false, apart := false, narrowed := true }
def FnFlowEachUptoSaid : Prop := fnFlowEachUptoRow.holds Try.pinned (OpenSpec.upto fnFlowEachSpec)

/-- 'laws.FnFlowJoin', WHERE WHAT IT READS IS OF BULK AT MOST 1048576: true; the input reads as it did. -/
def fnFlowJoinUptoRow : OpenClaim := { program := "ytjmkcdlkmkhaiaa", sum := "0df636513fb5a1bc010a471db0188b2ae0cf117bad750c10c461963c8ea934e5", func := "loop.example/tideline/laws.FnFlowJoin", spec := "fnFlowJoin", inPlace := ["math/bits.Add64"], unfollowed := true, recurses := true, plainKeys := false, apart := false, narrowed := true }
def FnFlowJoinUptoSaid : Prop := fnFlowJoinUptoRow.holds Try.pinned (OpenSpec.upto fnFlowJoinSpec)

/-- 'laws.FnFlowTimes', WHERE WHAT IT READS IS OF BULK AT MOST 1048576: true; the input reads as it did. -/
def fnFlowTimesUptoRow : OpenClaim := { program := "ytjmkcdlkmkhaiaa", sum := "0df636513fb5a1bc010a471db0188b2ae0cf117bad750c10c461963c8ea934e5", func := "loop.example/tideline/laws.FnFlowTimes", spec := "fnFlowTimes", unfollowed := true, recurses := true, plainKeys := false, apart := false, narrowed := true }
def FnFlowTimesUptoSaid : Prop := fnFlowTimesUptoRow.holds Try.pinned (OpenSpec.upto fnFlowTimesSpec)

/-- 'laws.FnFlowJoinBoth', WHERE WHAT IT READS IS OF BULK AT MOST 1048576: true; the input reads as it did. -/
def fnFlowJoinBothUptoRow : OpenClaim := { program := "ytjmkcdlkmkhaiaa", sum := "0df636513fb5a1bc010a471db0188b2ae0cf117bad750c10c461963c8ea934e5", func := "loop.example/tideline/laws.FnFlowJoinBoth", spec := "fnFlowJoinBoth", unfollowed := true, recurses := true, plainKeys := false, apart := false, narrowed := true }
def FnFlowJoinBothUptoSaid : Prop := fnFlowJoinBothUptoRow.holds Try.pinned (OpenSpec.upto fnFlowJoinBothSpec)

/-- 'laws.FnFlowEachBoth', WHERE WHAT IT READS IS OF BULK AT MOST 1048576: true; the input reads as it did. -/
def fnFlowEachBothUptoRow : OpenClaim := { program := "ytjmkcdlkmkhaiaa", sum := "0df636513fb5a1bc010a471db0188b2ae0cf117bad750c10c461963c8ea934e5", func := "loop.example/tideline/laws.FnFlowEachBoth", spec := "fnFlowEachBoth", unfollowed := true, recurses := true, plainKeys := false, apart := false, narrowed := true }
def FnFlowEachBothUptoSaid : Prop := fnFlowEachBothUptoRow.holds Try.pinned (OpenSpec.upto fnFlowEachBothSpec)

/-- 'laws.FnFlowJoinTimes', WHERE WHAT IT READS IS OF BULK AT MOST 1048576: true; the input reads as it did. -/
def fnFlowJoinTimesUptoRow : OpenClaim := { program := "ytjmkcdlkmkhaiaa", sum := "0df636513fb5a1bc010a471db0188b2ae0cf117bad750c10c461963c8ea934e5", func := "loop.example/tideline/laws.FnFlowJoinTimes", spec := "fnFlowJoinTimes", unfollowed := true, recurses := true, plainKeys := false, apart := false, narrowed := true }
def FnFlowJoinTimesUptoSaid : Prop := fnFlowJoinTimesUptoRow.holds Try.pinned (OpenSpec.upto fnFlowJoinTimesSpec)

/-- 'laws.FnExactFlowEach', WHERE WHAT IT READS IS OF BULK AT MOST 1048576: true; the input reads as it did. -/
def fnExactFlowEachUptoRow : OpenClaim := { program := "ytjmkcdlkmkhaiaa", sum := "0df636513fb5a1bc010a471db0188b2ae0cf117bad750c10c461963c8ea934e5", func := "loop.example/tideline/laws.FnExactFlowEach", spec := "fnExactFlowEach", unfollowed := true, recurses := true, plainKeys := false, apart := false, narrowed := true }
def FnExactFlowEachUptoSaid : Prop := fnExactFlowEachUptoRow.holds Try.pinned (OpenSpec.upto fnExactFlowEachSpec)

/-- 'laws.FnExactFlowJoin', WHERE WHAT IT READS IS OF BULK AT MOST 1048576: true; the input reads as it did. -/
def fnExactFlowJoinUptoRow : OpenClaim := { program := "ytjmkcdlkmkhaiaa", sum := "0df636513fb5a1bc010a471db0188b2ae0cf117bad750c10c461963c8ea934e5", func := "loop.example/tideline/laws.FnExactFlowJoin", spec := "fnExactFlowJoin", unfollowed := true, recurses := true, plainKeys := false, apart := false, narrowed := true }
def FnExactFlowJoinUptoSaid : Prop := fnExactFlowJoinUptoRow.holds Try.pinned (OpenSpec.upto fnExactFlowJoinSpec)

end Rows
end Go.Proofs.Ytjmkcdlkmkhaiaa
