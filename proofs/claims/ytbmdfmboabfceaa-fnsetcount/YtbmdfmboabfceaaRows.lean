/-
  No cell of these rows narrows 'for every input' (looked for: loops, veiled, ifaces, maps, wideKeys, modest, calm, conditions, laid).
  DERIVED. THE GIVEN ROWS OF THIS SEAT. 31 by the template 'for every input the law returns true; each argument reads behind the call as it read before'; 0 by the template 'total and deterministic' (their statements: YtbmdfmboabfceaaTotals.lean).
  GIVEN WITH THE SEED: the statements are not yours to turn. If you find one false, say at which input.
  Laid BY PROGRAM, IN A SANDBOX (cutbox-rows.mjs): the forced cells as the released guide's own fill.sh prints them over the translation d00794eadf14e21c… (all of the seat's roots in one cut). By AI agents, Wed Nov 11 2026. No macro, syntax, notation, axiom, sorry.
-/
import Derived.Test.YtbmdfmboabfceaaChecked
import GoSem.Claim
import GoSem.ClaimJoined
import GoSem.ClaimMapViews
import Derived.JoinedTies
import Derived.KernelRfl
namespace Go.Proofs.Ytbmdfmboabfceaa
/- THE CELL 'sum', in the pinned program and in every row, IS THE sha256 OF THE DUMP (.gsa) THAT YtbmdfmboabfceaaProg.lean LOADS. Nothing in Lean hashes anything: it is a label: what it is worth is what the hold of that sum in a sandbox is worth. -/
noncomputable def Try.pinned : Pinned := { name := "ytbmdfmboabfceaa", sum := "d00794eadf14e21c2624566f5ce0794ead6d02157691fce8625ddcf273d18dff", checked := Try.checked }
namespace Rows
def none {H : Type} : Left H := { results := [], args := [] }

/-- 'laws.FnBatchOf': WHATEVER THE INPUT: true; the input reads as it did. -/
def fnBatchOfSpec : ChangeSpec := { name := "fnBatchOf", fn := fun _ => fun
  | [d] => { results := [.lit (.bool true)], args := [d] }
  | _ => none }
def fnBatchOfRow : OpenClaim := { program := "ytbmdfmboabfceaa", sum := "d00794eadf14e21c2624566f5ce0794ead6d02157691fce8625ddcf273d18dff", func := "loop.example/tideline/laws.FnBatchOf", spec := "fnBatchOf", unfollowed := true, recurses := true, plainKeys := false, apart := false }
def FnBatchOfSaid : Prop := fnBatchOfRow.holds Try.pinned (OpenSpec.ofChange fnBatchOfSpec)

/-- ITS FALSE NEIGHBOUR: 'it returns false'. Refute it at one input. -/
def fnBatchOfWrong : ChangeSpec := { name := "fnBatchOf", fn := fun _ => fun
  | [d] => { results := [.lit (.bool false)], args := [d] }
  | _ => none }
def FnBatchOfWrongFalsely : Prop := fnBatchOfRow.holds Try.pinned (OpenSpec.ofChange fnBatchOfWrong)

/-- 'laws.FnBatchTwice': WHATEVER THE INPUT: true; the input reads as it did. -/
def fnBatchTwiceSpec : ChangeSpec := { name := "fnBatchTwice", fn := fun _ => fun
  | [d] => { results := [.lit (.bool true)], args := [d] }
  | _ => none }
def fnBatchTwiceRow : OpenClaim := { program := "ytbmdfmboabfceaa", sum := "d00794eadf14e21c2624566f5ce0794ead6d02157691fce8625ddcf273d18dff", func := "loop.example/tideline/laws.FnBatchTwice", spec := "fnBatchTwice", unfollowed := true, recurses := true, plainKeys := false, apart := false }
def FnBatchTwiceSaid : Prop := fnBatchTwiceRow.holds Try.pinned (OpenSpec.ofChange fnBatchTwiceSpec)

/-- ITS FALSE NEIGHBOUR: 'it returns false'. Refute it at one input. -/
def fnBatchTwiceWrong : ChangeSpec := { name := "fnBatchTwice", fn := fun _ => fun
  | [d] => { results := [.lit (.bool false)], args := [d] }
  | _ => none }
def FnBatchTwiceWrongFalsely : Prop := fnBatchTwiceRow.holds Try.pinned (OpenSpec.ofChange fnBatchTwiceWrong)

/-- 'laws.FnBatchOrder': WHATEVER THE INPUT: true; the input reads as it did. -/
def fnBatchOrderSpec : ChangeSpec := { name := "fnBatchOrder", fn := fun _ => fun
  | [d] => { results := [.lit (.bool true)], args := [d] }
  | _ => none }
def fnBatchOrderRow : OpenClaim := { program := "ytbmdfmboabfceaa", sum := "d00794eadf14e21c2624566f5ce0794ead6d02157691fce8625ddcf273d18dff", func := "loop.example/tideline/laws.FnBatchOrder", spec := "fnBatchOrder", unfollowed := true, recurses := true, plainKeys := false, apart := false }
def FnBatchOrderSaid : Prop := fnBatchOrderRow.holds Try.pinned (OpenSpec.ofChange fnBatchOrderSpec)

/-- ITS FALSE NEIGHBOUR: 'it returns false'. Refute it at one input. -/
def fnBatchOrderWrong : ChangeSpec := { name := "fnBatchOrder", fn := fun _ => fun
  | [d] => { results := [.lit (.bool false)], args := [d] }
  | _ => none }
def FnBatchOrderWrongFalsely : Prop := fnBatchOrderRow.holds Try.pinned (OpenSpec.ofChange fnBatchOrderWrong)

/-- 'laws.FnBatchBoth': WHATEVER THE INPUT: true; the input reads as it did. -/
def fnBatchBothSpec : ChangeSpec := { name := "fnBatchBoth", fn := fun _ => fun
  | [d] => { results := [.lit (.bool true)], args := [d] }
  | _ => none }
def fnBatchBothRow : OpenClaim := { program := "ytbmdfmboabfceaa", sum := "d00794eadf14e21c2624566f5ce0794ead6d02157691fce8625ddcf273d18dff", func := "loop.example/tideline/laws.FnBatchBoth", spec := "fnBatchBoth", unfollowed := true, recurses := true, plainKeys := false, apart := false }
def FnBatchBothSaid : Prop := fnBatchBothRow.holds Try.pinned (OpenSpec.ofChange fnBatchBothSpec)

/-- ITS FALSE NEIGHBOUR: 'it returns false'. Refute it at one input. -/
def fnBatchBothWrong : ChangeSpec := { name := "fnBatchBoth", fn := fun _ => fun
  | [d] => { results := [.lit (.bool false)], args := [d] }
  | _ => none }
def FnBatchBothWrongFalsely : Prop := fnBatchBothRow.holds Try.pinned (OpenSpec.ofChange fnBatchBothWrong)

/-- 'laws.FnBatchTurn': WHATEVER THE INPUT: true; the input reads as it did. -/
def fnBatchTurnSpec : ChangeSpec := { name := "fnBatchTurn", fn := fun _ => fun
  | [d] => { results := [.lit (.bool true)], args := [d] }
  | _ => none }
def fnBatchTurnRow : OpenClaim := { program := "ytbmdfmboabfceaa", sum := "d00794eadf14e21c2624566f5ce0794ead6d02157691fce8625ddcf273d18dff", func := "loop.example/tideline/laws.FnBatchTurn", spec := "fnBatchTurn", unfollowed := true, recurses := true, plainKeys := false, apart := false }
def FnBatchTurnSaid : Prop := fnBatchTurnRow.holds Try.pinned (OpenSpec.ofChange fnBatchTurnSpec)

/-- ITS FALSE NEIGHBOUR: 'it returns false'. Refute it at one input. -/
def fnBatchTurnWrong : ChangeSpec := { name := "fnBatchTurn", fn := fun _ => fun
  | [d] => { results := [.lit (.bool false)], args := [d] }
  | _ => none }
def FnBatchTurnWrongFalsely : Prop := fnBatchTurnRow.holds Try.pinned (OpenSpec.ofChange fnBatchTurnWrong)

/-- 'laws.FnBatchLess': WHATEVER THE INPUT: true; the input reads as it did. -/
def fnBatchLessSpec : ChangeSpec := { name := "fnBatchLess", fn := fun _ => fun
  | [d] => { results := [.lit (.bool true)], args := [d] }
  | _ => none }
def fnBatchLessRow : OpenClaim := { program := "ytbmdfmboabfceaa", sum := "d00794eadf14e21c2624566f5ce0794ead6d02157691fce8625ddcf273d18dff", func := "loop.example/tideline/laws.FnBatchLess", spec := "fnBatchLess", unfollowed := true, recurses := true, plainKeys := false, apart := false }
def FnBatchLessSaid : Prop := fnBatchLessRow.holds Try.pinned (OpenSpec.ofChange fnBatchLessSpec)

/-- ITS FALSE NEIGHBOUR: 'it returns false'. Refute it at one input. -/
def fnBatchLessWrong : ChangeSpec := { name := "fnBatchLess", fn := fun _ => fun
  | [d] => { results := [.lit (.bool false)], args := [d] }
  | _ => none }
def FnBatchLessWrongFalsely : Prop := fnBatchLessRow.holds Try.pinned (OpenSpec.ofChange fnBatchLessWrong)

/-- 'laws.FnBatchMove': WHATEVER THE INPUT: true; the input reads as it did. -/
def fnBatchMoveSpec : ChangeSpec := { name := "fnBatchMove", fn := fun _ => fun
  | [d] => { results := [.lit (.bool true)], args := [d] }
  | _ => none }
def fnBatchMoveRow : OpenClaim := { program := "ytbmdfmboabfceaa", sum := "d00794eadf14e21c2624566f5ce0794ead6d02157691fce8625ddcf273d18dff", func := "loop.example/tideline/laws.FnBatchMove", spec := "fnBatchMove", unfollowed := true, recurses := true, plainKeys := false, apart := false }
def FnBatchMoveSaid : Prop := fnBatchMoveRow.holds Try.pinned (OpenSpec.ofChange fnBatchMoveSpec)

/-- ITS FALSE NEIGHBOUR: 'it returns false'. Refute it at one input. -/
def fnBatchMoveWrong : ChangeSpec := { name := "fnBatchMove", fn := fun _ => fun
  | [d] => { results := [.lit (.bool false)], args := [d] }
  | _ => none }
def FnBatchMoveWrongFalsely : Prop := fnBatchMoveRow.holds Try.pinned (OpenSpec.ofChange fnBatchMoveWrong)

/-- 'laws.FnBatchMoveTwice': WHATEVER THE INPUT: true; the input reads as it did. -/
def fnBatchMoveTwiceSpec : ChangeSpec := { name := "fnBatchMoveTwice", fn := fun _ => fun
  | [d] => { results := [.lit (.bool true)], args := [d] }
  | _ => none }
def fnBatchMoveTwiceRow : OpenClaim := { program := "ytbmdfmboabfceaa", sum := "d00794eadf14e21c2624566f5ce0794ead6d02157691fce8625ddcf273d18dff", func := "loop.example/tideline/laws.FnBatchMoveTwice", spec := "fnBatchMoveTwice", unfollowed := true, recurses := true, plainKeys := false, apart := false }
def FnBatchMoveTwiceSaid : Prop := fnBatchMoveTwiceRow.holds Try.pinned (OpenSpec.ofChange fnBatchMoveTwiceSpec)

/-- ITS FALSE NEIGHBOUR: 'it returns false'. Refute it at one input. -/
def fnBatchMoveTwiceWrong : ChangeSpec := { name := "fnBatchMoveTwice", fn := fun _ => fun
  | [d] => { results := [.lit (.bool false)], args := [d] }
  | _ => none }
def FnBatchMoveTwiceWrongFalsely : Prop := fnBatchMoveTwiceRow.holds Try.pinned (OpenSpec.ofChange fnBatchMoveTwiceWrong)

/-- 'laws.FnBatchMoveBoth': WHATEVER THE INPUT: true; the input reads as it did. -/
def fnBatchMoveBothSpec : ChangeSpec := { name := "fnBatchMoveBoth", fn := fun _ => fun
  | [d1, d2] => { results := [.lit (.bool true)], args := [d1, d2] }
  | _ => none }
def fnBatchMoveBothRow : OpenClaim := { program := "ytbmdfmboabfceaa", sum := "d00794eadf14e21c2624566f5ce0794ead6d02157691fce8625ddcf273d18dff", func := "loop.example/tideline/laws.FnBatchMoveBoth", spec := "fnBatchMoveBoth", unfollowed := true, recurses := true, plainKeys := false, apart := false }
def FnBatchMoveBothSaid : Prop := fnBatchMoveBothRow.holds Try.pinned (OpenSpec.ofChange fnBatchMoveBothSpec)

/-- ITS FALSE NEIGHBOUR: 'it returns false'. Refute it at one input. -/
def fnBatchMoveBothWrong : ChangeSpec := { name := "fnBatchMoveBoth", fn := fun _ => fun
  | [d1, d2] => { results := [.lit (.bool false)], args := [d1, d2] }
  | _ => none }
def FnBatchMoveBothWrongFalsely : Prop := fnBatchMoveBothRow.holds Try.pinned (OpenSpec.ofChange fnBatchMoveBothWrong)

/-- 'laws.FnBatchTimes': WHATEVER THE INPUT: true; the input reads as it did. -/
def fnBatchTimesSpec : ChangeSpec := { name := "fnBatchTimes", fn := fun _ => fun
  | [d] => { results := [.lit (.bool true)], args := [d] }
  | _ => none }
def fnBatchTimesRow : OpenClaim := { program := "ytbmdfmboabfceaa", sum := "d00794eadf14e21c2624566f5ce0794ead6d02157691fce8625ddcf273d18dff", func := "loop.example/tideline/laws.FnBatchTimes", spec := "fnBatchTimes", unfollowed := true, recurses := true, plainKeys := false, apart := false }
def FnBatchTimesSaid : Prop := fnBatchTimesRow.holds Try.pinned (OpenSpec.ofChange fnBatchTimesSpec)

/-- ITS FALSE NEIGHBOUR: 'it returns false'. Refute it at one input. -/
def fnBatchTimesWrong : ChangeSpec := { name := "fnBatchTimes", fn := fun _ => fun
  | [d] => { results := [.lit (.bool false)], args := [d] }
  | _ => none }
def FnBatchTimesWrongFalsely : Prop := fnBatchTimesRow.holds Try.pinned (OpenSpec.ofChange fnBatchTimesWrong)

/-- 'laws.FnBatchStill': WHATEVER THE INPUT: true; the input reads as it did. -/
def fnBatchStillSpec : ChangeSpec := { name := "fnBatchStill", fn := fun _ => fun
  | [d] => { results := [.lit (.bool true)], args := [d] }
  | _ => none }
def fnBatchStillRow : OpenClaim := { program := "ytbmdfmboabfceaa", sum := "d00794eadf14e21c2624566f5ce0794ead6d02157691fce8625ddcf273d18dff", func := "loop.example/tideline/laws.FnBatchStill", spec := "fnBatchStill", unfollowed := true, recurses := true, plainKeys := false, apart := false }
def FnBatchStillSaid : Prop := fnBatchStillRow.holds Try.pinned (OpenSpec.ofChange fnBatchStillSpec)

/-- ITS FALSE NEIGHBOUR: 'it returns false'. Refute it at one input. -/
def fnBatchStillWrong : ChangeSpec := { name := "fnBatchStill", fn := fun _ => fun
  | [d] => { results := [.lit (.bool false)], args := [d] }
  | _ => none }
def FnBatchStillWrongFalsely : Prop := fnBatchStillRow.holds Try.pinned (OpenSpec.ofChange fnBatchStillWrong)

/-- 'laws.FnSetSwap': WHATEVER THE INPUT: true; the input reads as it did. -/
def fnSetSwapSpec : ChangeSpec := { name := "fnSetSwap", fn := fun _ => fun
  | [d] => { results := [.lit (.bool true)], args := [d] }
  | _ => none }
def fnSetSwapRow : OpenClaim := { program := "ytbmdfmboabfceaa", sum := "d00794eadf14e21c2624566f5ce0794ead6d02157691fce8625ddcf273d18dff", func := "loop.example/tideline/laws.FnSetSwap", spec := "fnSetSwap", unfollowed := true, recurses := true, plainKeys := false, apart := false }
def FnSetSwapSaid : Prop := fnSetSwapRow.holds Try.pinned (OpenSpec.ofChange fnSetSwapSpec)

/-- ITS FALSE NEIGHBOUR: 'it returns false'. Refute it at one input. -/
def fnSetSwapWrong : ChangeSpec := { name := "fnSetSwap", fn := fun _ => fun
  | [d] => { results := [.lit (.bool false)], args := [d] }
  | _ => none }
def FnSetSwapWrongFalsely : Prop := fnSetSwapRow.holds Try.pinned (OpenSpec.ofChange fnSetSwapWrong)

/-- 'laws.FnSetKeep': WHATEVER THE INPUT: true; the input reads as it did. -/
def fnSetKeepSpec : ChangeSpec := { name := "fnSetKeep", fn := fun _ => fun
  | [d1, d2] => { results := [.lit (.bool true)], args := [d1, d2] }
  | _ => none }
def fnSetKeepRow : OpenClaim := { program := "ytbmdfmboabfceaa", sum := "d00794eadf14e21c2624566f5ce0794ead6d02157691fce8625ddcf273d18dff", func := "loop.example/tideline/laws.FnSetKeep", spec := "fnSetKeep", unfollowed := true, recurses := true, plainKeys := false, apart := false }
def FnSetKeepSaid : Prop := fnSetKeepRow.holds Try.pinned (OpenSpec.ofChange fnSetKeepSpec)

/-- ITS FALSE NEIGHBOUR: 'it returns false'. Refute it at one input. -/
def fnSetKeepWrong : ChangeSpec := { name := "fnSetKeep", fn := fun _ => fun
  | [d1, d2] => { results := [.lit (.bool false)], args := [d1, d2] }
  | _ => none }
def FnSetKeepWrongFalsely : Prop := fnSetKeepRow.holds Try.pinned (OpenSpec.ofChange fnSetKeepWrong)

/-- 'laws.FnSetBoth': WHATEVER THE INPUT: true; the input reads as it did. -/
def fnSetBothSpec : ChangeSpec := { name := "fnSetBoth", fn := fun _ => fun
  | [d] => { results := [.lit (.bool true)], args := [d] }
  | _ => none }
def fnSetBothRow : OpenClaim := { program := "ytbmdfmboabfceaa", sum := "d00794eadf14e21c2624566f5ce0794ead6d02157691fce8625ddcf273d18dff", func := "loop.example/tideline/laws.FnSetBoth", spec := "fnSetBoth", unfollowed := true, recurses := true, plainKeys := false, apart := false }
def FnSetBothSaid : Prop := fnSetBothRow.holds Try.pinned (OpenSpec.ofChange fnSetBothSpec)

/-- ITS FALSE NEIGHBOUR: 'it returns false'. Refute it at one input. -/
def fnSetBothWrong : ChangeSpec := { name := "fnSetBoth", fn := fun _ => fun
  | [d] => { results := [.lit (.bool false)], args := [d] }
  | _ => none }
def FnSetBothWrongFalsely : Prop := fnSetBothRow.holds Try.pinned (OpenSpec.ofChange fnSetBothWrong)

/-- 'laws.FnSetLess': WHATEVER THE INPUT: true; the input reads as it did. -/
def fnSetLessSpec : ChangeSpec := { name := "fnSetLess", fn := fun _ => fun
  | [d] => { results := [.lit (.bool true)], args := [d] }
  | _ => none }
def fnSetLessRow : OpenClaim := { program := "ytbmdfmboabfceaa", sum := "d00794eadf14e21c2624566f5ce0794ead6d02157691fce8625ddcf273d18dff", func := "loop.example/tideline/laws.FnSetLess", spec := "fnSetLess", unfollowed := true, recurses := true, plainKeys := false, apart := false }
def FnSetLessSaid : Prop := fnSetLessRow.holds Try.pinned (OpenSpec.ofChange fnSetLessSpec)

/-- ITS FALSE NEIGHBOUR: 'it returns false'. Refute it at one input. -/
def fnSetLessWrong : ChangeSpec := { name := "fnSetLess", fn := fun _ => fun
  | [d] => { results := [.lit (.bool false)], args := [d] }
  | _ => none }
def FnSetLessWrongFalsely : Prop := fnSetLessRow.holds Try.pinned (OpenSpec.ofChange fnSetLessWrong)

/-- 'laws.FnSetEach': WHATEVER THE INPUT: true; the input reads as it did. -/
def fnSetEachSpec : ChangeSpec := { name := "fnSetEach", fn := fun _ => fun
  | [d1, d2] => { results := [.lit (.bool true)], args := [d1, d2] }
  | _ => none }
def fnSetEachRow : OpenClaim := { program := "ytbmdfmboabfceaa", sum := "d00794eadf14e21c2624566f5ce0794ead6d02157691fce8625ddcf273d18dff", func := "loop.example/tideline/laws.FnSetEach", spec := "fnSetEach", unfollowed := true, recurses := true, plainKeys := false, apart := false }
def FnSetEachSaid : Prop := fnSetEachRow.holds Try.pinned (OpenSpec.ofChange fnSetEachSpec)

/-- ITS FALSE NEIGHBOUR: 'it returns false'. Refute it at one input. -/
def fnSetEachWrong : ChangeSpec := { name := "fnSetEach", fn := fun _ => fun
  | [d1, d2] => { results := [.lit (.bool false)], args := [d1, d2] }
  | _ => none }
def FnSetEachWrongFalsely : Prop := fnSetEachRow.holds Try.pinned (OpenSpec.ofChange fnSetEachWrong)

/-- 'laws.FnSetJoin': WHATEVER THE INPUT: true; the input reads as it did. -/
def fnSetJoinSpec : ChangeSpec := { name := "fnSetJoin", fn := fun _ => fun
  | [d1, d2] => { results := [.lit (.bool true)], args := [d1, d2] }
  | _ => none }
def fnSetJoinRow : OpenClaim := { program := "ytbmdfmboabfceaa", sum := "d00794eadf14e21c2624566f5ce0794ead6d02157691fce8625ddcf273d18dff", func := "loop.example/tideline/laws.FnSetJoin", spec := "fnSetJoin", inPlace := ["math/bits.Add64"], unfollowed := true, recurses := true, plainKeys := false, apart := false }
def FnSetJoinSaid : Prop := fnSetJoinRow.holds Try.pinned (OpenSpec.ofChange fnSetJoinSpec)

/-- ITS FALSE NEIGHBOUR: 'it returns false'. Refute it at one input. -/
def fnSetJoinWrong : ChangeSpec := { name := "fnSetJoin", fn := fun _ => fun
  | [d1, d2] => { results := [.lit (.bool false)], args := [d1, d2] }
  | _ => none }
def FnSetJoinWrongFalsely : Prop := fnSetJoinRow.holds Try.pinned (OpenSpec.ofChange fnSetJoinWrong)

/-- 'laws.FnSetJoinLess': WHATEVER THE INPUT: true; the input reads as it did. -/
def fnSetJoinLessSpec : ChangeSpec := { name := "fnSetJoinLess", fn := fun _ => fun
  | [d] => { results := [.lit (.bool true)], args := [d] }
  | _ => none }
def fnSetJoinLessRow : OpenClaim := { program := "ytbmdfmboabfceaa", sum := "d00794eadf14e21c2624566f5ce0794ead6d02157691fce8625ddcf273d18dff", func := "loop.example/tideline/laws.FnSetJoinLess", spec := "fnSetJoinLess", inPlace := ["math/bits.Add64"], unfollowed := true, recurses := true, plainKeys := false, apart := false }
def FnSetJoinLessSaid : Prop := fnSetJoinLessRow.holds Try.pinned (OpenSpec.ofChange fnSetJoinLessSpec)

/-- ITS FALSE NEIGHBOUR: 'it returns false'. Refute it at one input. -/
def fnSetJoinLessWrong : ChangeSpec := { name := "fnSetJoinLess", fn := fun _ => fun
  | [d] => { results := [.lit (.bool false)], args := [d] }
  | _ => none }
def FnSetJoinLessWrongFalsely : Prop := fnSetJoinLessRow.holds Try.pinned (OpenSpec.ofChange fnSetJoinLessWrong)

/-- 'laws.FnSetJoinKeys': WHATEVER THE INPUT: true; the input reads as it did. -/
def fnSetJoinKeysSpec : ChangeSpec := { name := "fnSetJoinKeys", fn := fun _ => fun
  | [d] => { results := [.lit (.bool true)], args := [d] }
  | _ => none }
def fnSetJoinKeysRow : OpenClaim := { program := "ytbmdfmboabfceaa", sum := "d00794eadf14e21c2624566f5ce0794ead6d02157691fce8625ddcf273d18dff", func := "loop.example/tideline/laws.FnSetJoinKeys", spec := "fnSetJoinKeys", inPlace := ["math/bits.Add64"], unfollowed := true, recurses := true, plainKeys := false, apart := false }
def FnSetJoinKeysSaid : Prop := fnSetJoinKeysRow.holds Try.pinned (OpenSpec.ofChange fnSetJoinKeysSpec)

/-- ITS FALSE NEIGHBOUR: 'it returns false'. Refute it at one input. -/
def fnSetJoinKeysWrong : ChangeSpec := { name := "fnSetJoinKeys", fn := fun _ => fun
  | [d] => { results := [.lit (.bool false)], args := [d] }
  | _ => none }
def FnSetJoinKeysWrongFalsely : Prop := fnSetJoinKeysRow.holds Try.pinned (OpenSpec.ofChange fnSetJoinKeysWrong)

/-- 'laws.FnSetCount': WHATEVER THE INPUT: true; the input reads as it did. -/
def fnSetCountSpec : ChangeSpec := { name := "fnSetCount", fn := fun _ => fun
  | [d] => { results := [.lit (.bool true)], args := [d] }
  | _ => none }
def fnSetCountRow : OpenClaim := { program := "ytbmdfmboabfceaa", sum := "d00794eadf14e21c2624566f5ce0794ead6d02157691fce8625ddcf273d18dff", func := "loop.example/tideline/laws.FnSetCount", spec := "fnSetCount", plainKeys := false, apart := false }
def FnSetCountSaid : Prop := fnSetCountRow.holds Try.pinned (OpenSpec.ofChange fnSetCountSpec)

/-- ITS FALSE NEIGHBOUR: 'it returns false'. Refute it at one input. -/
def fnSetCountWrong : ChangeSpec := { name := "fnSetCount", fn := fun _ => fun
  | [d] => { results := [.lit (.bool false)], args := [d] }
  | _ => none }
def FnSetCountWrongFalsely : Prop := fnSetCountRow.holds Try.pinned (OpenSpec.ofChange fnSetCountWrong)

/-- 'laws.FnSetOnce': WHATEVER THE INPUT: true; the input reads as it did. -/
def fnSetOnceSpec : ChangeSpec := { name := "fnSetOnce", fn := fun _ => fun
  | [d] => { results := [.lit (.bool true)], args := [d] }
  | _ => none }
def fnSetOnceRow : OpenClaim := { program := "ytbmdfmboabfceaa", sum := "d00794eadf14e21c2624566f5ce0794ead6d02157691fce8625ddcf273d18dff", func := "loop.example/tideline/laws.FnSetOnce", spec := "fnSetOnce", plainKeys := false, apart := false }
def FnSetOnceSaid : Prop := fnSetOnceRow.holds Try.pinned (OpenSpec.ofChange fnSetOnceSpec)

/-- ITS FALSE NEIGHBOUR: 'it returns false'. Refute it at one input. -/
def fnSetOnceWrong : ChangeSpec := { name := "fnSetOnce", fn := fun _ => fun
  | [d] => { results := [.lit (.bool false)], args := [d] }
  | _ => none }
def FnSetOnceWrongFalsely : Prop := fnSetOnceRow.holds Try.pinned (OpenSpec.ofChange fnSetOnceWrong)

/-- 'laws.FnSetLeast': WHATEVER THE INPUT: true; the input reads as it did. -/
def fnSetLeastSpec : ChangeSpec := { name := "fnSetLeast", fn := fun _ => fun
  | [d] => { results := [.lit (.bool true)], args := [d] }
  | _ => none }
def fnSetLeastRow : OpenClaim := { program := "ytbmdfmboabfceaa", sum := "d00794eadf14e21c2624566f5ce0794ead6d02157691fce8625ddcf273d18dff", func := "loop.example/tideline/laws.FnSetLeast", spec := "fnSetLeast", unfollowed := true, recurses := true, plainKeys := false, apart := false }
def FnSetLeastSaid : Prop := fnSetLeastRow.holds Try.pinned (OpenSpec.ofChange fnSetLeastSpec)

/-- ITS FALSE NEIGHBOUR: 'it returns false'. Refute it at one input. -/
def fnSetLeastWrong : ChangeSpec := { name := "fnSetLeast", fn := fun _ => fun
  | [d] => { results := [.lit (.bool false)], args := [d] }
  | _ => none }
def FnSetLeastWrongFalsely : Prop := fnSetLeastRow.holds Try.pinned (OpenSpec.ofChange fnSetLeastWrong)

/-- 'laws.FnSetMore': WHATEVER THE INPUT: true; the input reads as it did. -/
def fnSetMoreSpec : ChangeSpec := { name := "fnSetMore", fn := fun _ => fun
  | [d] => { results := [.lit (.bool true)], args := [d] }
  | _ => none }
def fnSetMoreRow : OpenClaim := { program := "ytbmdfmboabfceaa", sum := "d00794eadf14e21c2624566f5ce0794ead6d02157691fce8625ddcf273d18dff", func := "loop.example/tideline/laws.FnSetMore", spec := "fnSetMore", unfollowed := true, recurses := true, plainKeys := false, apart := false }
def FnSetMoreSaid : Prop := fnSetMoreRow.holds Try.pinned (OpenSpec.ofChange fnSetMoreSpec)

/-- ITS FALSE NEIGHBOUR: 'it returns false'. Refute it at one input. -/
def fnSetMoreWrong : ChangeSpec := { name := "fnSetMore", fn := fun _ => fun
  | [d] => { results := [.lit (.bool false)], args := [d] }
  | _ => none }
def FnSetMoreWrongFalsely : Prop := fnSetMoreRow.holds Try.pinned (OpenSpec.ofChange fnSetMoreWrong)

/-- 'laws.FnExactSetOk': WHATEVER THE INPUT: true; the input reads as it did. -/
def fnExactSetOkSpec : ChangeSpec := { name := "fnExactSetOk", fn := fun _ => fun
  | [d] => { results := [.lit (.bool true)], args := [d] }
  | _ => none }
def fnExactSetOkRow : OpenClaim := { program := "ytbmdfmboabfceaa", sum := "d00794eadf14e21c2624566f5ce0794ead6d02157691fce8625ddcf273d18dff", func := "loop.example/tideline/laws.FnExactSetOk", spec := "fnExactSetOk", plainKeys := false, apart := false }
def FnExactSetOkSaid : Prop := fnExactSetOkRow.holds Try.pinned (OpenSpec.ofChange fnExactSetOkSpec)

/-- ITS FALSE NEIGHBOUR: 'it returns false'. Refute it at one input. -/
def fnExactSetOkWrong : ChangeSpec := { name := "fnExactSetOk", fn := fun _ => fun
  | [d] => { results := [.lit (.bool false)], args := [d] }
  | _ => none }
def FnExactSetOkWrongFalsely : Prop := fnExactSetOkRow.holds Try.pinned (OpenSpec.ofChange fnExactSetOkWrong)

/-- 'laws.FnExactSetEach': WHATEVER THE INPUT: true; the input reads as it did. -/
def fnExactSetEachSpec : ChangeSpec := { name := "fnExactSetEach", fn := fun _ => fun
  | [d1, d2] => { results := [.lit (.bool true)], args := [d1, d2] }
  | _ => none }
def fnExactSetEachRow : OpenClaim := { program := "ytbmdfmboabfceaa", sum := "d00794eadf14e21c2624566f5ce0794ead6d02157691fce8625ddcf273d18dff", func := "loop.example/tideline/laws.FnExactSetEach", spec := "fnExactSetEach", unfollowed := true, recurses := true, plainKeys := false, apart := false }
def FnExactSetEachSaid : Prop := fnExactSetEachRow.holds Try.pinned (OpenSpec.ofChange fnExactSetEachSpec)

/-- ITS FALSE NEIGHBOUR: 'it returns false'. Refute it at one input. -/
def fnExactSetEachWrong : ChangeSpec := { name := "fnExactSetEach", fn := fun _ => fun
  | [d1, d2] => { results := [.lit (.bool false)], args := [d1, d2] }
  | _ => none }
def FnExactSetEachWrongFalsely : Prop := fnExactSetEachRow.holds Try.pinned (OpenSpec.ofChange fnExactSetEachWrong)

/-- 'laws.FnExactSetBoth': WHATEVER THE INPUT: true; the input reads as it did. -/
def fnExactSetBothSpec : ChangeSpec := { name := "fnExactSetBoth", fn := fun _ => fun
  | [d1, d2] => { results := [.lit (.bool true)], args := [d1, d2] }
  | _ => none }
def fnExactSetBothRow : OpenClaim := { program := "ytbmdfmboabfceaa", sum := "d00794eadf14e21c2624566f5ce0794ead6d02157691fce8625ddcf273d18dff", func := "loop.example/tideline/laws.FnExactSetBoth", spec := "fnExactSetBoth", unfollowed := true, recurses := true, plainKeys := false, apart := false }
def FnExactSetBothSaid : Prop := fnExactSetBothRow.holds Try.pinned (OpenSpec.ofChange fnExactSetBothSpec)

/-- ITS FALSE NEIGHBOUR: 'it returns false'. Refute it at one input. -/
def fnExactSetBothWrong : ChangeSpec := { name := "fnExactSetBoth", fn := fun _ => fun
  | [d1, d2] => { results := [.lit (.bool false)], args := [d1, d2] }
  | _ => none }
def FnExactSetBothWrongFalsely : Prop := fnExactSetBothRow.holds Try.pinned (OpenSpec.ofChange fnExactSetBothWrong)

/-- 'laws.FnExactSetLess': WHATEVER THE INPUT: true; the input reads as it did. -/
def fnExactSetLessSpec : ChangeSpec := { name := "fnExactSetLess", fn := fun _ => fun
  | [d] => { results := [.lit (.bool true)], args := [d] }
  | _ => none }
def fnExactSetLessRow : OpenClaim := { program := "ytbmdfmboabfceaa", sum := "d00794eadf14e21c2624566f5ce0794ead6d02157691fce8625ddcf273d18dff", func := "loop.example/tideline/laws.FnExactSetLess", spec := "fnExactSetLess", plainKeys := false, apart := false }
def FnExactSetLessSaid : Prop := fnExactSetLessRow.holds Try.pinned (OpenSpec.ofChange fnExactSetLessSpec)

/-- ITS FALSE NEIGHBOUR: 'it returns false'. Refute it at one input. -/
def fnExactSetLessWrong : ChangeSpec := { name := "fnExactSetLess", fn := fun _ => fun
  | [d] => { results := [.lit (.bool false)], args := [d] }
  | _ => none }
def FnExactSetLessWrongFalsely : Prop := fnExactSetLessRow.holds Try.pinned (OpenSpec.ofChange fnExactSetLessWrong)

/-- 'laws.FnExactSetJoin': WHATEVER THE INPUT: true; the input reads as it did. -/
def fnExactSetJoinSpec : ChangeSpec := { name := "fnExactSetJoin", fn := fun _ => fun
  | [d1, d2] => { results := [.lit (.bool true)], args := [d1, d2] }
  | _ => none }
def fnExactSetJoinRow : OpenClaim := { program := "ytbmdfmboabfceaa", sum := "d00794eadf14e21c2624566f5ce0794ead6d02157691fce8625ddcf273d18dff", func := "loop.example/tideline/laws.FnExactSetJoin", spec := "fnExactSetJoin", inPlace := ["math/bits.Add64"], unfollowed := true, recurses := true, plainKeys := false, apart := false }
def FnExactSetJoinSaid : Prop := fnExactSetJoinRow.holds Try.pinned (OpenSpec.ofChange fnExactSetJoinSpec)

/-- ITS FALSE NEIGHBOUR: 'it returns false'. Refute it at one input. -/
def fnExactSetJoinWrong : ChangeSpec := { name := "fnExactSetJoin", fn := fun _ => fun
  | [d1, d2] => { results := [.lit (.bool false)], args := [d1, d2] }
  | _ => none }
def FnExactSetJoinWrongFalsely : Prop := fnExactSetJoinRow.holds Try.pinned (OpenSpec.ofChange fnExactSetJoinWrong)

/-- 'laws.FnExactSetCount': WHATEVER THE INPUT: true; the input reads as it did. -/
def fnExactSetCountSpec : ChangeSpec := { name := "fnExactSetCount", fn := fun _ => fun
  | [d] => { results := [.lit (.bool true)], args := [d] }
  | _ => none }
def fnExactSetCountRow : OpenClaim := { program := "ytbmdfmboabfceaa", sum := "d00794eadf14e21c2624566f5ce0794ead6d02157691fce8625ddcf273d18dff", func := "loop.example/tideline/laws.FnExactSetCount", spec := "fnExactSetCount", plainKeys := false, apart := false }
def FnExactSetCountSaid : Prop := fnExactSetCountRow.holds Try.pinned (OpenSpec.ofChange fnExactSetCountSpec)

/-- ITS FALSE NEIGHBOUR: 'it returns false'. Refute it at one input. -/
def fnExactSetCountWrong : ChangeSpec := { name := "fnExactSetCount", fn := fun _ => fun
  | [d] => { results := [.lit (.bool false)], args := [d] }
  | _ => none }
def FnExactSetCountWrongFalsely : Prop := fnExactSetCountRow.holds Try.pinned (OpenSpec.ofChange fnExactSetCountWrong)

/-- 'laws.FnExactSetOnce': WHATEVER THE INPUT: true; the input reads as it did. -/
def fnExactSetOnceSpec : ChangeSpec := { name := "fnExactSetOnce", fn := fun _ => fun
  | [d] => { results := [.lit (.bool true)], args := [d] }
  | _ => none }
def fnExactSetOnceRow : OpenClaim := { program := "ytbmdfmboabfceaa", sum := "d00794eadf14e21c2624566f5ce0794ead6d02157691fce8625ddcf273d18dff", func := "loop.example/tideline/laws.FnExactSetOnce", spec := "fnExactSetOnce", plainKeys := false, apart := false }
def FnExactSetOnceSaid : Prop := fnExactSetOnceRow.holds Try.pinned (OpenSpec.ofChange fnExactSetOnceSpec)

/-- ITS FALSE NEIGHBOUR: 'it returns false'. Refute it at one input. -/
def fnExactSetOnceWrong : ChangeSpec := { name := "fnExactSetOnce", fn := fun _ => fun
  | [d] => { results := [.lit (.bool false)], args := [d] }
  | _ => none }
def FnExactSetOnceWrongFalsely : Prop := fnExactSetOnceRow.holds Try.pinned (OpenSpec.ofChange fnExactSetOnceWrong)

/-- 'laws.FnExactSetLeast': WHATEVER THE INPUT: true; the input reads as it did. -/
def fnExactSetLeastSpec : ChangeSpec := { name := "fnExactSetLeast", fn := fun _ => fun
  | [d] => { results := [.lit (.bool true)], args := [d] }
  | _ => none }
def fnExactSetLeastRow : OpenClaim := { program := "ytbmdfmboabfceaa", sum := "d00794eadf14e21c2624566f5ce0794ead6d02157691fce8625ddcf273d18dff", func := "loop.example/tideline/laws.FnExactSetLeast", spec := "fnExactSetLeast", unfollowed := true, recurses := true, plainKeys := false, apart := false }
def FnExactSetLeastSaid : Prop := fnExactSetLeastRow.holds Try.pinned (OpenSpec.ofChange fnExactSetLeastSpec)

/-- ITS FALSE NEIGHBOUR: 'it returns false'. Refute it at one input. -/
def fnExactSetLeastWrong : ChangeSpec := { name := "fnExactSetLeast", fn := fun _ => fun
  | [d] => { results := [.lit (.bool false)], args := [d] }
  | _ => none }
def FnExactSetLeastWrongFalsely : Prop := fnExactSetLeastRow.holds Try.pinned (OpenSpec.ofChange fnExactSetLeastWrong)

/- THE SECOND FORM. 'bulk': how many values and letters a reading holds, each counted each time it is reached (what is shared counts as often as it is met; a slice's spare places count too). A statement '..UptoSaid' is the law's where the arguments, and the package variables that the reading takes, are together of bulk at most 1048576: NARROWER than '..Said'. Prove '..Said' where nothing that the law and all that it calls make is longer than what came in: it says more and counts as full. Else prove '..UptoSaid'. A law counts once. -/
mutual
def uptoBulk {H : Type} : DataW H → Nat
  | .lit (.string bytes) => bytes.length + 1
  | .lit _ => 1
  | .nil => 1
  | .ptr d => uptoBulk d + 1
  | .slice elems spare => uptoBulkAll elems + uptoBulkAll spare + 1
  | .agg parts => uptoBulkAll parts + 1
  | .iface _ d => uptoBulk d + 1
  | .map entries => uptoBulkEntries entries + 1
  | .held _ => 1
def uptoBulkAll {H : Type} : List (DataW H) → Nat
  | [] => 0
  | d :: r => uptoBulk d + uptoBulkAll r
def uptoBulkEntries {H : Type} : List (Lit × DataW H) → Nat
  | [] => 0
  | x :: r => uptoBulkEntry x + uptoBulkEntries r
def uptoBulkEntry {H : Type} : Lit × DataW H → Nat
  | (.string bytes, d) => bytes.length + uptoBulk d + 1
  | (_, d) => uptoBulk d + 1
 end
def uptoSmall : (H : Type) → List (DataW H) → Bool := fun _ ds => decide (uptoBulkAll ds ≤ 1048576)
def OpenSpec.upto (s : _root_.Go.ChangeSpec) : _root_.Go.OpenSpec := { _root_.Go.OpenSpec.ofChange s with cond := some uptoSmall }

/-- 'laws.FnBatchOf', WHERE WHAT IT READS IS OF BULK AT MOST 1048576: true; the input reads as it did. -/
def fnBatchOfUptoRow : OpenClaim := { program := "ytbmdfmboabfceaa", sum := "d00794eadf14e21c2624566f5ce0794ead6d02157691fce8625ddcf273d18dff", func := "loop.example/tideline/laws.FnBatchOf", spec := "fnBatchOf", unfollowed := true, recurses := true, plainKeys := false, apart := false, narrowed := true }
def FnBatchOfUptoSaid : Prop := fnBatchOfUptoRow.holds Try.pinned (OpenSpec.upto fnBatchOfSpec)

/-- 'laws.FnBatchTwice', WHERE WHAT IT READS IS OF BULK AT MOST 1048576: true; the input reads as it did. -/
def fnBatchTwiceUptoRow : OpenClaim := { program := "ytbmdfmboabfceaa", sum := "d00794eadf14e21c2624566f5ce0794ead6d02157691fce8625ddcf273d18dff", func := "loop.example/tideline/laws.FnBatchTwice", spec := "fnBatchTwice", unfollowed := true, recurses := true, plainKeys := false, apart := false, narrowed := true }
def FnBatchTwiceUptoSaid : Prop := fnBatchTwiceUptoRow.holds Try.pinned (OpenSpec.upto fnBatchTwiceSpec)

/-- 'laws.FnBatchOrder', WHERE WHAT IT READS IS OF BULK AT MOST 1048576: true; the input reads as it did. -/
def fnBatchOrderUptoRow : OpenClaim := { program := "ytbmdfmboabfceaa", sum := "d00794eadf14e21c2624566f5ce0794ead6d02157691fce8625ddcf273d18dff", func := "loop.example/tideline/laws.FnBatchOrder", spec := "fnBatchOrder", unfollowed := true, recurses := true, plainKeys := false, apart := false, narrowed := true }
def FnBatchOrderUptoSaid : Prop := fnBatchOrderUptoRow.holds Try.pinned (OpenSpec.upto fnBatchOrderSpec)

/-- 'laws.FnBatchBoth', WHERE WHAT IT READS IS OF BULK AT MOST 1048576: true; the input reads as it did. -/
def fnBatchBothUptoRow : OpenClaim := { program := "ytbmdfmboabfceaa", sum := "d00794eadf14e21c2624566f5ce0794ead6d02157691fce8625ddcf273d18dff", func := "loop.example/tideline/laws.FnBatchBoth", spec := "fnBatchBoth", unfollowed := true, recurses := true, plainKeys := false, apart := false, narrowed := true }
def FnBatchBothUptoSaid : Prop := fnBatchBothUptoRow.holds Try.pinned (OpenSpec.upto fnBatchBothSpec)

/-- 'laws.FnBatchTurn', WHERE WHAT IT READS IS OF BULK AT MOST 1048576: true; the input reads as it did. -/
def fnBatchTurnUptoRow : OpenClaim := { program := "ytbmdfmboabfceaa", sum := "d00794eadf14e21c2624566f5ce0794ead6d02157691fce8625ddcf273d18dff", func := "loop.example/tideline/laws.FnBatchTurn", spec := "fnBatchTurn", unfollowed := true, recurses := true, plainKeys := false, apart := false, narrowed := true }
def FnBatchTurnUptoSaid : Prop := fnBatchTurnUptoRow.holds Try.pinned (OpenSpec.upto fnBatchTurnSpec)

/-- 'laws.FnBatchLess', WHERE WHAT IT READS IS OF BULK AT MOST 1048576: true; the input reads as it did. -/
def fnBatchLessUptoRow : OpenClaim := { program := "ytbmdfmboabfceaa", sum := "d00794eadf14e21c2624566f5ce0794ead6d02157691fce8625ddcf273d18dff", func := "loop.example/tideline/laws.FnBatchLess", spec := "fnBatchLess", unfollowed := true, recurses := true, plainKeys := false, apart := false, narrowed := true }
def FnBatchLessUptoSaid : Prop := fnBatchLessUptoRow.holds Try.pinned (OpenSpec.upto fnBatchLessSpec)

/-- 'laws.FnBatchMove', WHERE WHAT IT READS IS OF BULK AT MOST 1048576: true; the input reads as it did. -/
def fnBatchMoveUptoRow : OpenClaim := { program := "ytbmdfmboabfceaa", sum := "d00794eadf14e21c2624566f5ce0794ead6d02157691fce8625ddcf273d18dff", func := "loop.example/tideline/laws.FnBatchMove", spec := "fnBatchMove", unfollowed := true, recurses := true, plainKeys := false, apart := false, narrowed := true }
def FnBatchMoveUptoSaid : Prop := fnBatchMoveUptoRow.holds Try.pinned (OpenSpec.upto fnBatchMoveSpec)

/-- 'laws.FnBatchMoveTwice', WHERE WHAT IT READS IS OF BULK AT MOST 1048576: true; the input reads as it did. -/
def fnBatchMoveTwiceUptoRow : OpenClaim := { program := "ytbmdfmboabfceaa", sum := "d00794eadf14e21c2624566f5ce0794ead6d02157691fce8625ddcf273d18dff", func := "loop.example/tideline/laws.FnBatchMoveTwice", spec := "fnBatchMoveTwice", unfollowed := true, recurses := true, plainKeys := false, apart := false, narrowed := true }
def FnBatchMoveTwiceUptoSaid : Prop := fnBatchMoveTwiceUptoRow.holds Try.pinned (OpenSpec.upto fnBatchMoveTwiceSpec)

/-- 'laws.FnBatchMoveBoth', WHERE WHAT IT READS IS OF BULK AT MOST 1048576: true; the input reads as it did. -/
def fnBatchMoveBothUptoRow : OpenClaim := { program := "ytbmdfmboabfceaa", sum := "d00794eadf14e21c2624566f5ce0794ead6d02157691fce8625ddcf273d18dff", func := "loop.example/tideline/laws.FnBatchMoveBoth", spec := "fnBatchMoveBoth", unfollowed := true, recurses := true, plainKeys := false, apart := false, narrowed := true }
def FnBatchMoveBothUptoSaid : Prop := fnBatchMoveBothUptoRow.holds Try.pinned (OpenSpec.upto fnBatchMoveBothSpec)

/-- 'laws.FnBatchTimes', WHERE WHAT IT READS IS OF BULK AT MOST 1048576: true; the input reads as it did. -/
def fnBatchTimesUptoRow : OpenClaim := { program := "ytbmdfmboabfceaa", sum := "d00794eadf14e21c2624566f5ce0794ead6d02157691fce8625ddcf273d18dff", func := "loop.example/tideline/laws.FnBatchTimes", spec := "fnBatchTimes", unfollowed := true, recurses := true, plainKeys := false, apart := false, narrowed := true }
def FnBatchTimesUptoSaid : Prop := fnBatchTimesUptoRow.holds Try.pinned (OpenSpec.upto fnBatchTimesSpec)

/-- 'laws.FnBatchStill', WHERE WHAT IT READS IS OF BULK AT MOST 1048576: true; the input reads as it did. -/
def fnBatchStillUptoRow : OpenClaim := { program := "ytbmdfmboabfceaa", sum := "d00794eadf14e21c2624566f5ce0794ead6d02157691fce8625ddcf273d18dff", func := "loop.example/tideline/laws.FnBatchStill", spec := "fnBatchStill", unfollowed := true, recurses := true, plainKeys := false, apart := false, narrowed := true }
def FnBatchStillUptoSaid : Prop := fnBatchStillUptoRow.holds Try.pinned (OpenSpec.upto fnBatchStillSpec)

/-- 'laws.FnSetSwap', WHERE WHAT IT READS IS OF BULK AT MOST 1048576: true; the input reads as it did. -/
def fnSetSwapUptoRow : OpenClaim := { program := "ytbmdfmboabfceaa", sum := "d00794eadf14e21c2624566f5ce0794ead6d02157691fce8625ddcf273d18dff", func := "loop.example/tideline/laws.FnSetSwap", spec := "fnSetSwap", unfollowed := true, recurses := true, plainKeys := false, apart := false, narrowed := true }
def FnSetSwapUptoSaid : Prop := fnSetSwapUptoRow.holds Try.pinned (OpenSpec.upto fnSetSwapSpec)

/-- 'laws.FnSetKeep', WHERE WHAT IT READS IS OF BULK AT MOST 1048576: true; the input reads as it did. -/
def fnSetKeepUptoRow : OpenClaim := { program := "ytbmdfmboabfceaa", sum := "d00794eadf14e21c2624566f5ce0794ead6d02157691fce8625ddcf273d18dff", func := "loop.example/tideline/laws.FnSetKeep", spec := "fnSetKeep", unfollowed := true, recurses := true, plainKeys := false, apart := false, narrowed := true }
def FnSetKeepUptoSaid : Prop := fnSetKeepUptoRow.holds Try.pinned (OpenSpec.upto fnSetKeepSpec)

/-- 'laws.FnSetBoth', WHERE WHAT IT READS IS OF BULK AT MOST 1048576: true; the input reads as it did. -/
def fnSetBothUptoRow : OpenClaim := { program := "ytbmdfmboabfceaa", sum := "d00794eadf14e21c2624566f5ce0794ead6d02157691fce8625ddcf273d18dff", func := "loop.example/tideline/laws.FnSetBoth", spec := "fnSetBoth", unfollowed := true, recurses := true, plainKeys := false, apart := false, narrowed := true }
def FnSetBothUptoSaid : Prop := fnSetBothUptoRow.holds Try.pinned (OpenSpec.upto fnSetBothSpec)

/-- 'laws.FnSetLess', WHERE WHAT IT READS IS OF BULK AT MOST 1048576: true; the input reads as it did. -/
def fnSetLessUptoRow : OpenClaim := { program := "ytbmdfmboabfceaa", sum := "d00794eadf14e21c2624566f5ce0794ead6d02157691fce8625ddcf273d18dff", func := "loop.example/tideline/laws.FnSetLess", spec := "fnSetLess", unfollowed := true, recurses := true, plainKeys := false, apart := false, narrowed := true }
def FnSetLessUptoSaid : Prop := fnSetLessUptoRow.holds Try.pinned (OpenSpec.upto fnSetLessSpec)

/-- 'laws.FnSetEach', WHERE WHAT IT READS IS OF BULK AT MOST 1048576: true; the input reads as it did. -/
def fnSetEachUptoRow : OpenClaim := { program := "ytbmdfmboabfceaa", sum := "d00794eadf14e21c2624566f5ce0794ead6d02157691fce8625ddcf273d18dff", func := "loop.example/tideline/laws.FnSetEach", spec := "fnSetEach", unfollowed := true, recurses := true, plainKeys := false, apart := false, narrowed := true }
def FnSetEachUptoSaid : Prop := fnSetEachUptoRow.holds Try.pinned (OpenSpec.upto fnSetEachSpec)

/-- 'laws.FnSetJoin', WHERE WHAT IT READS IS OF BULK AT MOST 1048576: true; the input reads as it did. -/
def fnSetJoinUptoRow : OpenClaim := { program := "ytbmdfmboabfceaa", sum := "d00794eadf14e21c2624566f5ce0794ead6d02157691fce8625ddcf273d18dff", func := "loop.example/tideline/laws.FnSetJoin", spec := "fnSetJoin", inPlace := ["math/bits.Add64"], unfollowed := true, recurses := true, plainKeys := false, apart := false, narrowed := true }
def FnSetJoinUptoSaid : Prop := fnSetJoinUptoRow.holds Try.pinned (OpenSpec.upto fnSetJoinSpec)

/-- 'laws.FnSetJoinLess', WHERE WHAT IT READS IS OF BULK AT MOST 1048576: true; the input reads as it did. -/
def fnSetJoinLessUptoRow : OpenClaim := { program := "ytbmdfmboabfceaa", sum := "d00794eadf14e21c2624566f5ce0794ead6d02157691fce8625ddcf273d18dff", func := "loop.example/tideline/laws.FnSetJoinLess", spec := "fnSetJoinLess", inPlace := ["math/bits.Add64"], unfollowed := true, recurses := true, plainKeys := false, apart := false, narrowed := true }
def FnSetJoinLessUptoSaid : Prop := fnSetJoinLessUptoRow.holds Try.pinned (OpenSpec.upto fnSetJoinLessSpec)

/-- 'laws.FnSetJoinKeys', WHERE WHAT IT READS IS OF BULK AT MOST 1048576: true; the input reads as it did. -/
def fnSetJoinKeysUptoRow : OpenClaim := { program := "ytbmdfmboabfceaa", sum := "d00794eadf14e21c2624566f5ce0794ead6d02157691fce8625ddcf273d18dff", func := "loop.example/tideline/laws.FnSetJoinKeys", spec := "fnSetJoinKeys", inPlace := ["math/bits.Add64"], unfollowed := true, recurses := true, plainKeys := false, apart := false, narrowed := true }
def FnSetJoinKeysUptoSaid : Prop := fnSetJoinKeysUptoRow.holds Try.pinned (OpenSpec.upto fnSetJoinKeysSpec)

/-- 'laws.FnSetCount', WHERE WHAT IT READS IS OF BULK AT MOST 1048576: true; the input reads as it did. -/
def fnSetCountUptoRow : OpenClaim := { program := "ytbmdfmboabfceaa", sum := "d00794eadf14e21c2624566f5ce0794ead6d02157691fce8625ddcf273d18dff", func := "loop.example/tideline/laws.FnSetCount", spec := "fnSetCount", plainKeys := false, apart := false, narrowed := true }
def FnSetCountUptoSaid : Prop := fnSetCountUptoRow.holds Try.pinned (OpenSpec.upto fnSetCountSpec)

/-- 'laws.FnSetOnce', WHERE WHAT IT READS IS OF BULK AT MOST 1048576: true; the input reads as it did. -/
def fnSetOnceUptoRow : OpenClaim := { program := "ytbmdfmboabfceaa", sum := "d00794eadf14e21c2624566f5ce0794ead6d02157691fce8625ddcf273d18dff", func := "loop.example/tideline/laws.FnSetOnce", spec := "fnSetOnce", plainKeys := false, apart := false, narrowed := true }
def FnSetOnceUptoSaid : Prop := fnSetOnceUptoRow.holds Try.pinned (OpenSpec.upto fnSetOnceSpec)

/-- 'laws.FnSetLeast', WHERE WHAT IT READS IS OF BULK AT MOST 1048576: true; the input reads as it did. -/
def fnSetLeastUptoRow : OpenClaim := { program := "ytbmdfmboabfceaa", sum := "d00794eadf14e21c2624566f5ce0794ead6d02157691fce8625ddcf273d18dff", func := "loop.example/tideline/laws.FnSetLeast", spec := "fnSetLeast", unfollowed := true, recurses := true, plainKeys := false, apart := false, narrowed := true }
def FnSetLeastUptoSaid : Prop := fnSetLeastUptoRow.holds Try.pinned (OpenSpec.upto fnSetLeastSpec)

/-- 'laws.FnSetMore', WHERE WHAT IT READS IS OF BULK AT MOST 1048576: true; the input reads as it did. -/
def fnSetMoreUptoRow : OpenClaim := { program := "ytbmdfmboabfceaa", sum := "d00794eadf14e21c2624566f5ce0794ead6d02157691fce8625ddcf273d18dff", func := "loop.example/tideline/laws.FnSetMore", spec := "fnSetMore", unfollowed := true, recurses := true, plainKeys := false, apart := false, narrowed := true }
def FnSetMoreUptoSaid : Prop := fnSetMoreUptoRow.holds Try.pinned (OpenSpec.upto fnSetMoreSpec)

/-- 'laws.FnExactSetOk', WHERE WHAT IT READS IS OF BULK AT MOST 1048576: true; the input reads as it did. -/
def fnExactSetOkUptoRow : OpenClaim := { program := "ytbmdfmboabfceaa", sum := "d00794eadf14e21c2624566f5ce0794ead6d02157691fce8625ddcf273d18dff", func := "loop.example/tideline/laws.FnExactSetOk", spec := "fnExactSetOk", plainKeys := false, apart := false, narrowed := true }
def FnExactSetOkUptoSaid : Prop := fnExactSetOkUptoRow.holds Try.pinned (OpenSpec.upto fnExactSetOkSpec)

/-- 'laws.FnExactSetEach', WHERE WHAT IT READS IS OF BULK AT MOST 1048576: true; the input reads as it did. -/
def fnExactSetEachUptoRow : OpenClaim := { program := "ytbmdfmboabfceaa", sum := "d00794eadf14e21c2624566f5ce0794ead6d02157691fce8625ddcf273d18dff", func := "loop.example/tideline/laws.FnExactSetEach", spec := "fnExactSetEach", unfollowed := true, recurses := true, plainKeys := false, apart := false, narrowed := true }
def FnExactSetEachUptoSaid : Prop := fnExactSetEachUptoRow.holds Try.pinned (OpenSpec.upto fnExactSetEachSpec)

/-- 'laws.FnExactSetBoth', WHERE WHAT IT READS IS OF BULK AT MOST 1048576: true; the input reads as it did. -/
def fnExactSetBothUptoRow : OpenClaim := { program := "ytbmdfmboabfceaa", sum := "d00794eadf14e21c2624566f5ce0794ead6d02157691fce8625ddcf273d18dff", func := "loop.example/tideline/laws.FnExactSetBoth", spec := "fnExactSetBoth", unfollowed := true, recurses := true, plainKeys := false, apart := false, narrowed := true }
def FnExactSetBothUptoSaid : Prop := fnExactSetBothUptoRow.holds Try.pinned (OpenSpec.upto fnExactSetBothSpec)

/-- 'laws.FnExactSetLess', WHERE WHAT IT READS IS OF BULK AT MOST 1048576: true; the input reads as it did. -/
def fnExactSetLessUptoRow : OpenClaim := { program := "ytbmdfmboabfceaa", sum := "d00794eadf14e21c2624566f5ce0794ead6d02157691fce8625ddcf273d18dff", func := "loop.example/tideline/laws.FnExactSetLess", spec := "fnExactSetLess", plainKeys := false, apart := false, narrowed := true }
def FnExactSetLessUptoSaid : Prop := fnExactSetLessUptoRow.holds Try.pinned (OpenSpec.upto fnExactSetLessSpec)

/-- 'laws.FnExactSetJoin', WHERE WHAT IT READS IS OF BULK AT MOST 1048576: true; the input reads as it did. -/
def fnExactSetJoinUptoRow : OpenClaim := { program := "ytbmdfmboabfceaa", sum := "d00794eadf14e21c2624566f5ce0794ead6d02157691fce8625ddcf273d18dff", func := "loop.example/tideline/laws.FnExactSetJoin", spec := "fnExactSetJoin", inPlace := ["math/bits.Add64"], unfollowed := true, recurses := true, plainKeys := false, apart := false, narrowed := true }
def FnExactSetJoinUptoSaid : Prop := fnExactSetJoinUptoRow.holds Try.pinned (OpenSpec.upto fnExactSetJoinSpec)

/-- 'laws.FnExactSetCount', WHERE WHAT IT READS IS OF BULK AT MOST 1048576: true; the input reads as it did. -/
def fnExactSetCountUptoRow : OpenClaim := { program := "ytbmdfmboabfceaa", sum := "d00794eadf14e21c2624566f5ce0794ead6d02157691fce8625ddcf273d18dff", func := "loop.example/tideline/laws.FnExactSetCount", spec := "fnExactSetCount", plainKeys := false, apart := false, narrowed := true }
def FnExactSetCountUptoSaid : Prop := fnExactSetCountUptoRow.holds Try.pinned (OpenSpec.upto fnExactSetCountSpec)

/-- 'laws.FnExactSetOnce', WHERE WHAT IT READS IS OF BULK AT MOST 1048576: true; the input reads as it did. -/
def fnExactSetOnceUptoRow : OpenClaim := { program := "ytbmdfmboabfceaa", sum := "d00794eadf14e21c2624566f5ce0794ead6d02157691fce8625ddcf273d18dff", func := "loop.example/tideline/laws.FnExactSetOnce", spec := "fnExactSetOnce", plainKeys := false, apart := false, narrowed := true }
def FnExactSetOnceUptoSaid : Prop := fnExactSetOnceUptoRow.holds Try.pinned (OpenSpec.upto fnExactSetOnceSpec)

/-- 'laws.FnExactSetLeast', WHERE WHAT IT READS IS OF BULK AT MOST 1048576: true; the input reads as it did. -/
def fnExactSetLeastUptoRow : OpenClaim := { program := "ytbmdfmboabfceaa", sum := "d00794eadf14e21c2624566f5ce0794ead6d02157691fce8625ddcf273d18dff", func := "loop.example/tideline/laws.FnExactSetLeast", spec := "fnExactSetLeast", unfollowed := true, recurses := true, plainKeys := false, apart := false, narrowed := true }
def FnExactSetLeastUptoSaid : Prop := fnExactSetLeastUptoRow.holds Try.pinned (OpenSpec.upto fnExactSetLeastSpec)

end Rows
end Go.Proofs.Ytbmdfmboabfceaa
