import Derived.Test.YtldejkhemkjcgaaGreatDoorGlk
import Derived.Test.YtldejkhemkjcgaaGreatDoorGl1
import Derived.Test.YtldejkhemkjcgaaGreatDoorGq1
import Derived.Test.YtldejkhemkjcgaaGreatDoorGq3
import Derived.Test.YtldejkhemkjcgaaGreatDoorGtX
import Derived.Test.YtldejkhemkjcgaaGreatDoorGs7
import Derived.Test.YtldejkhemkjcgaaGreatDoorGs2
import Derived.Test.YtldejkhemkjcgaaGreatDoorGj5
import Derived.Deep.RegionHeld3
namespace Go.Proofs.YtldejkhemkjcgaaGreatDoor
open Go.RowKit
end Go.Proofs.YtldejkhemkjcgaaGreatDoor
namespace Go.Proofs.YtldejkhemkjcgaaGreatDoor
open Go.RowKit Go.Shelf
end Go.Proofs.YtldejkhemkjcgaaGreatDoor
namespace Go.Proofs.YtldejkhemkjcgaaGreatDoor
open Go.RowKit Go.Shelf
theorem l3Key_part {kind : Int} (h : inB kind 1 3 = true) (key : Int) (u : Value) (s : List It) (W : World) (hs : Is W u s) (hk : sokB s = true) :
    Calls Tryz.prog 158 #[u, .int .i64 key, .int .i64 kind] W fun e w' => ∃ o : Value, e = .returned o ∧ OwnI w' W.heap.size o (partK kind s key) ∧ Below W.heap.size W w' := by
  have h' : kind = 1 ∨ kind = 2 ∨ kind = 3 := by simp [inB] at h; omega
  rcases h' with rfl | rfl | rfl
  · exact l3Key_1 u s key W hs hk
  · exact l3Key_2 u s key W hs hk
  · exact l3Key_3 u s key W hs hk
end Go.Proofs.YtldejkhemkjcgaaGreatDoor
