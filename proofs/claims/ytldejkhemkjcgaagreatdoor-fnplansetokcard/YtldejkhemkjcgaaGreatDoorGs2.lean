import Derived.Test.YtldejkhemkjcgaaGreatDoorGm1
import Derived.Test.YtldejkhemkjcgaaGreatDoorGb3
import Derived.Deep.Cut
import Derived.Deep.RegionHeld3
import Derived.Test.YtldejkhemkjcgaaGreatDoorGrw
import Derived.Deep.AppendSrc
import Derived.Test.YtldejkhemkjcgaaGreatDoorGb1
import Derived.Test.YtldejkhemkjcgaaGreatDoorGa8
namespace Go.Proofs.YtldejkhemkjcgaaGreatDoor
open Go.RowKit
open Go.ChangeMaps (setBlock)
theorem zeroI : ∀ w : World, (zeroValue 3).run Tryz.prog w = .ok (.int .i64 0) w := Tryz.zeroValue3
end Go.Proofs.YtldejkhemkjcgaaGreatDoor
namespace Go.Proofs.YtldejkhemkjcgaaGreatDoor
open Go.RowKit
end Go.Proofs.YtldejkhemkjcgaaGreatDoor
namespace Go.Proofs.YtldejkhemkjcgaaGreatDoor
open Go.RowKit Go.Shelf
section
variable {ops : Array Oper} {rest : List Oper} {o : Oper} {a : Act} {Q : Exit → Act → World → Prop}
end
end Go.Proofs.YtldejkhemkjcgaaGreatDoor
namespace Go.Proofs.YtldejkhemkjcgaaGreatDoor
open Go.RowKit
end Go.Proofs.YtldejkhemkjcgaaGreatDoor
namespace Go.Proofs.YtldejkhemkjcgaaGreatDoor
open Go.RowKit
end Go.Proofs.YtldejkhemkjcgaaGreatDoor
namespace Go.Proofs.YtldejkhemkjcgaaGreatDoor
open Go.RowKit
end Go.Proofs.YtldejkhemkjcgaaGreatDoor
namespace Go.Proofs.YtldejkhemkjcgaaGreatDoor
open Go.RowKit
end Go.Proofs.YtldejkhemkjcgaaGreatDoor
namespace Go.Proofs.YtldejkhemkjcgaaGreatDoor
open Go.RowKit
end Go.Proofs.YtldejkhemkjcgaaGreatDoor
