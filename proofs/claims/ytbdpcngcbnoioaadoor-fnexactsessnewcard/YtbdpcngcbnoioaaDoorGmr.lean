import Derived.Test.YtbdpcngcbnoioaaDoorGtX
import Derived.Laws.EntriesVeiled
import Derived.Test.YtbdpcngcbnoioaaDoorGd4
import Derived.Test.YtbdpcngcbnoioaaDoorGl1
import Derived.OrdersIn
import Derived.Test.YtbdpcngcbnoioaaDoorGlk
import Derived.Deep.RegionLaw
import Derived.Sort.QuietIn
import Derived.Test.YtbdpcngcbnoioaaDoorGpm
namespace Go.Proofs.YtbdpcngcbnoioaaDoor
open Go.RowKit
open Go.ChangeMaps (setBlock)
open Go.ChangeMaps (setBlock)
end Go.Proofs.YtbdpcngcbnoioaaDoor
namespace Go.Proofs.YtbdpcngcbnoioaaDoor
open Go.RowKit
end Go.Proofs.YtbdpcngcbnoioaaDoor
namespace Go.Proofs.YtbdpcngcbnoioaaDoor
open Go.RowKit
end Go.Proofs.YtbdpcngcbnoioaaDoor
namespace Go.Proofs.YtbdpcngcbnoioaaDoor
open Go.RowKit
end Go.Proofs.YtbdpcngcbnoioaaDoor
namespace Go.Proofs.YtbdpcngcbnoioaaDoor
open Go.RowKit
attribute [local go_sem ↓] Go.wp_at_zero Go.wp_at_succ
open Go.Shelf
attribute [local go_sem] Oper.semAt_some
attribute [local go_sem] Oper.semAt_some
attribute [local go_sem] Oper.semAt_some
variable {b1 b2:Nat} {v:Value} {K V A B D V2 A2 B2 D2 JA JB:Int} {L:Array Bool} {W W':World} {t21 t22 t23 t24 t25 t26 t27 t28 t29 t30 t31 t32 t33 t34 t35 t36 t37 t38 t39 t40 t41:Value}
end Go.Proofs.YtbdpcngcbnoioaaDoor
namespace Go.Proofs.YtbdpcngcbnoioaaDoor
open Go.RowKit Go.Shelf
attribute [local go_sem] Oper.semAt_some
end Go.Proofs.YtbdpcngcbnoioaaDoor
namespace Go.Proofs.YtbdpcngcbnoioaaDoor
open Go.RowKit
attribute [local go_sem ↓] Go.wp_at_zero Go.wp_at_succ
open Go.Shelf
end Go.Proofs.YtbdpcngcbnoioaaDoor
namespace Go.Proofs.YtbdpcngcbnoioaaDoor
open Go.RowKit Go.Shelf
attribute [local go_sem] Oper.semAt_some
attribute [local go_sem] Oper.semAt_some
attribute [local go_sem] Oper.semAt_some
end Go.Proofs.YtbdpcngcbnoioaaDoor
namespace Go.Proofs.YtbdpcngcbnoioaaDoor
open Go.RowKit
open Go.Shelf
end Go.Proofs.YtbdpcngcbnoioaaDoor
namespace Go.Proofs.YtbdpcngcbnoioaaDoor
open Go.RowKit
end Go.Proofs.YtbdpcngcbnoioaaDoor
namespace Go.Proofs.YtbdpcngcbnoioaaDoor
open Go.RowKit Go.Shelf
open Go.ChangeMaps (setBlock)
open Go.ChangeMaps (setBlock)
attribute [local go_sem] Oper.semAt_some
end Go.Proofs.YtbdpcngcbnoioaaDoor
namespace Go.Proofs.YtbdpcngcbnoioaaDoor
open Go.RowKit
attribute [local go_sem ↓] Go.wp_at_zero Go.wp_at_succ
open Go.Shelf
end Go.Proofs.YtbdpcngcbnoioaaDoor
namespace Go.Proofs.YtbdpcngcbnoioaaDoor
open Go.RowKit Go.Shelf
end Go.Proofs.YtbdpcngcbnoioaaDoor
