import Derived.Test.YtbdpcngcbnoioaaDoorGqa
import Derived.Test.YtbdpcngcbnoioaaDoorGmr
namespace Go.Proofs.YtbdpcngcbnoioaaDoor
open Go.RowKit Go.Shelf
attribute [local go_sem ↓] Go.wp_at_zero Go.wp_at_succ
attribute [local go_sem ↓] Go.wp_at_zero Go.wp_at_succ
end Go.Proofs.YtbdpcngcbnoioaaDoor
