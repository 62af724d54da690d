import Derived.Test.YtdbhgocaelmanaaGreatGt5
import Derived.Test.YtdbhgocaelmanaaGreatGd4
import Derived.Test.YtdbhgocaelmanaaGreatGd3
import Derived.Test.YtdbhgocaelmanaaGreatGt7
namespace Go.Proofs.YtdbhgocaelmanaaGreat
open Go.RowKit
theorem bothB_bok (a b : List Rw) : bokB (bothB a b) = true := by
  unfold bothB; split
  · exact sumF_bok _
  · exact bok_nil
end Go.Proofs.YtdbhgocaelmanaaGreat
namespace Go.Proofs.YtdbhgocaelmanaaGreat
open Go.RowKit
end Go.Proofs.YtdbhgocaelmanaaGreat
