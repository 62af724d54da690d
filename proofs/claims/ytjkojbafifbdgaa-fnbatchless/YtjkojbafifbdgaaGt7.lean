/- What the ways of making others of things answer, of the program: contracts. -/
import Derived.Test.YtjkojbafifbdgaaGtX
import Derived.Test.YtjkojbafifbdgaaGm1
import Derived.Laws.EntriesVeiled
/-! What the ways of making others of things answer, of the program: contracts. -/
namespace Go.Proofs.Ytjkojbafifbdgaa
open Go.RowKit

theorem ret_way {a b c d : Int} {x y : Bool} (h1 : a = c) (h2 : b = d) (h3 : x = y) : Ending.returned (.tuple #[.agg #[.int .i64 a, .int .i64 b], .bool x]) = .returned (.tuple #[.agg #[.int .i64 c, .int .i64 d], .bool y]) := by rw [h1, h2, h3]
abbrev thC (K V : Int) : Obj := .cells #[.int .i64 K, .int .i64 V] 85
theorem th_box (K V : Int) (w : World) : Bk ((w.alloc (thC K V)).alloc (thC 0 0)) w.heap.size #[.int .i64 K, .int .i64 V] 85 ∧ Bk ((w.alloc (thC K V)).alloc (thC 0 0)) (w.heap.size + 1) #[.int .i64 0, .int .i64 0] 85 ∧ Below w.heap.size w ((w.alloc (thC K V)).alloc (thC 0 0)) :=
  ⟨(Bk.new _ _ rfl).alloc _, Bk.new _ _ (by simp), bAlloc (bAlloc (Below.refl _ _) _) _⟩
end Go.Proofs.Ytjkojbafifbdgaa

/-! SetEach of the model: the contract. -/
namespace Go.Proofs.Ytjkojbafifbdgaa
open Go.RowKit

theorem ret_one {a b c d : Int} {x y : Bool} (h1 : a = c) (h2 : b = d) (h3 : x = y) : Ending.returned (.tuple #[.int .i64 a, .int .i64 b, .bool x]) = .returned (.tuple #[.int .i64 c, .int .i64 d, .bool y]) := by rw [h1, h2, h3]
theorem eachT_yes {how : Int} {l : List It} {k : Nat} {s : Int × Int} {d : Int} (h : l[k]? = some (s, d)) (hp : wayP how s = true) : eachT how (l.take (k + 1)) = eachT how (l.take k) ++ [(wayM how s, d)] := by
  unfold eachT; rw [take_snoc h, List.filter_append, List.map_append]; simp [hp]
theorem eachT_no {how : Int} {l : List It} {k : Nat} {s : Int × Int} {d : Int} (h : l[k]? = some (s, d)) (hp : wayP how s = false) : eachT how (l.take (k + 1)) = eachT how (l.take k) := by
  unfold eachT; rw [take_snoc h, List.filter_append, List.map_append]; simp [hp]
theorem sumT_nil : sumL ltT ([] : List It) = [] := rfl
end Go.Proofs.Ytjkojbafifbdgaa

/-! SetEach of the program: the contract, a way. -/
namespace Go.Proofs.Ytjkojbafifbdgaa
open Go.RowKit
open Go.ChangeMaps (setBlock)

end Go.Proofs.Ytjkojbafifbdgaa

/-! SetEach of the program: the contract, a way. -/
namespace Go.Proofs.Ytjkojbafifbdgaa
open Go.RowKit
open Go.ChangeMaps (setBlock)

end Go.Proofs.Ytjkojbafifbdgaa
