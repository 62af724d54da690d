/- LoopFlow of the program: the contract. -/
import Derived.Test.YtjlaeeccnbdghaaLf0
import Derived.Test.YtjlaeeccnbdghaaLk2
import Derived.Test.YtjlaeeccnbdghaaGs2
import Derived.Deep.RegionHeld3
namespace Go.Proofs.Ytjlaeeccnbdghaa
open Go.RowKit Go.Shelf

theorem roundsOf_k (a b : Option Addr) (n c n' c' : Nat) (w : World) :
    Calls Try.prog 53 #[.slice a n c, .slice b n' c'] w fun e w' => e = .returned (.func (.func 80) #[] #[.pointer (some ⟨w.heap.size, 0, none⟩), .pointer (some ⟨w.heap.size + 1, 0, none⟩), .pointer (some ⟨w.heap.size + 2, 0, none⟩)]) ∧ Below w.heap.size w w' ∧ Bk w' w.heap.size #[.slice a n c] 23 ∧ Bk w' (w.heap.size + 1) #[.slice b n' c'] 23 ∧ Bk w' (w.heap.size + 2) #[.slice none 0 0] 23 := by
  refine (roundsOf_any a b n c n' c' w).mono ?_
  rintro e w3 ⟨rfl, rfl⟩
  exact ⟨rfl, bAlloc (bAlloc (bAlloc (Below.refl _ _) _) _) _, ((Bk.new _ _ rfl).alloc _).alloc _, (Bk.new (w := w.alloc _) _ _ (by simp)).alloc _, Bk.new (w := (w.alloc _).alloc _) _ _ (by simp)⟩
end Go.Proofs.Ytjlaeeccnbdghaa
