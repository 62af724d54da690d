/- Contracts of chapter 2 in the form in which the laws use them. -/
import Derived.Test.YtbmdfmboabfceaaLw2
import Derived.Test.YtbmdfmboabfceaaDr5
import Derived.Test.YtbmdfmboabfceaaSc2
import Derived.Test.YtbmdfmboabfceaaSd2
import Derived.Test.YtbmdfmboabfceaaSe2
import Derived.Test.YtbmdfmboabfceaaSf3
import Derived.Test.YtbmdfmboabfceaaSg2
import Derived.Test.YtbmdfmboabfceaaFr24
namespace Go.Proofs.Ytbmdfmboabfceaa
open Go.RowKit

theorem ofOwnR {f : FuncId} {args : Array Value} {w : World} {L M : List Rw} (e : M = L) (hl : M.length ≤ 2097152) (h : Calls Try.prog f args w fun e w' => ∃ o : Value, e = .returned o ∧ OwnR w' w.heap.size o M ∧ Below w.heap.size w w') :
    Calls Try.prog f args w fun e w' => ∃ o : Value, e = .returned o ∧ Rs w' o L ∧ Below w.heap.size w w' := by
  subst e
  refine h.mono ?_
  rintro e w' ⟨o, rfl, own, hb⟩
  exact ⟨o, rfl, OwnR.rs own hl, hb⟩
theorem ofOwnI {f : FuncId} {args : Array Value} {w : World} {L M : List It} (e : M = L) (hl : M.length ≤ 2097152) (h : Calls Try.prog f args w fun e w' => ∃ o : Value, e = .returned o ∧ OwnI w' w.heap.size o M ∧ Below w.heap.size w w') :
    Calls Try.prog f args w fun e w' => ∃ o : Value, e = .returned o ∧ Is w' o L ∧ Below w.heap.size w w' := by
  subst e
  refine h.mono ?_
  rintro e w' ⟨o, rfl, own, hb⟩
  exact ⟨o, rfl, OwnI.is own hl, hb⟩
theorem ofOwnT {f : FuncId} {args : Array Value} {w : World} {L M : List (Int × Int)} (e : M = L) (hl : M.length ≤ 2097152) (h : Calls Try.prog f args w fun e w' => ∃ o : Value, e = .returned o ∧ Own w' w.heap.size o M ∧ Below w.heap.size w w') :
    Calls Try.prog f args w fun e w' => ∃ o : Value, e = .returned o ∧ Ts w' o L ∧ Below w.heap.size w w' := by
  subst e
  refine h.mono ?_
  rintro e w' ⟨o, rfl, own, hb⟩
  exact ⟨o, rfl, Own.ts own hl, hb⟩
theorem implBatchOf_k {l L : List Rw} (e : batchL l = L) {v : Value} {w : World} (h : Rs w v l) : Calls Try.prog 35 #[v] w fun e w' => ∃ o : Value, e = .returned o ∧ Rs w' o L ∧ Below w.heap.size w w' :=
  ofOwnR e (by have := batch_len l; omega) (implBatchOf_any v l w h)
theorem specBatchOf_k {l L : List Rw} (e : batchL l = L) {v : Value} {w : World} (h : Rs w v l) : Calls Try.prog 37 #[v] w fun e w' => ∃ o : Value, e = .returned o ∧ Rs w' o L ∧ Below w.heap.size w w' :=
  ofOwnR e (by have := batch_len l; omega) (specBatchOf_any v l w h)
theorem implBothB_k {l l' L : List Rw} (e : bothB l l' = L) {v v' : Value} {w : World} (h : Rs w v l) (h' : Rs w v' l') : Calls Try.prog 45 #[v, v'] w fun e w' => ∃ o : Value, e = .returned o ∧ Rs w' o L ∧ Below w.heap.size w w' :=
  ofOwnR e (by have := bothB_len l l'; omega) (implBothB_any v v' l l' w h h')
theorem specBothB_k {l l' L : List Rw} (e : bothB l l' = L) {v v' : Value} {w : World} (h : Rs w v l) (h' : Rs w v' l') : Calls Try.prog 46 #[v, v'] w fun e w' => ∃ o : Value, e = .returned o ∧ Rs w' o L ∧ Below w.heap.size w w' :=
  ofOwnR e (by have := bothB_len l l'; omega) (specBothB_any v v' l l' w h h')
theorem implLessB_k {l L : List Rw} (e : lessL l = L) {v : Value} {w : World} (h : Rs w v l) : Calls Try.prog 52 #[v] w fun e w' => ∃ o : Value, e = .returned o ∧ Rs w' o L ∧ Below w.heap.size w w' :=
  ofOwnR e (by have := less_len l; omega) (implLess2_any v l w h)
theorem specLessB_k {l L : List Rw} (e : lessL l = L) {v : Value} {w : World} (h : Rs w v l) : Calls Try.prog 53 #[v] w fun e w' => ∃ o : Value, e = .returned o ∧ Rs w' o L ∧ Below w.heap.size w w' :=
  ofOwnR e (by have := less_len l; omega) (specLess2_any v l w h)
theorem implMoveB_k {l L : List Rw} {f : List (Int × Int)} (e : bmoveL l f = L) {v v' : Value} {w : World} (h : Rs w v l) (h' : Ts w v' f) : Calls Try.prog 56 #[v, v'] w fun e w' => ∃ o : Value, e = .returned o ∧ Rs w' o L ∧ Below w.heap.size w w' :=
  ofOwnR e (by have := bmove_len l f; omega) (implMove2_any v v' l f w h h')
theorem specMoveB_k {l L : List Rw} {f : List (Int × Int)} (e : bmoveL l f = L) {v v' : Value} {w : World} (h : Rs w v l) (h' : Ts w v' f) : Calls Try.prog 57 #[v, v'] w fun e w' => ∃ o : Value, e = .returned o ∧ Rs w' o L ∧ Below w.heap.size w w' :=
  ofOwnR e (by have := bmove_len l f; omega) (specMove2_any v v' l f w h h')
theorem implTimesB_k {l : List Rw} {L : List (Int × Int)} (e : timesL l = L) {v : Value} {w : World} (h : Rs w v l) : Calls Try.prog 61 #[v] w fun e w' => ∃ o : Value, e = .returned o ∧ Ts w' o L ∧ Below w.heap.size w w' :=
  ofOwnT e (by have := times_len l; omega) (implTimes2_any v l w h)
theorem specTimesB_k {l : List Rw} {L : List (Int × Int)} (e : timesL l = L) {v : Value} {w : World} (h : Rs w v l) : Calls Try.prog 63 #[v] w fun e w' => ∃ o : Value, e = .returned o ∧ Ts w' o L ∧ Below w.heap.size w w' :=
  ofOwnT e (by have := times_len l; omega) (specTimes2_any v l w h)
theorem specAt_k {l : List Rw} {x y : Int} {L : List It} (e : itemsL l x y = L) {v : Value} {w : World} (h : Rs w v l) : Calls Try.prog 66 #[v, tv x y] w fun e w' => ∃ o : Value, e = .returned o ∧ Is w' o L ∧ Below w.heap.size w w' :=
  ofOwnI e (by have := items_len l x y; omega) (specAt_any v l x y w h)
theorem implFrontOf_k {l L : List (Int × Int)} (e : frontL l = L) {v : Value} {w : World} (h : Ts w v l) : Calls Try.prog 64 #[v] w fun e w' => ∃ o : Value, e = .returned o ∧ Ts w' o L ∧ Below w.heap.size w w' :=
  ofOwnT e (by have := front_len8 l; omega) (implFrontOf_any v l w h)
theorem nilR (w : World) : Rs w (.slice none 0 0) [] := OwnR.rs (ownK_nil rowC 5 33 w 0) (by simp)
theorem nilI (w : World) : Is w (.slice none 0 0) [] := OwnI.is (ownK_nil itC 3 64 w 0) (by simp)
theorem nilT (w : World) : Ts w (.slice none 0 0) [] := ⟨none, 0, rfl, Nat.le_refl _, by unfold maxLen; omega, by simp, fun i hi => by simp at hi⟩
end Go.Proofs.Ytbmdfmboabfceaa
