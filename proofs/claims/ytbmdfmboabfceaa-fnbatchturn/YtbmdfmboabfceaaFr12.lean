/- Plain facts on fronts, and contracts in the form in which the laws use them. -/
import Derived.Test.YtbmdfmboabfceaaFr7
import Derived.Test.YtbmdfmboabfceaaFr11
import Derived.ProofKit
import Derived.OpenShut
import Derived.ShutString
import Derived.ChangeOld
import Derived.Below
import Derived.Lib.SmallJoins
namespace Go.Proofs.Ytbmdfmboabfceaa
open Go.RowKit
theorem leB_trans {a b c d e f : Int} (h : leB a b c d = true) (h' : leB c d e f = true) : leB a b e f = true := by
  simp [leB] at *; exact ⟨⟨⟨h.1.1.1, h'.1.1.2⟩, by omega⟩, by omega⟩
theorem leB_self (a b : Int) : leB a b a b = okB a b := by simp [leB]
theorem any_at {l : List (Int × Int)} {x y : Int} (h : anyB l x y = true) : ∃ k, k < l.length ∧ leB (tA l k) (tB l k) x y = true := by
  unfold anyB at h; rw [List.any_eq_true] at h
  obtain ⟨k, hk, h⟩ := h
  exact ⟨k, by simpa using hk, h⟩
theorem any_trans {l : List (Int × Int)} {x y X Y : Int} (h : anyB l x y = true) (h' : leB x y X Y = true) : anyB l X Y = true := by
  obtain ⟨k, hk, h⟩ := any_at h
  exact any_true hk (leB_trans h h')
theorem fok_ok {l : List (Int × Int)} (h : fokB l = true) {k : Nat} (hk : k < l.length) : okB (tA l k) (tB l k) = true := by
  have := fok_at h hk; simp [stepOk] at this; exact this.1
theorem any_self {l : List (Int × Int)} (h : fokB l = true) {k : Nat} (hk : k < l.length) : anyB l (tA l k) (tB l k) = true :=
  any_true hk (by rw [leB_self]; exact fok_ok h hk)
theorem ts_bel {w : World} {v : Value} {l : List (Int × Int)} (h : Ts w v l) (p : Bel w) : Ts p.ww v l := h.keep p.below
theorem implLess_eq {a b c d : Int} {r : Bool} (h : leB a b c d = r) (w : World) : Calls Try.prog 68 #[tv a b, tv c d] w fun e w' => e = .returned (.bool r) ∧ Below w.heap.size w w' := by
  rw [← h]; exact implLess_any a b c d w
theorem implCovers_eq {l : List (Int × Int)} {x y : Int} {r : Bool} (h : (fokB l && anyB l x y) = r) {v : Value} {w : World} (ht : Ts w v l) : Calls Try.prog 59 #[v, tv x y] w fun e w' => e = .returned (.bool r) ∧ Below w.heap.size w w' := by
  rw [← h]; exact implCovers_any v l x y w ht
theorem specCovers_eq {l : List (Int × Int)} {x y : Int} {r : Bool} (h : (fokB l && anyB l x y) = r) {v : Value} {w : World} (ht : Ts w v l) : Calls Try.prog 106 #[v, tv x y] w fun e w' => e = .returned (.bool r) ∧ Below w.heap.size w w' := by
  rw [← h]; exact specCovers_any v l x y w ht
theorem specFrontOk_eq {l : List (Int × Int)} {r : Bool} (h : fokB l = r) {v : Value} {w : World} (ht : Ts w v l) : Calls Try.prog 58 #[v] w fun e w' => e = .returned (.bool r) ∧ Below w.heap.size w w' := by
  rw [← h]; exact specFrontOk_any v l w ht
end Go.Proofs.Ytbmdfmboabfceaa
