/- What FrontMove answers: a contract of the program's. -/
import Derived.Test.YtlddhfimiignaaaGa5
import Derived.Test.YtlddhfimiignaaaGa3
import Derived.WalkSpells
import Derived.Deep.RegionWith
/-! What FrontMove answers: a contract of the program's. -/
namespace Go.Proofs.Ytlddhfimiignaaa
open Go.RowKit
attribute [local go_sem ↓] Go.wp_at_zero Go.wp_at_succ

/-- The time x y moved by the first k + 1 times of l. -/
def mvP (l : List (Int × Int)) (x y : Int) : Nat → Int × Int
  | 0 => (jnA x y (tA l 0) (tB l 0), jnB x y (tA l 0) (tB l 0))
  | k + 1 => (mtA (mvP l x y k).1 (mvP l x y k).2 (jnA x y (tA l (k + 1)) (tB l (k + 1))) (jnB x y (tA l (k + 1)) (tB l (k + 1))), mtB (mvP l x y k).1 (mvP l x y k).2 (jnA x y (tA l (k + 1)) (tB l (k + 1))) (jnB x y (tA l (k + 1)) (tB l (k + 1))))
def moveV (l : List (Int × Int)) (x y : Int) : Int × Int := if fokB l && okB x y then (if l.length = 0 then (x, y) else mvP l x y (l.length - 1)) else (0, 0)

theorem keep_k {C : Prop} {w w1 : World} {k : Nat} {x y : Value} {t : TypeId} (hb : Below w.heap.size w w1) (h : Bk w k #[x, y] t)
    (c : Bk w1 k #[x, y] t → w1.cell? ⟨k, 0, none⟩ = some x → w1.cell? ⟨k, 1, none⟩ = some y → w1.frozen? ⟨k, 0, none⟩ = false → w1.frozen? ⟨k, 1, none⟩ = false → C) : C :=
  have a := h.keep hb
  c a a.two.1 a.two.2.1 a.two.2.2.1 a.two.2.2.2
theorem fin2 {K : World → Prop} {B R1 : Nat} {w0 w : World} {x0 y0 a b : Value} {t : TypeId} (h1 : Bk w R1 #[x0, y0] t) (hb : Below B w0 w) (hB1 : B ≤ R1)
    (k : ∀ W, Bk W R1 #[a, b] t → Below B w0 W → K W) : K ((w.setCell ⟨R1, 0, none⟩ a).setCell ⟨R1, 1, none⟩ b) :=
  k _ (h1.set01 a b) ((hb.setCell hB1 a).setCell hB1 b)
theorem tail_times (gf off n cap : Nat) (h1 : 1 ≤ n) (hc : n ≤ cap) (hm : cap ≤ maxLen) : ∃ a1 c1 : Nat, (1 < n → a1 = off + 2) ∧ ∀ u : World, (Instr.slice 41 (.slice (some ⟨gf, off, none⟩) n cap) (some (.int .i64 1)) Option.none Option.none).run Try.prog u = .ok (.slice (some ⟨gf, a1, none⟩) (n - 1) c1) u := by
  have ht : Try.prog.underlying 41 = some (.slice (Try.prog.elem 41)) := by kernel_rfl
  have hs : ∀ u : World, (sizeOf (Try.prog.elem 41)).run Try.prog u = .ok 2 u := fun u => by kernel_rfl
  by_cases h : cap = 1
  · subst h
    refine ⟨off, 0, fun h => by omega, fun u => ?_⟩
    obtain rfl : n = 1 := by omega
    rw [run_slice_l (P := Try.prog) u 41 _ _ _ ht .i64 1 (by omega) (by omega), hs u]
    simp [Result.andThen, sliced]
  · refine ⟨off + 2, cap - 1, fun _ => rfl, fun u => ?_⟩
    rw [run_slice_l (P := Try.prog) u 41 _ _ _ ht .i64 1 (by omega) (by omega), hs u]
    simp [Result.andThen, sliced, Addr.add]; exact h

end Go.Proofs.Ytlddhfimiignaaa

/-! What FrontMove of the model answers: a contract. -/
namespace Go.Proofs.Ytlddhfimiignaaa
open Go.RowKit
attribute [local go_sem ↓] Go.wp_at_zero Go.wp_at_succ

theorem jnA_comm (a b c d : Int) : jnA c d a b = jnA a b c d := by unfold jnA; rw [Bool.and_comm, Int.max_comm]
theorem jnB_comm (a b c d : Int) : jnB c d a b = jnB a b c d := by unfold jnB; rw [Bool.and_comm, Int.max_comm]
theorem specJoin_turn (a b c d : Int) (w : World) :
    Calls Try.prog 82 #[tv c d, tv a b] w fun e w' => e = .returned (tv (jnA a b c d) (jnB a b c d)) ∧ Below w.heap.size w w' := by
  have := specJoin_any c d a b w
  rw [jnA_comm, jnB_comm] at this
  exact this

end Go.Proofs.Ytlddhfimiignaaa
