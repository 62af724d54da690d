/- What FrontMove answers: a contract of the program's. -/
import Derived.Test.YtjmkcdlkmkhaiaaGa5
import Derived.Test.YtjmkcdlkmkhaiaaGa3
import Derived.WalkSpells
import Derived.Deep.RegionWith
import Derived.Test.YtjmkcdlkmkhaiaaGa4
/-! What FrontMove answers: a contract of the program's. -/
namespace Go.Proofs.Ytjmkcdlkmkhaiaa
open Go.RowKit
attribute [local go_sem ↓] Go.wp_at_zero Go.wp_at_succ

/-- The time x y moved by the first k + 1 times of l. -/
def mvP (l : List (Int × Int)) (x y : Int) : Nat → Int × Int
  | 0 => (jnA x y (tA l 0) (tB l 0), jnB x y (tA l 0) (tB l 0))
  | k + 1 => (mtA (mvP l x y k).1 (mvP l x y k).2 (jnA x y (tA l (k + 1)) (tB l (k + 1))) (jnB x y (tA l (k + 1)) (tB l (k + 1))), mtB (mvP l x y k).1 (mvP l x y k).2 (jnA x y (tA l (k + 1)) (tB l (k + 1))) (jnB x y (tA l (k + 1)) (tB l (k + 1))))
def moveV (l : List (Int × Int)) (x y : Int) : Int × Int := if fokB l && okB x y then (if l.length = 0 then (x, y) else mvP l x y (l.length - 1)) else (0, 0)

theorem keep_k {C : Prop} {w w1 : World} {k : Nat} {x y : Value} {t : TypeId} (hb : Below w.heap.size w w1) (h : Bk w k #[x, y] t)
    (c : Bk w1 k #[x, y] t → w1.cell? ⟨k, 0, none⟩ = some x → w1.cell? ⟨k, 1, none⟩ = some y → w1.frozen? ⟨k, 0, none⟩ = false → w1.frozen? ⟨k, 1, none⟩ = false → C) : C :=
  have a := h.keep hb
  c a a.two.1 a.two.2.1 a.two.2.2.1 a.two.2.2.2
theorem fin2 {K : World → Prop} {B R1 : Nat} {w0 w : World} {x0 y0 a b : Value} {t : TypeId} (h1 : Bk w R1 #[x0, y0] t) (hb : Below B w0 w) (hB1 : B ≤ R1)
    (k : ∀ W, Bk W R1 #[a, b] t → Below B w0 W → K W) : K ((w.setCell ⟨R1, 0, none⟩ a).setCell ⟨R1, 1, none⟩ b) :=
  k _ (h1.set01 a b) ((hb.setCell hB1 a).setCell hB1 b)
theorem tail_times (gf off n cap : Nat) (h1 : 1 ≤ n) (hc : n ≤ cap) (hm : cap ≤ maxLen) : ∃ a1 c1 : Nat, (1 < n → a1 = off + 2) ∧ ∀ u : World, (Instr.slice 41 (.slice (some ⟨gf, off, none⟩) n cap) (some (.int .i64 1)) Option.none Option.none).run Try.prog u = .ok (.slice (some ⟨gf, a1, none⟩) (n - 1) c1) u := by
  have ht : Try.prog.underlying 41 = some (.slice (Try.prog.elem 41)) := by kernel_rfl
  have hs : ∀ u : World, (sizeOf (Try.prog.elem 41)).run Try.prog u = .ok 2 u := fun u => by kernel_rfl
  by_cases h : cap = 1
  · subst h
    refine ⟨off, 0, fun h => by omega, fun u => ?_⟩
    obtain rfl : n = 1 := by omega
    rw [run_slice_l (P := Try.prog) u 41 _ _ _ ht .i64 1 (by omega) (by omega), hs u]
    simp [Result.andThen, sliced]
  · refine ⟨off + 2, cap - 1, fun _ => rfl, fun u => ?_⟩
    rw [run_slice_l (P := Try.prog) u 41 _ _ _ ht .i64 1 (by omega) (by omega), hs u]
    simp [Result.andThen, sliced, Addr.add]; exact h

end Go.Proofs.Ytjmkcdlkmkhaiaa

/-! What FrontMove of the model answers: a contract. -/
namespace Go.Proofs.Ytjmkcdlkmkhaiaa
open Go.RowKit
attribute [local go_sem ↓] Go.wp_at_zero Go.wp_at_succ

theorem jnA_comm (a b c d : Int) : jnA c d a b = jnA a b c d := by unfold jnA; rw [Bool.and_comm, Int.max_comm]
theorem jnB_comm (a b c d : Int) : jnB c d a b = jnB a b c d := by unfold jnB; rw [Bool.and_comm, Int.max_comm]
theorem specJoin_turn (a b c d : Int) (w : World) :
    Calls Try.prog 77 #[tv c d, tv a b] w fun e w' => e = .returned (tv (jnA a b c d) (jnB a b c d)) ∧ Below w.heap.size w w' := by
  have := specJoin_any c d a b w
  rw [jnA_comm, jnB_comm] at this
  exact this

end Go.Proofs.Ytjmkcdlkmkhaiaa

/-! What the search through a list of times by a function that is handed on answers, and FrontCovers of the program and of its model: contracts. -/
namespace Go.Proofs.Ytjmkcdlkmkhaiaa
open Go.RowKit

/-- Is one of the times not later than x y? -/
def anyB (l : List (Int × Int)) (x y : Int) : Bool := (List.range l.length).any fun i => leB (tA l i) (tB l i) x y
theorem any_true {l : List (Int × Int)} {x y : Int} {k : Nat} (hk : k < l.length) (h : leB (tA l k) (tB l k) x y = true) : anyB l x y = true := by
  unfold anyB; rw [List.any_eq_true]; exact ⟨k, by simpa using hk, h⟩
theorem any_false {l : List (Int × Int)} {x y : Int} (h : ∀ j, j < l.length → leB (tA l j) (tB l j) x y = false) : anyB l x y = false := by
  unfold anyB; rw [List.any_eq_false]; intro j hj; rw [h j (by simpa using hj)]; simp
/-- A function value of one cell. -/
def Fk (w : World) (k : Nat) : Prop := w.heap[k]? = some (.cells #[.func (.func 109) #[] #[]] 125 (0, 0))
theorem Fk.keep {w w1 : World} {k : Nat} (h : Fk w k) (hb : Below w.heap.size w w1) : Fk w1 k := by
  unfold Fk; rw [hb.block k (lt_of_block h)]; exact h
theorem Fk.cell {w : World} {k : Nat} (h : Fk w k) : w.cell? ⟨k, 0, none⟩ = some (.func (.func 109) #[] #[]) := cell_of_one h

/-- r is the first place below n at which p holds, or -1. -/
def IsFirst (p : Nat → Bool) (n : Nat) (r : Int) : Prop := (r = -1 ∧ ∀ i, i < n → p i = false) ∨ ∃ k : Nat, r = k ∧ k < n ∧ p k = true ∧ ∀ i, i < k → p i = false

theorem specLess_eq {a b c d : Int} {r : Bool} (h : leB a b c d = r) (w : World) : Calls Try.prog 150 #[tv a b, tv c d] w fun e w' => e = .returned (.bool r) ∧ Below w.heap.size w w' := by
  rw [← h]; exact specLess_any a b c d w

end Go.Proofs.Ytjmkcdlkmkhaiaa

/-! Slices of times that a call makes for itself, and the drawing of a list of times: facts and a contract. -/
namespace Go.Proofs.Ytjmkcdlkmkhaiaa
open Go.RowKit

def cellsL (l : List (Int × Int)) : List Value := l.flatMap fun p => [.int .i64 p.1, .int .i64 p.2]
theorem cellsL_length (l : List (Int × Int)) : (cellsL l).length = l.length * 2 := by
  induction l with
  | nil => rfl
  | cons p l ih => unfold cellsL at *; simp [List.flatMap_cons, ih]; omega
theorem cellsL_snoc (l : List (Int × Int)) (a b : Int) : cellsL (l ++ [(a, b)]) = cellsL l ++ [.int .i64 a, .int .i64 b] := by
  unfold cellsL; rw [List.flatMap_append]; simp
theorem cellsL_get (l : List (Int × Int)) (i : Nat) (h : i < l.length) : (cellsL l)[i * 2]? = some (.int .i64 (tA l i)) ∧ (cellsL l)[i * 2 + 1]? = some (.int .i64 (tB l i)) := by
  induction l generalizing i with
  | nil => simp at h
  | cons p l ih =>
    cases i with
    | zero => simp [cellsL, tA, tB, List.flatMap_cons]
    | succ i =>
      have := ih i (by simpa using h)
      have e1 : (i + 1) * 2 = i * 2 + 2 := by omega
      have e2 : (i + 1) * 2 + 1 = i * 2 + 1 + 2 := by omega
      rw [e1]
      simpa [cellsL, List.flatMap_cons, tA, tB] using this
/-- The slice v, made by the call itself, holds the times l. -/
abbrev Own (w : World) (B : Nat) (v : Value) (l : List (Int × Int)) : Prop := w.ownsRow B 45 2 v l.length (cellsL l)
theorem Own.ts {w : World} {B : Nat} {v : Value} {l : List (Int × Int)} (h : Own w B v l) (hl : l.length ≤ 2097152) : Ts w v l := by
  have hh := h
  obtain ⟨_, h2⟩ := h
  rcases h2 with ⟨rfl, h0⟩ | ⟨g, cap, cur, rfl, hg, hb, hc, hm, _, _⟩
  · have : l = [] := List.eq_nil_of_length_eq_zero h0
    subst this
    exact ⟨none, 0, rfl, Nat.le_refl _, by unfold maxLen; omega, by simp, fun i hi => by simp at hi⟩
  · refine ⟨_, cap, rfl, hc, hm, hl, fun i hi => ⟨g, 0, rfl, lt_of_block hb, ?_, ?_⟩⟩
    · rw [Nat.zero_add, hh.cellAt _ (by omega)]; exact (cellsL_get l i hi).1
    · rw [Nat.zero_add, hh.cellAt _ (by omega)]; exact (cellsL_get l i hi).2
theorem own_move {w w1 : World} {B : Nat} {e : TypeId} {s : Nat} {v : Value} {n : Nat} {xs : List Value} (h : w.ownsRow B e s v n xs) (hb : ∀ k, B ≤ k → k < w.heap.size → w1.heap[k]? = w.heap[k]?) : w1.ownsRow B e s v n xs := by
  obtain ⟨h1, h2⟩ := h
  refine ⟨h1, ?_⟩
  rcases h2 with h2 | ⟨g, cap, cur, rfl, hg, hh, r⟩
  · exact .inl h2
  · exact .inr ⟨g, cap, cur, rfl, hg, by rw [hb g hg (lt_of_block hh)]; exact hh, r⟩
theorem own_keepx {g : Nat} {w w1 : World} {B : Nat} {e : TypeId} {s : Nat} {v : Value} {n : Nat} {xs : List Value} (h : w.ownsRow B e s v n xs) (hx : Bx g w w1) (hg : g < B) : w1.ownsRow B e s v n xs :=
  own_move h fun k hk hs => hx.block k hs (by omega)
theorem own_keep {w w1 : World} {B : Nat} {e : TypeId} {s : Nat} {v : Value} {n : Nat} {xs : List Value} (h : w.ownsRow B e s v n xs) (hx : Below w.heap.size w w1) : w1.ownsRow B e s v n xs :=
  own_move h fun k _ hs => hx.block k hs
theorem own_less {w : World} {B B' : Nat} {e : TypeId} {s : Nat} {v : Value} {n : Nat} {xs : List Value} (h : w.ownsRow B e s v n xs) (hB : B' ≤ B) : w.ownsRow B' e s v n xs := by
  obtain ⟨h1, h2⟩ := h
  refine ⟨h1, ?_⟩
  rcases h2 with h2 | ⟨g, cap, cur, rfl, hg, r⟩
  · exact .inl h2
  · exact .inr ⟨g, cap, cur, rfl, by omega, r⟩
theorem Bx.bel {g B : Nat} {w w' : World} (h : Bx g w w') (hB : B ≤ w.heap.size) (hg : B ≤ g) : Below B w w' := h.below (Below.refl _ _) hB hg
theorem Bx.grown {g : Nat} {a w w' : World} {row : Option Nat} (h : Bx g a w) (hg : w.grownBy w' row) (hr : ∀ k, row = some k → a.heap.size ≤ k) : Bx g a w' :=
  ⟨hg.os.trans h.os, hg.tape.trans h.tape, hg.output.trans h.output, Nat.le_trans h.size hg.size, fun k hk hkg => by
    have hs := h.size
    rw [hg.block k (by omega) (fun e => by have := hr k e.symm; omega)]; exact h.block k hk hkg⟩
theorem Rd.grown {B : Nat} {w w' : World} {g : Nat} {v : Value} {n : Nat} {p : Int} {row : Option Nat} (h : Rd B w g v n p) (hg : w.grownBy w' row) (hr : ∀ k, row = some k → g < k) : Rd B w' g v n p := by
  have hl := h.blk.lt
  have hh := h.here
  have hs := h.size
  have same : ∀ k, k ≤ g → w'.heap[k]? = w.heap[k]? := fun k hk => hg.block k (by omega) (fun e => by have := hr k e.symm; omega)
  refine ⟨by unfold Bk; rw [same g (Nat.le_refl _)]; exact h.blk, ?_, h.few, h.here, Nat.le_trans h.size hg.size⟩
  obtain ⟨a, cap, rfl, h1, h2, h3⟩ := h.bytes
  refine ⟨a, cap, rfl, h1, h2, fun i hi => ?_⟩
  obtain ⟨b, off, z, rfl, hb', hc, h4, h5⟩ := h3 i hi
  exact ⟨b, off, z, rfl, hb', by rw [World.cell?_of_block (w := w) (same b (by omega))]; exact hc, h4, h5⟩

end Go.Proofs.Ytjmkcdlkmkhaiaa

/-! What FrontOf of the model answers: a contract. -/
namespace Go.Proofs.Ytjmkcdlkmkhaiaa
open Go.RowKit

def aokB (l : List (Int × Int)) : Bool := (List.range l.length).all fun i => okB (tA l i) (tB l i)
theorem aok_false {l : List (Int × Int)} {k : Nat} (hk : k < l.length) (h : okB (tA l k) (tB l k) = false) : aokB l = false := by
  unfold aokB; rw [List.all_eq_false]; exact ⟨k, by simpa using hk, by simp [h]⟩
theorem aok_true {l : List (Int × Int)} (h : ∀ j, j < l.length → okB (tA l j) (tB l j) = true) : aokB l = true := by
  unfold aokB; rw [List.all_eq_true]; intro j hj; exact h j (by simpa using hj)
def eqAt (l : List (Int × Int)) (a b : Int) (i : Nat) : Bool := decide (tA l i = a ∧ tB l i = b)
def lowAt (l : List (Int × Int)) (a b : Int) (i : Nat) : Bool := !eqAt l a b i && leB (tA l i) (tB l i) a b
def memTo (l : List (Int × Int)) (a b : Int) (m : Nat) : Bool := (List.range m).any (eqAt l a b)
def lowTo (l : List (Int × Int)) (a b : Int) (m : Nat) : Bool := (List.range m).any (lowAt l a b)
def leastB (l : List (Int × Int)) (a b : Int) : Bool := memTo l a b l.length && !lowTo l a b l.length
def gA (i : Nat) : Int := ((i / 8 : Nat) : Int)
def gB (i : Nat) : Int := 7 - ((i % 8 : Nat) : Int)
theorem gA_at {k j : Nat} (hj : j < 8) : gA (8 * k + j) = k := by unfold gA; omega
theorem gB_at {k j : Nat} (hj : j < 8) : gB (8 * k + j) = 7 - (j : Int) := by unfold gB; omega
def frTo (l : List (Int × Int)) (n : Nat) : List (Int × Int) := ((List.range n).filter fun i => leastB l (gA i) (gB i)).map fun i => (gA i, gB i)
def frontL (l : List (Int × Int)) : List (Int × Int) := if aokB l then frTo l 64 else []
theorem memTo_succ (l : List (Int × Int)) (a b : Int) (m : Nat) : memTo l a b (m + 1) = (memTo l a b m || eqAt l a b m) := by
  unfold memTo; rw [List.range_succ, List.any_append]; simp
theorem lowTo_succ (l : List (Int × Int)) (a b : Int) (m : Nat) : lowTo l a b (m + 1) = (lowTo l a b m || lowAt l a b m) := by
  unfold lowTo; rw [List.range_succ, List.any_append]; simp
theorem frTo_len (l : List (Int × Int)) (n : Nat) : (frTo l n).length ≤ n := by
  unfold frTo; rw [List.length_map]; exact Nat.le_trans (List.length_filter_le _ _) (by simp)
theorem frTo_yes (l : List (Int × Int)) {k j : Nat} (hj : j < 8) (h : leastB l k (7 - (j : Int)) = true) : frTo l (8 * k + (j + 1)) = frTo l (8 * k + j) ++ [((k : Int), 7 - (j : Int))] := by
  have h' : leastB l (gA (8 * k + j)) (gB (8 * k + j)) = true := by rw [gA_at hj, gB_at hj]; exact h
  unfold frTo
  rw [← Nat.add_assoc, List.range_succ, List.filter_append, List.map_append, List.filter_cons_of_pos (p := fun i => leastB l (gA i) (gB i)) h', List.filter_nil, List.map_cons, List.map_nil, gA_at hj, gB_at hj]
theorem frTo_no (l : List (Int × Int)) {k j : Nat} (hj : j < 8) (h : leastB l k (7 - (j : Int)) = false) : frTo l (8 * k + (j + 1)) = frTo l (8 * k + j) := by
  have h' : ¬ leastB l (gA (8 * k + j)) (gB (8 * k + j)) = true := by rw [gA_at hj, gB_at hj, h]; simp
  unfold frTo
  rw [← Nat.add_assoc, List.range_succ, List.filter_append, List.map_append, List.filter_cons_of_neg (p := fun i => leastB l (gA i) (gB i)) h', List.filter_nil, List.map_nil, List.append_nil]

end Go.Proofs.Ytjmkcdlkmkhaiaa

/-! What FrontOf of the model answers: a contract. -/
namespace Go.Proofs.Ytjmkcdlkmkhaiaa
open Go.RowKit
end Go.Proofs.Ytjmkcdlkmkhaiaa
