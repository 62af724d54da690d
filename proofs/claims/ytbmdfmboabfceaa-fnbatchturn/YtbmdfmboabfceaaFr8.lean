/- Slices of times that a call makes for itself, and the drawing of a list of times: facts and a contract. -/
import Derived.Test.YtbmdfmboabfceaaFr0
import Derived.Test.YtbmdfmboabfceaaLwAll
import Derived.Test.YtbmdfmboabfceaaDraw2
namespace Go.Proofs.Ytbmdfmboabfceaa
open Go.RowKit

def cellsL (l : List (Int × Int)) : List Value := l.flatMap fun p => [.int .i64 p.1, .int .i64 p.2]
theorem cellsL_length (l : List (Int × Int)) : (cellsL l).length = l.length * 2 := by
  induction l with
  | nil => rfl
  | cons p l ih => unfold cellsL at *; simp [List.flatMap_cons, ih]; omega
theorem cellsL_snoc (l : List (Int × Int)) (a b : Int) : cellsL (l ++ [(a, b)]) = cellsL l ++ [.int .i64 a, .int .i64 b] := by
  unfold cellsL; rw [List.flatMap_append]; simp
theorem cellsL_get (l : List (Int × Int)) (i : Nat) (h : i < l.length) : (cellsL l)[i * 2]? = some (.int .i64 (tA l i)) ∧ (cellsL l)[i * 2 + 1]? = some (.int .i64 (tB l i)) := by
  induction l generalizing i with
  | nil => simp at h
  | cons p l ih =>
    cases i with
    | zero => simp [cellsL, tA, tB, List.flatMap_cons]
    | succ i =>
      have := ih i (by simpa using h)
      have e1 : (i + 1) * 2 = i * 2 + 2 := by omega
      have e2 : (i + 1) * 2 + 1 = i * 2 + 1 + 2 := by omega
      rw [e1]
      simpa [cellsL, List.flatMap_cons, tA, tB] using this
/-- The slice v, made by the call itself, holds the times l. -/
abbrev Own (w : World) (B : Nat) (v : Value) (l : List (Int × Int)) : Prop := w.ownsRow B 31 2 v l.length (cellsL l)
theorem Own.ts {w : World} {B : Nat} {v : Value} {l : List (Int × Int)} (h : Own w B v l) (hl : l.length ≤ 2097152) : Ts w v l := by
  have hh := h
  obtain ⟨_, h2⟩ := h
  rcases h2 with ⟨rfl, h0⟩ | ⟨g, cap, cur, rfl, hg, hb, hc, hm, _, _⟩
  · have : l = [] := List.eq_nil_of_length_eq_zero h0
    subst this
    exact ⟨none, 0, rfl, Nat.le_refl _, by unfold maxLen; omega, by simp, fun i hi => by simp at hi⟩
  · refine ⟨_, cap, rfl, hc, hm, hl, fun i hi => ⟨g, 0, rfl, lt_of_block hb, ?_, ?_⟩⟩
    · rw [Nat.zero_add, hh.cellAt _ (by omega)]; exact (cellsL_get l i hi).1
    · rw [Nat.zero_add, hh.cellAt _ (by omega)]; exact (cellsL_get l i hi).2
theorem own_move {w w1 : World} {B : Nat} {e : TypeId} {s : Nat} {v : Value} {n : Nat} {xs : List Value} (h : w.ownsRow B e s v n xs) (hb : ∀ k, B ≤ k → k < w.heap.size → w1.heap[k]? = w.heap[k]?) : w1.ownsRow B e s v n xs := by
  obtain ⟨h1, h2⟩ := h
  refine ⟨h1, ?_⟩
  rcases h2 with h2 | ⟨g, cap, cur, rfl, hg, hh, r⟩
  · exact .inl h2
  · exact .inr ⟨g, cap, cur, rfl, hg, by rw [hb g hg (lt_of_block hh)]; exact hh, r⟩
theorem own_keepx {g : Nat} {w w1 : World} {B : Nat} {e : TypeId} {s : Nat} {v : Value} {n : Nat} {xs : List Value} (h : w.ownsRow B e s v n xs) (hx : Bx g w w1) (hg : g < B) : w1.ownsRow B e s v n xs :=
  own_move h fun k hk hs => hx.block k hs (by omega)
theorem own_keep {w w1 : World} {B : Nat} {e : TypeId} {s : Nat} {v : Value} {n : Nat} {xs : List Value} (h : w.ownsRow B e s v n xs) (hx : Below w.heap.size w w1) : w1.ownsRow B e s v n xs :=
  own_move h fun k _ hs => hx.block k hs
theorem own_less {w : World} {B B' : Nat} {e : TypeId} {s : Nat} {v : Value} {n : Nat} {xs : List Value} (h : w.ownsRow B e s v n xs) (hB : B' ≤ B) : w.ownsRow B' e s v n xs := by
  obtain ⟨h1, h2⟩ := h
  refine ⟨h1, ?_⟩
  rcases h2 with h2 | ⟨g, cap, cur, rfl, hg, r⟩
  · exact .inl h2
  · exact .inr ⟨g, cap, cur, rfl, by omega, r⟩
theorem Bx.bel {g B : Nat} {w w' : World} (h : Bx g w w') (hB : B ≤ w.heap.size) (hg : B ≤ g) : Below B w w' := h.below (Below.refl _ _) hB hg
theorem Bx.grown {g : Nat} {a w w' : World} {row : Option Nat} (h : Bx g a w) (hg : w.grownBy w' row) (hr : ∀ k, row = some k → a.heap.size ≤ k) : Bx g a w' :=
  ⟨hg.os.trans h.os, hg.tape.trans h.tape, hg.output.trans h.output, Nat.le_trans h.size hg.size, fun k hk hkg => by
    have hs := h.size
    rw [hg.block k (by omega) (fun e => by have := hr k e.symm; omega)]; exact h.block k hk hkg⟩
theorem Rd.grown {B : Nat} {w w' : World} {g : Nat} {v : Value} {n : Nat} {p : Int} {row : Option Nat} (h : Rd B w g v n p) (hg : w.grownBy w' row) (hr : ∀ k, row = some k → g < k) : Rd B w' g v n p := by
  have hl := h.blk.lt
  have hh := h.here
  have hs := h.size
  have same : ∀ k, k ≤ g → w'.heap[k]? = w.heap[k]? := fun k hk => hg.block k (by omega) (fun e => by have := hr k e.symm; omega)
  refine ⟨by unfold Bk; rw [same g (Nat.le_refl _)]; exact h.blk, ?_, h.few, h.here, Nat.le_trans h.size hg.size⟩
  obtain ⟨a, cap, rfl, h1, h2, h3⟩ := h.bytes
  refine ⟨a, cap, rfl, h1, h2, fun i hi => ?_⟩
  obtain ⟨b, off, z, rfl, hb', hc, h4, h5⟩ := h3 i hi
  exact ⟨b, off, z, rfl, hb', by rw [World.cell?_of_block (w := w) (same b (by omega))]; exact hc, h4, h5⟩

set_option maxRecDepth 100000 in
set_option maxHeartbeats 4000000 in
theorem l71Times_any {B : Nat} {w : World} {g : Nat} {v : Value} {n : Nat} {p : Int} (h : Rd B w g v n p) (hp : 0 ≤ p) (hp' : p ≤ 800000) (most : Int) (hm0 : 0 ≤ most) (hm1 : most ≤ 100) :
    Calls Try.prog 187 #[.pointer (some ⟨g, 0, none⟩), .int .i64 most] w fun e w' => ∃ (o : Value) (l : List (Int × Int)), e = .returned o ∧ l.length ≤ 100 ∧ Own w' w.heap.size o l ∧ (∃ p' : Int, p ≤ p' ∧ p' ≤ p + 400 ∧ Rd B w' g v n p') ∧ Bx g w w' := by
  obtain ⟨i0, hi, hz0, hz1, hz2⟩ := info_parts infoT
  have hg := h.blk.lt
  have hh := h.here
  have hs := h.size
  have h0 := h.keepb (bAlloc (Below.refl _ _) (.cells #[] 31))
  have x0 : Bx g w (w.alloc (.cells #[] 31)) := (Bx.refl _ _).alloc _
  have o0 := own_empty w 31 2
  go_enter Try.func187, Try.ntmps187
  go_wp2_with fail
  refine (pick_any h0 hp (by omega) _ (by omega) (by omega)).mono ?_
  rintro e w1 ⟨k, rfl, hk0, hk1, hr1, hx1⟩
  have o1 := own_keepx o0 hx1 hg
  have x1 := x0.trans hx1
  clear o0 x0 h0 hx1
  go_wp2_with fail
  go_loopw [5, 6] (fun o i wr => ∃ (m : Nat) (l : List (Int × Int)) (p' : Int), (m : Int) ≤ most ∧ i = .int .i64 m ∧ (l.length : Int) + m ≤ most ∧ Own wr w.heap.size o l ∧ p ≤ p' ∧ p' ≤ p + 1 + 3 * l.length ∧ Rd B wr g v n p' ∧ Bx g w wr) (fun _ i _ => (intOf i).toNat)
  case atStart =>
    obtain ⟨m, rfl⟩ := Int.eq_ofNat_of_zero_le hk0
    exact ⟨m, [], p + 1, by omega, rfl, by simp; omega, o1, by omega, by simp, hr1, x1⟩
  case round =>
    clear o1 x1 hr1
    obtain ⟨m, l, p', hm, rfl, hlm, hown, hpp, hpq, hr, hx⟩ := hrel
    have HO := (show Hid _ from hown)
    have HP := (show Hid _ from hpq)
    clear hown
    by_cases hlt : 0 < m
    · go_wp2_with fail
      refine (l71Time_any hr (by omega) (by omega)).mono ?_
      rintro e w2 ⟨a, b, rfl, ha0, ha1, hb0, hb1, ⟨p2, hp1, hp2, hr2⟩, hx2⟩
      have hown := own_keepx HO.out hx2 hg
      have hx' := hx.trans hx2
      have hsz := hx'.size
      have hl100 : l.length ≤ 100 := by omega
      have HQ := HP
      clear HP hpq
      go_wp2_with (at_builtin; refine wpList_append_lies _ rfl _ _ 37 rfl w.heap.size 31 i0 (.agg #[.int .i64 0, .int .i64 0]) 2 16 Try.underlying37 hi hz0 hz1 hz2 rfl (by decide) _ _ _ rfl (hown.alloc _) ⟨w2.heap.size, 0, none⟩ 1 1 [.int .i64 a, .int .i64 b] rfl rfl (news2 _ _ _ _) (ones2 _ _) (by omega) (by unfold maxLen; omega) (by omega) (by simp; omega) (w2.heap.size + 1) (by simp) ?_; intro g3 cap w3 hown3 hgrow hat hlg)
      have hown4 : Own w3 w.heap.size (.slice (some ⟨g3, 0, none⟩) (l.length + 1) cap) (l ++ [(a, b)]) := by
        show w3.ownsRow _ _ _ _ _ _
        rw [cellsL_snoc]; simpa using hown3
      have hr3 : Rd B w3 g v n p2 := (hr2.keepb (bAlloc (Below.refl _ _) _)).grown hgrow (fun k e => by have := own_base hown k e; omega)
      have hx3 : Bx g w w3 := (hx'.alloc _).grown hgrow (own_base hown)
      exact ⟨⟨m - 1, l ++ [(a, b)], p2, by omega, by congr 1; omega, by simp; omega, hown4, by omega, by have := HQ.out; simp; omega, hr3, hx3⟩, by simp [intOf]; omega⟩
    · obtain rfl : m = 0 := by omega
      go_wp2_with fail
      go_ret
      exact ⟨_, l, rfl, by omega, HO.out, ⟨p', hpp, by omega, hr⟩, hx⟩
end Go.Proofs.Ytbmdfmboabfceaa
