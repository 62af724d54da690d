/- What the laws' own functions on rows answer: contracts. -/
import Derived.Test.YtepegedlgjcolaaBa3
namespace Go.Proofs.Ytepegedlgjcolaa
open Go.RowKit

set_option maxHeartbeats 1000000 in
theorem szRowS_any (a : Option Addr) (n cap : Nat) (left : Int) (w : World) (hn : n ≤ cap) (hc : cap ≤ maxLen) (h0 : 0 ≤ left) (h1 : left ≤ 1048576) :
    Calls Try.prog 44 #[.slice a n cap, .int .i64 left] w fun e w' => e = .returned (.int .i64 (if left < n then -1 else left - n)) ∧ w' = w := by
  unfold maxLen at hc
  by_cases h : left < (n : Int)
  · go_enter Try.func44, Try.ntmps44
    go_wp2
    go_ret
    exact ⟨rfl, rfl⟩
  · go_enter Try.func44, Try.ntmps44
    go_wp2
    go_ret
    exact ⟨rfl, rfl⟩
theorem Bk.set5 {w : World} {g : Nat} {x0 x1 x2 x3 x4 : Value} {t : TypeId} (h : Bk w g #[x0, x1, x2, x3, x4] t) (u0 u1 u2 u3 u4 : Value) :
    Bk (((((w.setCell ⟨g, 0, none⟩ u0).setCell ⟨g, 1, none⟩ u1).setCell ⟨g, 2, none⟩ u2).setCell ⟨g, 3, none⟩ u3).setCell ⟨g, 4, none⟩ u4) g #[u0, u1, u2, u3, u4] t :=
  ((((h.set 0 u0).set 1 u1).set 2 u2).set 3 u3).set 4 u4
set_option maxHeartbeats 4000000 in
theorem toRow_any (k v a b d : Int) (w : World) :
    Calls Try.prog 93 #[rv k v a b d] w fun e w' => e = .returned (rv k v a b d) ∧ Below w.heap.size w w' := by
  go_enter Try.func93, Try.ntmps93
  go_wp2_with fail
  refine (toTime_any _ _ _).mono ?_
  rintro e w1 ⟨rfl, hb1⟩
  obtain ⟨bi, br, bo⟩ := boxed3 hb1
  have hbw : Below w.heap.size w w1 := by
    repeat' (first | (with_reducible exact Below.refl _ _) | (with_reducible assumption) | (with_reducible refine bStep ?_ (by with_reducible assumption)) | (with_reducible refine bAlloc ?_ _) | (with_reducible refine Below.drew ?_) | (with_reducible refine bDrewN ?_ _) | (with_reducible refine Below.setCell ?_ ?_ _) | (simp; done) | (simp; omega) | omega)
  clear hb1
  generalize hO : w.heap.size + 1 + 1 = o at *
  generalize hR : w.heap.size + 1 = r at *
  have hro : r ≠ o := by omega
  have hwr : w.heap.size ≤ r := by omega
  have hwo : w.heap.size ≤ o := by omega
  have hio : w.heap.size ≠ o := by omega
  clear hO hR
  obtain ⟨i0, i1, i2, i3, i4⟩ := bi.five
  have bo1 := bo.set 2 (.int .i64 a)
  have bo2 := bo1.set 3 (.int .i64 b)
  have bo3 := bo2.set 4 (.int .i64 d)
  have br3 := ((br.apart (p := ⟨o, 2, none⟩) hro (.int .i64 a)).apart (p := ⟨o, 3, none⟩) hro (.int .i64 b)).apart (p := ⟨o, 4, none⟩) hro (.int .i64 d)
  have br8 := br3.set5 (.int .i64 k) (.int .i64 v) (.int .i64 a) (.int .i64 b) (.int .i64 d)
  have f2 := bo.free 2
  have f3 := bo1.free 3
  have f4 := bo2.free 4
  obtain ⟨_, _, c2, _, _⟩ := bo.five
  obtain ⟨_, _, _, c3, _⟩ := bo1.five
  obtain ⟨_, _, _, _, c4⟩ := bo2.five
  obtain ⟨x0, x1, x2, x3, x4⟩ := bo3.five
  obtain ⟨_, _, _, _, i6⟩ := ((bi.apart (p := ⟨o, 2, none⟩) hio (.int .i64 a)).apart (p := ⟨o, 3, none⟩) hio (.int .i64 b)).five
  obtain ⟨r0, r1, r2, r3, r4⟩ := br3.five
  have g0 := br3.free 0
  have g1 := br3.free 1
  have g2 := br3.free 2
  have g3 := br3.free 3
  have g4 := br3.free 4
  go_wp2_with fail
  obtain ⟨y0, y1, y2, y3, y4⟩ := br8.five
  refine bodyPost_ret (v := rv k v a b d) (by simp [results, Try.results93, go_sem, y0, y1, y2, y3, y4]) rfl ?_
  refine ⟨rfl, ?_⟩
  repeat' (first | (with_reducible exact Below.refl _ _) | (with_reducible assumption) | (with_reducible refine bStep ?_ (by with_reducible assumption)) | (with_reducible refine bAlloc ?_ _) | (with_reducible refine Below.drew ?_) | (with_reducible refine bDrewN ?_ _) | (with_reducible refine Below.setCell ?_ ?_ _) | (simp; done) | (simp; omega) | omega)

/-- Five cells of a row written. -/
abbrev set5A (c : Array Value) (o : Nat) (u0 u1 u2 u3 u4 : Value) : Array Value := ((((c.setIfInBounds o u0).setIfInBounds (o + 1) u1).setIfInBounds (o + 2) u2).setIfInBounds (o + 3) u3).setIfInBounds (o + 4) u4
theorem set5A_at (c : Array Value) (o : Nat) (u0 u1 u2 u3 u4 : Value) (h : o + 4 < c.size) {j : Nat} (hj : j < 5) : (set5A c o u0 u1 u2 u3 u4)[o + j]? = [u0, u1, u2, u3, u4][j]? := by
  obtain rfl | rfl | rfl | rfl | rfl : j = 0 ∨ j = 1 ∨ j = 2 ∨ j = 3 ∨ j = 4 := by omega
  all_goals simp [Array.getElem?_setIfInBounds]
  all_goals omega
theorem set5A_else (c : Array Value) (o : Nat) (u0 u1 u2 u3 u4 : Value) {i : Nat} (hi : i < o ∨ o + 4 < i) : (set5A c o u0 u1 u2 u3 u4)[i]? = c[i]? := by
  simp only [Array.getElem?_setIfInBounds]
  rw [if_neg (by omega), if_neg (by omega), if_neg (by omega), if_neg (by omega), if_neg (by omega)]
theorem FillK.step5 {c : Array Value} {l : List Rw} {k : Nat} {K V A B D : Int} (h : FillK rowC 5 c l k) (hr : l[k]? = some (((K, V), (A, B)), D)) (hs : k * 5 + 4 < c.size) :
    FillK rowC 5 (set5A c (k * 5) (.int .i64 K) (.int .i64 V) (.int .i64 A) (.int .i64 B) (.int .i64 D)) l (k + 1) := by
  intro i x hi hx j hj
  by_cases e : i = k
  · subst e
    rw [hr] at hx; cases hx
    exact set5A_at c _ _ _ _ _ _ hs hj
  · rw [set5A_else c _ _ _ _ _ _ (by omega)]
    exact h i x (by omega) hx j hj
theorem infoR : (Try.prog.info? 33).map (fun i => (i.zero, i.size, i.bytes)) = some (some (.agg #[.int .i64 0, .int .i64 0, .int .i64 0, .int .i64 0, .int .i64 0]), 5, 40) := by kernel_rfl
theorem infoI : (Try.prog.info? 96).map (fun i => (i.zero, i.size, i.bytes)) = some (some (.agg #[.int .i64 0, .int .i64 0, .int .i64 0]), 3, 24) := by kernel_rfl
theorem make_rows (n : Nat) (hn : n ≤ 2097152) : ∃ M : Array Value, M.size = n * 5 ∧ ∀ u : World, (Instr.makeSlice 23 (.int .i64 (n : Int)) (.int .i64 (n : Int))).run Try.prog u = .ok (.slice (some ⟨u.heap.size, 0, none⟩) n n) (u.alloc (.cells M 33)) := by
  obtain ⟨i0, hi, hz0, hz1, hz2⟩ := info_parts infoR
  refine ⟨madeCells (Value.agg #[.int .i64 0, .int .i64 0, .int .i64 0, .int .i64 0, .int .i64 0]).cells (n * i0.size), by rw [size_madeCells, hz1], fun u => ?_⟩
  have := run_make (P := Try.prog) u 23 33 i0 _ Try.underlying23 hi hz0 .i64 .i64 (n : Int) (n : Int) (by omega) (by omega) (by rw [hz2]; omega) (by omega)
  simpa using this

set_option maxHeartbeats 4000000 in
theorem toRowS_any (v : Value) (l : List Rw) (w : World) (h : Rs w v l) :
    Calls Try.prog 45 #[v] w fun e w' => ∃ (g : Nat) (c : Array Value), e = .returned (.slice (some ⟨g, 0, none⟩) l.length l.length) ∧ w.heap.size ≤ g ∧ Bk w' g c 33 ∧ c.size = l.length * 5 ∧ FillK rowC 5 c l l.length ∧ Below w.heap.size w w' := by
  obtain ⟨a, cap, rfl, hc, hm, hn, hcells⟩ := Rs.open h
  unfold maxLen at hm
  obtain ⟨M, hM, hmk⟩ := make_rows l.length hn
  have HC := (show Hid _ from hcells)
  have HM := (show Hid _ from hM)
  clear hcells hM h
  go_enter Try.func45, Try.ntmps45
  go_wp2_with fail
  go_loopw [4] (fun i wr => ∃ (k : Nat) (c : Array Value), k ≤ l.length ∧ i = .int .i64 k ∧ Bk wr w.heap.size c 33 ∧ c.size = l.length * 5 ∧ FillK rowC 5 c l k ∧ Below w.heap.size w wr) (fun i _ => l.length - (intOf i).toNat)
  case atStart => exact ⟨0, M, by omega, rfl, Bk.new _ _ rfl, HM.out, fun i x hi => by omega, bAlloc (Below.refl _ _) _⟩
  case round =>
    obtain ⟨k, c, hk, rfl, hbk, hcs, hfill, hb⟩ := hrel
    have HF := (show Hid _ from hfill)
    have HS := (show Hid _ from hcs)
    clear hfill hcs
    by_cases hlt : k < l.length
    · obtain ⟨g, off, K, V, A, B, D, rfl, hg, hr, c0, c1, c2, c3, c4⟩ := HC.out k hlt
      have d0 := cell_below hb c0
      have d1 := cell_below hb c1
      have d2 := cell_below hb c2
      have d3 := cell_below hb c3
      have d4 := cell_below hb c4
      have HR := (show Hid _ from hr)
      clear c0 c1 c2 c3 c4 hr
      go_wp2_with fail
      refine (toRow_any _ _ _ _ _ _).mono ?_
      rintro e w1 ⟨rfl, hb1⟩
      have bk1 := hbk.keep hb1
      have hbw := bStep hb hb1
      have hs := HS.out
      obtain ⟨y0, q0⟩ : ∃ y, w1.cell? ⟨w.heap.size, k * 5, none⟩ = some y := ⟨_, bk1.cell (Array.getElem?_eq_getElem (show k * 5 < c.size by omega))⟩
      obtain ⟨y1, q1⟩ : ∃ y, w1.cell? ⟨w.heap.size, k * 5 + 1, none⟩ = some y := ⟨_, bk1.cell (Array.getElem?_eq_getElem (show k * 5 + 1 < c.size by omega))⟩
      obtain ⟨y2, q2⟩ : ∃ y, w1.cell? ⟨w.heap.size, k * 5 + 2, none⟩ = some y := ⟨_, bk1.cell (Array.getElem?_eq_getElem (show k * 5 + 2 < c.size by omega))⟩
      obtain ⟨y3, q3⟩ : ∃ y, w1.cell? ⟨w.heap.size, k * 5 + 3, none⟩ = some y := ⟨_, bk1.cell (Array.getElem?_eq_getElem (show k * 5 + 3 < c.size by omega))⟩
      obtain ⟨y4, q4⟩ : ∃ y, w1.cell? ⟨w.heap.size, k * 5 + 4, none⟩ = some y := ⟨_, bk1.cell (Array.getElem?_eq_getElem (show k * 5 + 4 < c.size by omega))⟩
      have f0 := bk1.free (k * 5)
      have f1 := bk1.free (k * 5 + 1)
      have f2 := bk1.free (k * 5 + 2)
      have f3 := bk1.free (k * 5 + 3)
      have f4 := bk1.free (k * 5 + 4)
      clear hs
      go_wp2_with fail
      go_roundw
      case rel =>
        have bk2 := ((((bk1.set (k * 5) (.int .i64 K)).set (k * 5 + 1) (.int .i64 V)).set (k * 5 + 2) (.int .i64 A)).set (k * 5 + 3) (.int .i64 B)).set (k * 5 + 4) (.int .i64 D)
        refine ⟨k + 1, _, by omega, by go_num, bk2, ?_, FillK.step5 HF.out HR.out (by have := HS.out; omega), ?_⟩
        · simpa using HS.out
        · exact ((((hbw.setCell (by simp) _).setCell (by simp) _).setCell (by simp) _).setCell (by simp) _).setCell (by simp) _
      case measure => simp [intOf]; omega
    · obtain rfl : k = l.length := by omega
      go_wp2_with fail
      go_ret
      exact ⟨w.heap.size, c, rfl, Nat.le_refl _, hbk, HS.out, HF.out, hb⟩
end Go.Proofs.Ytepegedlgjcolaa
