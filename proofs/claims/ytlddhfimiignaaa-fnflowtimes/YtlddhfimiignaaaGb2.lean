/- What the laws' own functions on rows answer: contracts. -/
import Derived.Test.YtlddhfimiignaaaGb1
import Derived.Deep.Cut
import Derived.Test.YtlddhfimiignaaaGa5
import Derived.ProofKit
import Derived.OpenShut
import Derived.ShutString
import Derived.ChangeOld
import Derived.Below
import Derived.Lib.SmallJoins
import Derived.Deep.SlicePairs
import Derived.Deep.Strs
/-! What the laws' own functions on rows answer: contracts. -/
namespace Go.Proofs.Ytlddhfimiignaaa
open Go.RowKit

set_option maxHeartbeats 1000000 in
theorem szRowS_any (a : Option Addr) (n cap : Nat) (left : Int) (w : World) (hn : n ≤ cap) (hc : cap ≤ maxLen) (h0 : 0 ≤ left) (h1 : left ≤ 1048576) :
    Calls Try.prog 43 #[.slice a n cap, .int .i64 left] w fun e w' => e = .returned (.int .i64 (if left < n then -1 else left - n)) ∧ w' = w := by
  unfold maxLen at hc
  by_cases h : left < (n : Int)
  · go_enter Try.func43, Try.ntmps43
    go_wp2
    go_ret
    exact ⟨rfl, rfl⟩
  · go_enter Try.func43, Try.ntmps43
    go_wp2
    go_ret
    exact ⟨rfl, rfl⟩
theorem Bk.set5 {w : World} {g : Nat} {x0 x1 x2 x3 x4 : Value} {t : TypeId} (h : Bk w g #[x0, x1, x2, x3, x4] t) (u0 u1 u2 u3 u4 : Value) :
    Bk (((((w.setCell ⟨g, 0, none⟩ u0).setCell ⟨g, 1, none⟩ u1).setCell ⟨g, 2, none⟩ u2).setCell ⟨g, 3, none⟩ u3).setCell ⟨g, 4, none⟩ u4) g #[u0, u1, u2, u3, u4] t :=
  ((((h.set 0 u0).set 1 u1).set 2 u2).set 3 u3).set 4 u4
set_option maxHeartbeats 4000000 in
theorem toRow_any (k v a b d : Int) (w : World) :
    Calls Try.prog 89 #[rv k v a b d] w fun e w' => e = .returned (rv k v a b d) ∧ Below w.heap.size w w' := by
  go_enter Try.func89, Try.ntmps89
  go_wp2_with fail
  refine (toTime_any _ _ _).mono ?_
  rintro e w1 ⟨rfl, hb1⟩
  obtain ⟨bi, br, bo⟩ := boxed3 hb1
  have hbw : Below w.heap.size w w1 := by
    repeat' (first | (with_reducible exact Below.refl _ _) | (with_reducible assumption) | (with_reducible refine bStep ?_ (by with_reducible assumption)) | (with_reducible refine bAlloc ?_ _) | (with_reducible refine Below.drew ?_) | (with_reducible refine bDrewN ?_ _) | (with_reducible refine Below.setCell ?_ ?_ _) | (simp; done) | (simp; omega) | omega)
  clear hb1
  generalize hO : w.heap.size + 1 + 1 = o at *
  generalize hR : w.heap.size + 1 = r at *
  have hro : r ≠ o := by omega
  have hwr : w.heap.size ≤ r := by omega
  have hwo : w.heap.size ≤ o := by omega
  have hio : w.heap.size ≠ o := by omega
  clear hO hR
  obtain ⟨i0, i1, i2, i3, i4⟩ := bi.five
  have bo1 := bo.set 2 (.int .i64 a)
  have bo2 := bo1.set 3 (.int .i64 b)
  have bo3 := bo2.set 4 (.int .i64 d)
  have br3 := ((br.apart (p := ⟨o, 2, none⟩) hro (.int .i64 a)).apart (p := ⟨o, 3, none⟩) hro (.int .i64 b)).apart (p := ⟨o, 4, none⟩) hro (.int .i64 d)
  have br8 := br3.set5 (.int .i64 k) (.int .i64 v) (.int .i64 a) (.int .i64 b) (.int .i64 d)
  have f2 := bo.free 2
  have f3 := bo1.free 3
  have f4 := bo2.free 4
  obtain ⟨_, _, c2, _, _⟩ := bo.five
  obtain ⟨_, _, _, c3, _⟩ := bo1.five
  obtain ⟨_, _, _, _, c4⟩ := bo2.five
  obtain ⟨x0, x1, x2, x3, x4⟩ := bo3.five
  obtain ⟨_, _, _, _, i6⟩ := ((bi.apart (p := ⟨o, 2, none⟩) hio (.int .i64 a)).apart (p := ⟨o, 3, none⟩) hio (.int .i64 b)).five
  obtain ⟨r0, r1, r2, r3, r4⟩ := br3.five
  have g0 := br3.free 0
  have g1 := br3.free 1
  have g2 := br3.free 2
  have g3 := br3.free 3
  have g4 := br3.free 4
  go_wp2_with fail
  obtain ⟨y0, y1, y2, y3, y4⟩ := br8.five
  refine bodyPost_ret (v := rv k v a b d) (by simp [results, Try.results89, go_sem, y0, y1, y2, y3, y4]) rfl ?_
  refine ⟨rfl, ?_⟩
  repeat' (first | (with_reducible exact Below.refl _ _) | (with_reducible assumption) | (with_reducible refine bStep ?_ (by with_reducible assumption)) | (with_reducible refine bAlloc ?_ _) | (with_reducible refine Below.drew ?_) | (with_reducible refine bDrewN ?_ _) | (with_reducible refine Below.setCell ?_ ?_ _) | (simp; done) | (simp; omega) | omega)

/-- Five cells of a row written. -/
abbrev set5A (c : Array Value) (o : Nat) (u0 u1 u2 u3 u4 : Value) : Array Value := ((((c.setIfInBounds o u0).setIfInBounds (o + 1) u1).setIfInBounds (o + 2) u2).setIfInBounds (o + 3) u3).setIfInBounds (o + 4) u4
theorem set5A_at (c : Array Value) (o : Nat) (u0 u1 u2 u3 u4 : Value) (h : o + 4 < c.size) {j : Nat} (hj : j < 5) : (set5A c o u0 u1 u2 u3 u4)[o + j]? = [u0, u1, u2, u3, u4][j]? := by
  obtain rfl | rfl | rfl | rfl | rfl : j = 0 ∨ j = 1 ∨ j = 2 ∨ j = 3 ∨ j = 4 := by omega
  all_goals simp [Array.getElem?_setIfInBounds]
  all_goals omega
theorem set5A_else (c : Array Value) (o : Nat) (u0 u1 u2 u3 u4 : Value) {i : Nat} (hi : i < o ∨ o + 4 < i) : (set5A c o u0 u1 u2 u3 u4)[i]? = c[i]? := by
  simp only [Array.getElem?_setIfInBounds]
  rw [if_neg (by omega), if_neg (by omega), if_neg (by omega), if_neg (by omega), if_neg (by omega)]
theorem FillK.step5 {c : Array Value} {l : List Rw} {k : Nat} {K V A B D : Int} (h : FillK rowC 5 c l k) (hr : l[k]? = some (((K, V), (A, B)), D)) (hs : k * 5 + 4 < c.size) :
    FillK rowC 5 (set5A c (k * 5) (.int .i64 K) (.int .i64 V) (.int .i64 A) (.int .i64 B) (.int .i64 D)) l (k + 1) := by
  intro i x hi hx j hj
  by_cases e : i = k
  · subst e
    rw [hr] at hx; cases hx
    exact set5A_at c _ _ _ _ _ _ hs hj
  · rw [set5A_else c _ _ _ _ _ _ (by omega)]
    exact h i x (by omega) hx j hj
theorem infoR : (Try.prog.info? 55).map (fun i => (i.zero, i.size, i.bytes)) = some (some (.agg #[.int .i64 0, .int .i64 0, .int .i64 0, .int .i64 0, .int .i64 0]), 5, 40) := by kernel_rfl
theorem infoI : (Try.prog.info? 34).map (fun i => (i.zero, i.size, i.bytes)) = some (some (.agg #[.int .i64 0, .int .i64 0, .int .i64 0]), 3, 24) := by kernel_rfl
theorem make_rows (n : Nat) (hn : n ≤ 2097152) : ∃ M : Array Value, M.size = n * 5 ∧ ∀ u : World, (Instr.makeSlice 35 (.int .i64 (n : Int)) (.int .i64 (n : Int))).run Try.prog u = .ok (.slice (some ⟨u.heap.size, 0, none⟩) n n) (u.alloc (.cells M 55)) := by
  obtain ⟨i0, hi, hz0, hz1, hz2⟩ := info_parts infoR
  refine ⟨madeCells (Value.agg #[.int .i64 0, .int .i64 0, .int .i64 0, .int .i64 0, .int .i64 0]).cells (n * i0.size), by rw [size_madeCells, hz1], fun u => ?_⟩
  have := run_make (P := Try.prog) u 35 55 i0 _ Try.underlying35 hi hz0 .i64 .i64 (n : Int) (n : Int) (by omega) (by omega) (by rw [hz2]; omega) (by omega)
  simpa using this

set_option maxHeartbeats 4000000 in
theorem toRowS_any (v : Value) (l : List Rw) (w : World) (h : Rs w v l) :
    Calls Try.prog 44 #[v] w fun e w' => ∃ (g : Nat) (c : Array Value), e = .returned (.slice (some ⟨g, 0, none⟩) l.length l.length) ∧ w.heap.size ≤ g ∧ Bk w' g c 55 ∧ c.size = l.length * 5 ∧ FillK rowC 5 c l l.length ∧ Below w.heap.size w w' := by
  obtain ⟨a, cap, rfl, hc, hm, hn, hcells⟩ := Rs.open h
  unfold maxLen at hm
  obtain ⟨M, hM, hmk⟩ := make_rows l.length hn
  have HC := (show Hid _ from hcells)
  have HM := (show Hid _ from hM)
  clear hcells hM h
  go_enter Try.func44, Try.ntmps44
  go_wp2_with fail
  go_loopw [4] (fun i wr => ∃ (k : Nat) (c : Array Value), k ≤ l.length ∧ i = .int .i64 k ∧ Bk wr w.heap.size c 55 ∧ c.size = l.length * 5 ∧ FillK rowC 5 c l k ∧ Below w.heap.size w wr) (fun i _ => l.length - (intOf i).toNat)
  case atStart => exact ⟨0, M, by omega, rfl, Bk.new _ _ rfl, HM.out, fun i x hi => by omega, bAlloc (Below.refl _ _) _⟩
  case round =>
    obtain ⟨k, c, hk, rfl, hbk, hcs, hfill, hb⟩ := hrel
    have HF := (show Hid _ from hfill)
    have HS := (show Hid _ from hcs)
    clear hfill hcs
    by_cases hlt : k < l.length
    · obtain ⟨g, off, K, V, A, B, D, rfl, hg, hr, c0, c1, c2, c3, c4⟩ := HC.out k hlt
      have d0 := cell_below hb c0
      have d1 := cell_below hb c1
      have d2 := cell_below hb c2
      have d3 := cell_below hb c3
      have d4 := cell_below hb c4
      have HR := (show Hid _ from hr)
      clear c0 c1 c2 c3 c4 hr
      go_wp2_with fail
      refine (toRow_any _ _ _ _ _ _).mono ?_
      rintro e w1 ⟨rfl, hb1⟩
      have bk1 := hbk.keep hb1
      have hbw := bStep hb hb1
      have hs := HS.out
      obtain ⟨y0, q0⟩ : ∃ y, w1.cell? ⟨w.heap.size, k * 5, none⟩ = some y := ⟨_, bk1.cell (Array.getElem?_eq_getElem (show k * 5 < c.size by omega))⟩
      obtain ⟨y1, q1⟩ : ∃ y, w1.cell? ⟨w.heap.size, k * 5 + 1, none⟩ = some y := ⟨_, bk1.cell (Array.getElem?_eq_getElem (show k * 5 + 1 < c.size by omega))⟩
      obtain ⟨y2, q2⟩ : ∃ y, w1.cell? ⟨w.heap.size, k * 5 + 2, none⟩ = some y := ⟨_, bk1.cell (Array.getElem?_eq_getElem (show k * 5 + 2 < c.size by omega))⟩
      obtain ⟨y3, q3⟩ : ∃ y, w1.cell? ⟨w.heap.size, k * 5 + 3, none⟩ = some y := ⟨_, bk1.cell (Array.getElem?_eq_getElem (show k * 5 + 3 < c.size by omega))⟩
      obtain ⟨y4, q4⟩ : ∃ y, w1.cell? ⟨w.heap.size, k * 5 + 4, none⟩ = some y := ⟨_, bk1.cell (Array.getElem?_eq_getElem (show k * 5 + 4 < c.size by omega))⟩
      have f0 := bk1.free (k * 5)
      have f1 := bk1.free (k * 5 + 1)
      have f2 := bk1.free (k * 5 + 2)
      have f3 := bk1.free (k * 5 + 3)
      have f4 := bk1.free (k * 5 + 4)
      clear hs
      go_wp2_with fail
      go_roundw
      case rel =>
        have bk2 := ((((bk1.set (k * 5) (.int .i64 K)).set (k * 5 + 1) (.int .i64 V)).set (k * 5 + 2) (.int .i64 A)).set (k * 5 + 3) (.int .i64 B)).set (k * 5 + 4) (.int .i64 D)
        refine ⟨k + 1, _, by omega, by go_num, bk2, ?_, FillK.step5 HF.out HR.out (by have := HS.out; omega), ?_⟩
        · simpa using HS.out
        · exact ((((hbw.setCell (by simp) _).setCell (by simp) _).setCell (by simp) _).setCell (by simp) _).setCell (by simp) _
      case measure => simp [intOf]; omega
    · obtain rfl : k = l.length := by omega
      go_wp2_with fail
      go_ret
      exact ⟨w.heap.size, c, rfl, Nat.le_refl _, hbk, HS.out, HF.out, hb⟩
end Go.Proofs.Ytlddhfimiignaaa

/-! What the laws' own comparison of rows, their marking and the look for the marks answer: contracts. -/
namespace Go.Proofs.Ytlddhfimiignaaa
open Go.RowKit
theorem Bk.held {w : World} {g : Nat} {c : Array Value} {t : TypeId} (h : Bk w g c t) {i : Nat} (hi : i < c.size) : ∃ y, w.cell? ⟨g, i, none⟩ = .some y := ⟨_, h.cell (Array.getElem?_eq_getElem hi)⟩
theorem eqTime_is (a b : Int) (w : World) : Calls Try.prog 91 #[tv a b, tv a b] w fun e w' => e = .returned (.bool true) ∧ Below w.heap.size w w' := by
  have := eqTime_any a b a b w
  rw [eqB_self] at this
  exact this
set_option maxHeartbeats 2000000 in
theorem eqRow_same (k v a b d : Int) (w : World) :
    Calls Try.prog 90 #[rv k v a b d, rv k v a b d] w fun e w' => e = .returned (.bool true) ∧ Below w.heap.size w w' := by
  go_enter Try.func90, Try.ntmps90
  go_wp2_with fail
  refine (eqTime_is _ _ _).mono ?_
  rintro e w1 ⟨rfl, hb1⟩
  obtain ⟨b0, b1⟩ := boxed2 hb1
  obtain ⟨x0, x1, x2, x3, x4⟩ := b0.five
  obtain ⟨y0, y1, y2, y3, y4⟩ := b1.five
  go_wp2_with fail
  go_ret
  refine ⟨rfl, ?_⟩
  repeat' (first | (with_reducible exact Below.refl _ _) | (with_reducible assumption) | (with_reducible refine bStep ?_ (by with_reducible assumption)) | (with_reducible refine bAlloc ?_ _) | (with_reducible refine Below.drew ?_) | (with_reducible refine bDrewN ?_ _) | (with_reducible refine Below.setCell ?_ ?_ _) | (simp; done) | (simp; omega) | omega)
set_option maxHeartbeats 4000000 in
theorem eqRowS_same (v v' : Value) (l : List Rw) (w : World) (h : Rs w v l) (h' : Rs w v' l) :
    Calls Try.prog 45 #[v, v'] w fun e w' => e = .returned (.bool true) ∧ Below w.heap.size w w' := by
  obtain ⟨a, cap, rfl, hc, hm, hn, hcells⟩ := Rs.open h
  obtain ⟨a', cap', rfl, hc', hm', hn', hcells'⟩ := Rs.open h'
  unfold maxLen at hm hm'
  have HC := (show Hid _ from hcells)
  have HC' := (show Hid _ from hcells')
  clear hcells hcells' hn' h h'
  go_enter Try.func45, Try.ntmps45
  go_wp2_with fail
  go_loopw [5] (fun i wr => ∃ k : Nat, k ≤ l.length ∧ i = .int .i64 k ∧ Below w.heap.size w wr) (fun i _ => l.length - (intOf i).toNat)
  case atStart => exact ⟨0, by omega, rfl, Below.refl _ _⟩
  case round =>
    obtain ⟨k, hk, rfl, hb⟩ := hrel
    by_cases hlt : k < l.length
    · obtain ⟨g, off, K, V, A, B, D, rfl, hg, hr, c0, c1, c2, c3, c4⟩ := HC.out k hlt
      obtain ⟨g', off', K', V', A', B', D', rfl, hg', hr', p0, p1, p2, p3, p4⟩ := HC'.out k hlt
      rw [hr] at hr'
      cases hr'
      clear hr
      have d0 : ∀ p : Bel wr, p.ww.cell? ⟨g, off + k * 5, none⟩ = some (.int .i64 K) := fun p => cell_below p.below (cell_below hb c0)
      have d1 : ∀ p : Bel wr, p.ww.cell? ⟨g, off + k * 5 + 1, none⟩ = some (.int .i64 V) := fun p => cell_below p.below (cell_below hb c1)
      have d2 : ∀ p : Bel wr, p.ww.cell? ⟨g, off + k * 5 + 2, none⟩ = some (.int .i64 A) := fun p => cell_below p.below (cell_below hb c2)
      have d3 : ∀ p : Bel wr, p.ww.cell? ⟨g, off + k * 5 + 3, none⟩ = some (.int .i64 B) := fun p => cell_below p.below (cell_below hb c3)
      have d4 : ∀ p : Bel wr, p.ww.cell? ⟨g, off + k * 5 + 4, none⟩ = some (.int .i64 D) := fun p => cell_below p.below (cell_below hb c4)
      have e0 : ∀ p : Bel wr, p.ww.cell? ⟨g', off' + k * 5, none⟩ = some (.int .i64 K) := fun p => cell_below p.below (cell_below hb p0)
      have e1 : ∀ p : Bel wr, p.ww.cell? ⟨g', off' + k * 5 + 1, none⟩ = some (.int .i64 V) := fun p => cell_below p.below (cell_below hb p1)
      have e2 : ∀ p : Bel wr, p.ww.cell? ⟨g', off' + k * 5 + 2, none⟩ = some (.int .i64 A) := fun p => cell_below p.below (cell_below hb p2)
      have e3 : ∀ p : Bel wr, p.ww.cell? ⟨g', off' + k * 5 + 3, none⟩ = some (.int .i64 B) := fun p => cell_below p.below (cell_below hb p3)
      have e4 : ∀ p : Bel wr, p.ww.cell? ⟨g', off' + k * 5 + 4, none⟩ = some (.int .i64 D) := fun p => cell_below p.below (cell_below hb p4)
      clear c0 c1 c2 c3 c4 p0 p1 p2 p3 p4
      have ik : ((k : Int) < (l.length : Int)) := by omega
      have hne := bel_some wr
      go_wp2_with fail
      (refine wp_region_bel (by kernel_rfl) (by kernel_rfl) ?_; (repeat (go_big_quiet_step ((first | (go_at_call 90; exact calls_bel (eqRow_same _ _ _ _ _ _)))))); refine wpQuiet_nil ?_)
      intro w1 hw1
      replace hw1 := bel_out hw1
      have hbw := bStep hb hw1
      go_wp2_with fail
      go_roundw
      case rel => exact ⟨k + 1, by omega, by go_num, hbw⟩
      case measure => simp [intOf]; omega
    · go_wp2_with fail
      go_ret
      exact ⟨rfl, hb⟩

/-- The marks from a on, of n rows. -/
def markR (a : Int) (i : Nat) : Rw := (((a + 5 * (i : Int), a + 5 * (i : Int) + 1), (a + 5 * (i : Int) + 1 + 1, a + 5 * (i : Int) + 1 + 1 + 1)), a + 5 * (i : Int) + 1 + 1 + 1 + 1)
def marksR (a : Int) (n : Nat) : List Rw := (List.range n).map (markR a)
theorem marksR_len (a : Int) (n : Nat) : (marksR a n).length = n := by simp [marksR]
theorem marksR_at (a : Int) {n i : Nat} (h : i < n) : (marksR a n)[i]? = some (((a + 5 * (i : Int), a + 5 * (i : Int) + 1), (a + 5 * (i : Int) + 1 + 1, a + 5 * (i : Int) + 1 + 1 + 1)), a + 5 * (i : Int) + 1 + 1 + 1 + 1) := by simp [marksR, markR, h]

set_option maxHeartbeats 8000000 in
theorem markRB_any (g n cap : Nat) (c : Array Value) (a : Int) (w : World) (h : Bk w g c 55) (hs : c.size = cap * 5) (hc : n ≤ cap) (hn : n ≤ 2097152) (h0 : 0 ≤ a) (h1 : a ≤ 1000000000) :
    Calls Try.prog 46 #[.slice (some ⟨g, 0, none⟩) n cap, .int .i64 a] w fun e w' =>
      ∃ c' : Array Value, e = .returned (.int .i64 (a + 5 * (n : Int))) ∧ Bk w' g c' 55 ∧ c'.size = cap * 5 ∧ FillK rowC 5 c' (marksR a n) n ∧ Bx g w w' := by
  go_enter Try.func46, Try.ntmps46
  go_wp2_with fail
  go_loopw [1, 5] (fun q i wr => ∃ (k : Nat) (c' : Array Value), k ≤ n ∧ i = .int .i64 k ∧ q = .int .i64 (a + 5 * (k : Int)) ∧ Bk wr g c' 55 ∧ c'.size = cap * 5 ∧ FillK rowC 5 c' (marksR a n) k ∧ Bx g w wr) (fun _ i _ => n - (intOf i).toNat)
  case atStart => exact ⟨0, c, by omega, rfl, by simp, h, hs, fun i x hi => by omega, Bx.refl _ _⟩
  case round =>
    clear h hs
    obtain ⟨k, c', hk, rfl, rfl, hbk, hcs, hfill, hb⟩ := hrel
    have HF := (show Hid _ from hfill)
    have HS := (show Hid _ from hcs)
    by_cases hlt : k < n
    · have EM := (show Hid _ from marksR_at a hlt)
      clear hfill hcs
      have bk1 := hbk.set (k * 5) (.int .i64 (a + 5 * (k : Int)))
      have hx1 := hb.setG (p := ⟨g, k * 5, none⟩) rfl (.int .i64 (a + 5 * (k : Int)))
      obtain ⟨y0, q0⟩ := hbk.held (i := k * 5) (by have := HS.out; (try simp only [Array.size_setIfInBounds]); omega)
      have f0 := hbk.free (k * 5)
      go_upto_region 5 with fail
      generalize World.setCell _ _ _ = w1 at *
      clear q0 f0 hbk hb
      have bk2 := bk1.set (k * 5 + 1) (.int .i64 (a + 5 * (k : Int) + 1))
      have hx2 := hx1.setG (p := ⟨g, k * 5 + 1, none⟩) rfl (.int .i64 (a + 5 * (k : Int) + 1))
      obtain ⟨y1, q1⟩ := bk1.held (i := k * 5 + 1) (by have := HS.out; (try simp only [Array.size_setIfInBounds]); omega)
      have f1 := bk1.free (k * 5 + 1)
      go_upto_region 7 with fail
      generalize World.setCell _ _ _ = w2 at *
      clear q1 f1 bk1 hx1
      have bk3 := bk2.set (k * 5 + 2) (.int .i64 (a + 5 * (k : Int) + 1 + 1))
      have hx3 := hx2.setG (p := ⟨g, k * 5 + 2, none⟩) rfl (.int .i64 (a + 5 * (k : Int) + 1 + 1))
      obtain ⟨y2, q2⟩ := bk2.held (i := k * 5 + 2) (by have := HS.out; (try simp only [Array.size_setIfInBounds]); omega)
      have f2 := bk2.free (k * 5 + 2)
      go_upto_region 9 with fail
      generalize World.setCell _ _ _ = w3 at *
      clear q2 f2 bk2 hx2
      have bk4 := bk3.set (k * 5 + 3) (.int .i64 (a + 5 * (k : Int) + 1 + 1 + 1))
      have hx4 := hx3.setG (p := ⟨g, k * 5 + 3, none⟩) rfl (.int .i64 (a + 5 * (k : Int) + 1 + 1 + 1))
      obtain ⟨y3, q3⟩ := bk3.held (i := k * 5 + 3) (by have := HS.out; (try simp only [Array.size_setIfInBounds]); omega)
      have f3 := bk3.free (k * 5 + 3)
      go_upto_region 11 with fail
      generalize World.setCell _ _ _ = w4 at *
      clear q3 f3 bk3 hx3
      have bk5 := bk4.set (k * 5 + 4) (.int .i64 (a + 5 * (k : Int) + 1 + 1 + 1 + 1))
      have hx5 := hx4.setG (p := ⟨g, k * 5 + 4, none⟩) rfl (.int .i64 (a + 5 * (k : Int) + 1 + 1 + 1 + 1))
      obtain ⟨y4, q4⟩ := bk4.held (i := k * 5 + 4) (by have := HS.out; (try simp only [Array.size_setIfInBounds]); omega)
      have f4 := bk4.free (k * 5 + 4)
      go_upto_region 13 with fail
      generalize World.setCell _ _ _ = w5 at *
      clear q4 f4 bk4 hx4
      go_wp2_with fail
      go_roundw
      case rel =>
        refine ⟨k + 1, _, by omega, by go_num, by go_num, bk5, ?_, FillK.step5 HF.out EM.out (by have := HS.out; omega), hx5⟩
        simpa using HS.out
      case measure => simp [intOf]; omega
    · obtain rfl : k = n := by omega
      go_wp2_with fail
      go_ret
      exact ⟨c', rfl, hbk, HS.out, HF.out, hb⟩
set_option maxHeartbeats 4000000 in
theorem markRN_any (a : Int) (w : World) :
    Calls Try.prog 46 #[.slice none 0 0, .int .i64 a] w fun e w' => e = .returned (.int .i64 a) ∧ w' = w := by
  go_enter Try.func46, Try.ntmps46
  go_wp2_with fail
  refine wp_loop_rounds 1 ?_
  rw [rounds_succ]
  go_wp2_with fail
  go_ret
  exact ⟨rfl, rfl⟩
/-- The marking of a slice that a call made for itself. -/
theorem markRO_any {B : Nat} {v : Value} {l : List Rw} {w : World} (h : OwnR w B v l) (hl : l.length ≤ 2097152) (hB : B ≤ w.heap.size) (a : Int) (h0 : 0 ≤ a) (h1 : a ≤ 1000000000) :
    Calls Try.prog 46 #[v, .int .i64 a] w fun e w' => e = .returned (.int .i64 (a + 5 * (l.length : Int))) ∧ OwnR w' B v (marksR a l.length) ∧ Below B w w' := by
  rcases ownK_open h rowC_len with ⟨rfl, rfl⟩ | ⟨g, cap, c, rfl, hg, hb, hs, hc, hm, _⟩
  · refine (markRN_any a w).mono ?_
    rintro e w' ⟨rfl, rfl⟩
    exact ⟨by simp, h, Below.refl _ _⟩
  · refine (markRB_any g l.length cap c a w hb hs hc hl h0 h1).mono ?_
    rintro e w' ⟨c', rfl, hb', hs', hf', hx⟩
    have := ownK_of_fill (B := B) hb' (l := marksR a l.length) (by rw [marksR_len]; exact hf') rowC_len hs' (by rw [marksR_len]; exact hc) hm hg
    simp only [marksR_len] at this
    exact ⟨rfl, by simpa only [marksR_len] using this, hx.bel hB hg⟩
set_option maxHeartbeats 4000000 in
theorem heldR_any (v : Value) (n : Nat) (a : Int) (w : World) (h : Rs w v (marksR a n)) (h0 : 0 ≤ a) (h1 : a ≤ 1000000000) :
    Calls Try.prog 47 #[v, .int .i64 a] w fun e w' => e = .returned (.int .i64 (a + 5 * (n : Int))) ∧ Below w.heap.size w w' := by
  obtain ⟨ad, cap, rfl, hc, hm, hn, hcells⟩ := Rs.open h
  rw [marksR_len] at hc hn hcells ⊢
  unfold maxLen at hm
  have HC := (show Hid _ from hcells)
  clear hcells h
  go_enter Try.func47, Try.ntmps47
  go_wp2_with fail
  go_loopw [1, 5] (fun q i wr => ∃ k : Nat, k ≤ n ∧ i = .int .i64 k ∧ q = .int .i64 (a + 5 * (k : Int)) ∧ Below w.heap.size w wr) (fun _ i _ => n - (intOf i).toNat)
  case atStart => exact ⟨0, by omega, rfl, by simp, Below.refl _ _⟩
  case round =>
    obtain ⟨k, hk, rfl, rfl, hb⟩ := hrel
    by_cases hlt : k < n
    · obtain ⟨g, off, K, V, A, B, D, rfl, hg, hr, c0, c1, c2, c3, c4⟩ := HC.out k hlt
      rw [marksR_at a hlt] at hr
      cases hr
      have d0 := cell_below hb c0
      have d1 := cell_below hb c1
      have d2 := cell_below hb c2
      have d3 := cell_below hb c3
      have d4 := cell_below hb c4
      clear c0 c1 c2 c3 c4
      go_wp2_with fail
      go_roundw
      case rel => exact ⟨k + 1, by omega, by go_num, by go_num, hb⟩
      case measure => simp [intOf]; omega
    · obtain rfl : k = n := by omega
      go_wp2_with fail
      go_ret
      exact ⟨rfl, hb⟩
end Go.Proofs.Ytlddhfimiignaaa

/-! A slice of rows that came in, opened. -/
namespace Go.Proofs.Ytlddhfimiignaaa
open Go.ChangeShapes Go.WideShapes Go.ChangeAt Go.RowKit Go.Joins

/-- A slice of rows that came in. -/
def RsArg (w : World) (a : Option Addr) (len cap : Nat) : Prop :=
  len ≤ cap ∧ cap ≤ maxLen ∧ ∃ q : Nat → Rw, ∀ i : Nat, i < len → ∃ g off, a = some ⟨g, off, none⟩ ∧ g < w.heap.size ∧ ∀ j, j < 5 → w.cell? ⟨g, off + i * 5 + j, none⟩ = (rowC (q i))[j]?
theorem RsArg.rs {w : World} {a : Option Addr} {len cap : Nat} (h : RsArg w a len cap) (hn : len ≤ 2097152) : ∃ l : List Rw, l.length = len ∧ Rs w (.slice a len cap) l := by
  obtain ⟨h1, h2, q, h3⟩ := h
  refine ⟨(List.range len).map q, by simp, a, cap, by simp, by simpa using h1, h2, by simpa using hn, fun i x hi => ?_⟩
  have hi' : i < len := by simpa using (List.getElem?_eq_some_iff.1 hi).1
  have : x = q i := by simp [hi'] at hi; exact hi.symm
  subst this
  exact h3 i hi'
theorem list5 {α : Type} {l : List α} (h : l.length = 5) : ∃ a b c d e, l = [a, b, c, d, e] :=
  match l, h with
  | [a, b, c, d, e], _ => ⟨a, b, c, d, e, rfl⟩
theorem cellsR : Try.prog.cellsOf 115 = 5 := by kernel_rfl
theorem RsArg.of_trod {H : Type} {enc : TypeId × Value → H} {w : World} {base : Nat} {sp : Nat → Bool} {held : Bool} {a : Option Addr} {len cap : Nat} {d : DataW H} {p : List MemPlace}
    (h : DataW.Trod enc Try.prog w base sp held 58 (.slice a len cap) d p) : RsArg w a len cap := by
  obtain ⟨fuel, hf⟩ := h
  rcases Go.Deep.open_slice Try.underlying58 hf with ⟨hcs, _⟩ | ⟨x, l, c, m, n, D, Pl, hcs, _, hl, hm, hmm, _, hx⟩
  · simp [Value.cells] at hcs
    obtain ⟨rfl, rfl, rfl⟩ := hcs
    exact ⟨Nat.le_refl _, by unfold maxLen; omega, fun _ => (((0, 0), (0, 0)), 0), fun i hi => by omega⟩
  · simp [Value.cells] at hcs
    obtain ⟨rfl, rfl, rfl⟩ := hcs
    have hlm : len ≤ m := by rw [hmm]; split <;> omega
    have each : ∀ i, i < len → ∃ q : Rw, ∀ j, j < 5 → w.cell? (x.add (i * 5 + j)) = (rowC q)[j]? := by
      intro i hi
      obtain ⟨cs', h1, h2⟩ := hx i (by omega)
      rw [cellsR] at h1
      obtain ⟨_, hlen, hcell⟩ := World.cells?_some h1
      obtain ⟨y0, y1, y2, y3, k, _, _, t0, t1, t2, t3⟩ := trod_struct4 Try.underlying115 h2
      obtain ⟨v0, v1, v2, v3, v4, rfl⟩ := list5 hlen
      simp [cellsI, cellsT] at t0 t1 t2 t3
      obtain ⟨z0, z1, k', _, _, s0, s1⟩ := trod_struct2 Try.underlying113 t2
      simp [cellsI] at s0 s1
      obtain ⟨n0, e0, _, _⟩ := DataW.trod_int Try.underlying3 t0
      obtain ⟨n1, e1, _, _⟩ := DataW.trod_int Try.underlying3 t1
      obtain ⟨n2, e2, _, _⟩ := DataW.trod_int Try.underlying3 s0
      obtain ⟨n3, e3, _, _⟩ := DataW.trod_int Try.underlying3 s1
      obtain ⟨n4, e4, _, _⟩ := DataW.trod_int Try.underlying3 t3
      simp at e0 e1 e2 e3 e4
      refine ⟨(((n0, n1), (n2, n3)), n4), fun j hj => ?_⟩
      have := hcell j hj
      rw [Go.Deep.add_add] at this
      rw [this, e0, e1, e2, e3, e4]
    obtain ⟨q, hq⟩ := Go.Deep.choose_lt each
    refine ⟨hl, hm, q, fun i hi => ?_⟩
    obtain ⟨b, off, spot⟩ := x
    have hspot : spot = none := by
      have h0 := World.cell?_spot (hq 0 (by omega) 0 (by omega))
      simpa [Addr.add] using h0
    subst hspot
    have c0 := hq i hi 0 (by omega)
    rw [add_plain] at c0
    refine ⟨b, off, rfl, lt_of_cell c0, fun j hj => ?_⟩
    have c1 := hq i hi j hj
    rw [add_plain, ← Nat.add_assoc] at c1
    exact c1
end Go.Proofs.Ytlddhfimiignaaa

/-! What the laws' own comparison of items, their marking and the look for the marks answer: contracts. -/
namespace Go.Proofs.Ytlddhfimiignaaa
open Go.RowKit
/-- Three cells of an item written. -/
abbrev set3A (c : Array Value) (o : Nat) (u0 u1 u2 : Value) : Array Value := ((c.setIfInBounds o u0).setIfInBounds (o + 1) u1).setIfInBounds (o + 2) u2
theorem set3A_at (c : Array Value) (o : Nat) (u0 u1 u2 : Value) (h : o + 2 < c.size) {j : Nat} (hj : j < 3) : (set3A c o u0 u1 u2)[o + j]? = [u0, u1, u2][j]? := by
  obtain rfl | rfl | rfl : j = 0 ∨ j = 1 ∨ j = 2 := by omega
  all_goals simp [Array.getElem?_setIfInBounds]
  all_goals omega
theorem set3A_else (c : Array Value) (o : Nat) (u0 u1 u2 : Value) {i : Nat} (hi : i < o ∨ o + 2 < i) : (set3A c o u0 u1 u2)[i]? = c[i]? := by
  simp only [Array.getElem?_setIfInBounds]
  rw [if_neg (by omega), if_neg (by omega), if_neg (by omega)]
theorem FillK.step3 {c : Array Value} {l : List It} {k : Nat} {K V D : Int} (h : FillK itC 3 c l k) (hr : l[k]? = some ((K, V), D)) (hs : k * 3 + 2 < c.size) :
    FillK itC 3 (set3A c (k * 3) (.int .i64 K) (.int .i64 V) (.int .i64 D)) l (k + 1) := by
  intro i x hi hx j hj
  by_cases e : i = k
  · subst e
    rw [hr] at hx; cases hx
    exact set3A_at c _ _ _ _ hs hj
  · rw [set3A_else c _ _ _ _ (by omega)]
    exact h i x (by omega) hx j hj
/-- The marks from a on, of n items. -/
def markI (a : Int) (i : Nat) : It := ((a + 3 * (i : Int), a + 3 * (i : Int) + 1), a + 3 * (i : Int) + 1 + 1)
def marksI (a : Int) (n : Nat) : List It := (List.range n).map (markI a)
theorem marksI_len (a : Int) (n : Nat) : (marksI a n).length = n := by simp [marksI]
theorem marksI_at (a : Int) {n i : Nat} (h : i < n) : (marksI a n)[i]? = some ((a + 3 * (i : Int), a + 3 * (i : Int) + 1), a + 3 * (i : Int) + 1 + 1) := by simp [marksI, markI, h]

end Go.Proofs.Ytlddhfimiignaaa

/-! What the laws' own functions on items answer, and a slice of items that came in, opened: contracts. -/
namespace Go.Proofs.Ytlddhfimiignaaa
open Go.RowKit

theorem Bk.set3 {w : World} {g : Nat} {x0 x1 x2 : Value} {t : TypeId} (h : Bk w g #[x0, x1, x2] t) (u0 u1 u2 : Value) :
    Bk (((w.setCell ⟨g, 0, none⟩ u0).setCell ⟨g, 1, none⟩ u1).setCell ⟨g, 2, none⟩ u2) g #[u0, u1, u2] t := ((h.set 0 u0).set 1 u1).set 2 u2
theorem make_items (n : Nat) (hn : n ≤ 2097152) : ∃ M : Array Value, M.size = n * 3 ∧ ∀ u : World, (Instr.makeSlice 23 (.int .i64 (n : Int)) (.int .i64 (n : Int))).run Try.prog u = .ok (.slice (some ⟨u.heap.size, 0, none⟩) n n) (u.alloc (.cells M 34)) := by
  obtain ⟨i0, hi, hz0, hz1, hz2⟩ := info_parts infoI
  refine ⟨madeCells (Value.agg #[.int .i64 0, .int .i64 0, .int .i64 0]).cells (n * i0.size), by rw [size_madeCells, hz1], fun u => ?_⟩
  have := run_make (P := Try.prog) u 23 34 i0 _ Try.underlying23 hi hz0 .i64 .i64 (n : Int) (n : Int) (by omega) (by omega) (by rw [hz2]; omega) (by omega)
  simpa using this
section
open Go.ChangeShapes Go.WideShapes Go.ChangeAt Go.RowKit Go.Joins
/-- A slice of items that came in. -/
def IsArg (w : World) (a : Option Addr) (len cap : Nat) : Prop :=
  len ≤ cap ∧ cap ≤ maxLen ∧ ∃ q : Nat → It, ∀ i : Nat, i < len → ∃ g off, a = some ⟨g, off, none⟩ ∧ g < w.heap.size ∧ ∀ j, j < 3 → w.cell? ⟨g, off + i * 3 + j, none⟩ = (itC (q i))[j]?
theorem IsArg.is {w : World} {a : Option Addr} {len cap : Nat} (h : IsArg w a len cap) (hn : len ≤ 2097152) : ∃ l : List It, l.length = len ∧ Is w (.slice a len cap) l := by
  obtain ⟨h1, h2, q, h3⟩ := h
  refine ⟨(List.range len).map q, by simp, a, cap, by simp, by simpa using h1, h2, by simpa using hn, fun i x hi => ?_⟩
  have hi' : i < len := by simpa using (List.getElem?_eq_some_iff.1 hi).1
  have : x = q i := by simp [hi'] at hi; exact hi.symm
  subst this
  exact h3 i hi'
theorem list3 {α : Type} {l : List α} (h : l.length = 3) : ∃ a b c, l = [a, b, c] :=
  match l, h with
  | [a, b, c], _ => ⟨a, b, c, rfl⟩
end
end Go.Proofs.Ytlddhfimiignaaa
