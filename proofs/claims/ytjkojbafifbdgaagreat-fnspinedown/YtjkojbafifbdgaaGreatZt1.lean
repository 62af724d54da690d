/- Which of two cursors' rows is to be taken first: the contracts. -/
import Derived.Test.YtjkojbafifbdgaaGreatZt0
import Derived.Test.YtjkojbafifbdgaaGreatGb3
namespace Go.Proofs.YtjkojbafifbdgaaGreat
open Go.RowKit Go.Shelf

/-- A cursor over rows, and how far it has come. -/
def Cur (w : World) (g : Nat) (l : List Rw) (k : Nat) : Prop := ∃ (a : Option Addr) (cap : Nat), Bk w g #[.slice a l.length cap, .int .i64 k] 134 ∧ Rs w (.slice a l.length cap) l
theorem Cur.keep {w w1 : World} {g k : Nat} {l : List Rw} (h : Cur w g l k) (hb : Below w.heap.size w w1) : Cur w1 g l k := by
  obtain ⟨a, cap, h1, h2⟩ := h; exact ⟨a, cap, h1.keep hb, h2.keep hb⟩
theorem more_c {w : World} {g k : Nat} {l : List Rw} {r : Bool} (h : Cur w g l k) (e : decide (k < l.length) = r) :
    Calls Tryz.prog 114 #[.pointer (some ⟨g, 0, none⟩)] w fun e w' => e = .returned (.bool r) ∧ Below w.heap.size w w' := by
  obtain ⟨a, cap, h1, -⟩ := h; exact more_eq e h1
set_option maxHeartbeats 2000000 in
theorem against_1 {w : World} {g i : Nat} (g' : Nat) {l : List Rw} (h : Cur w g l i) (hi : l.length ≤ i) :
    Calls Tryz.prog 115 #[.pointer (some ⟨g, 0, none⟩), .pointer (some ⟨g', 0, none⟩)] w fun e w' => e = .returned (.int .i64 1) ∧ Below w.heap.size w w' := by
  have hd : decide (i < l.length) = false := by simp; omega
  go_enter Tryz.func115, Tryz.ntmps115
  go_wp2_with fail
  refine (more_c h hd).mono ?_
  rintro e w1 ⟨rfl, hb1⟩
  go_wp2_with fail
  go_ret
  exact ⟨rfl, hb1⟩
set_option maxHeartbeats 2000000 in
theorem against_2 {w : World} {g g' i j : Nat} {l m : List Rw} (h : Cur w g l i) (hi : i < l.length) (h' : Cur w g' m j) (hj : m.length ≤ j) :
    Calls Tryz.prog 115 #[.pointer (some ⟨g, 0, none⟩), .pointer (some ⟨g', 0, none⟩)] w fun e w' => e = .returned (.int .i64 (-1)) ∧ Below w.heap.size w w' := by
  have hd : decide (i < l.length) = true := by simp; omega
  have hd' : decide (j < m.length) = false := by simp; omega
  go_enter Tryz.func115, Tryz.ntmps115
  go_wp2_with fail
  refine (more_c h hd).mono ?_
  rintro e w1 ⟨rfl, hb1⟩
  have H1 := h'.keep hb1
  go_wp2_with fail
  refine (more_c H1 hd').mono ?_
  rintro e w2 ⟨rfl, hb2⟩
  go_wp2_with fail
  go_ret
  exact ⟨rfl, bStep hb1 hb2⟩
set_option maxRecDepth 100000 in
set_option maxHeartbeats 8000000 in
theorem against_3 {w : World} {g g' i j : Nat} {l m : List Rw} (h : Cur w g l i) (h' : Cur w g' m j) {s t : Sp} {d d' : Int} (hi : l[i]? = some (s, d)) (hj : m[j]? = some (t, d')) {r : Int} (hr : cmpS s t = r) :
    Calls Tryz.prog 115 #[.pointer (some ⟨g, 0, none⟩), .pointer (some ⟨g', 0, none⟩)] w fun e w' => e = .returned (.int .i64 r) ∧ Below w.heap.size w w' := by
  have hil := (List.getElem?_eq_some_iff.1 hi).1
  have hjl := (List.getElem?_eq_some_iff.1 hj).1
  have hd : decide (i < l.length) = true := by simp; omega
  have hd' : decide (j < m.length) = true := by simp; omega
  have H' := h'
  obtain ⟨a, cap, hb, hR⟩ := h
  obtain ⟨a', cap', hb', hR'⟩ := h'
  obtain ⟨a0, cap0, e0, -, -, -, hcells⟩ := Rs.open hR
  obtain ⟨a1, cap1, e1, -, -, -, hcells'⟩ := Rs.open hR'
  obtain ⟨gr, off, K, V, A, B, D, rfl, hg, hq, c0, c1, c2, c3, c4⟩ := hcells i hil
  obtain ⟨gr', off', K', V', A', B', D', rfl, hg', hq', p0, p1, p2, p3, p4⟩ := hcells' j hjl
  cases e0; cases e1
  rw [hi] at hq; cases hq
  rw [hj] at hq'; cases hq'
  have ik : (i : Int) < (l.length : Int) := by omega
  have jk : (j : Int) < (m.length : Int) := by omega
  clear hcells hcells' hR hR' hi hj
  go_enter Tryz.func115, Tryz.ntmps115
  go_wp2_with fail
  refine (more_eq hd hb).mono ?_
  rintro e w1 ⟨rfl, hb1⟩
  have H1 := H'.keep hb1
  go_wp2_with fail
  refine (more_c H1 hd').mono ?_
  rintro e w2 ⟨rfl, hb2⟩
  have hw2 := bStep hb1 hb2
  have d0 : ∀ p : Bel w2, p.ww.cell? ⟨gr, off + i * 5, none⟩ = some (.int .i64 K) := fun p => cell_below p.below (cell_below hw2 c0)
  have d1 : ∀ p : Bel w2, p.ww.cell? ⟨gr, off + i * 5 + 1, none⟩ = some (.int .i64 V) := fun p => cell_below p.below (cell_below hw2 c1)
  have d2 : ∀ p : Bel w2, p.ww.cell? ⟨gr, off + i * 5 + 2, none⟩ = some (.int .i64 A) := fun p => cell_below p.below (cell_below hw2 c2)
  have d3 : ∀ p : Bel w2, p.ww.cell? ⟨gr, off + i * 5 + 3, none⟩ = some (.int .i64 B) := fun p => cell_below p.below (cell_below hw2 c3)
  have d4 : ∀ p : Bel w2, p.ww.cell? ⟨gr, off + i * 5 + 4, none⟩ = some (.int .i64 d) := fun p => cell_below p.below (cell_below hw2 c4)
  have e0 : ∀ p : Bel w2, p.ww.cell? ⟨gr', off' + j * 5, none⟩ = some (.int .i64 K') := fun p => cell_below p.below (cell_below hw2 p0)
  have e1 : ∀ p : Bel w2, p.ww.cell? ⟨gr', off' + j * 5 + 1, none⟩ = some (.int .i64 V') := fun p => cell_below p.below (cell_below hw2 p1)
  have e2 : ∀ p : Bel w2, p.ww.cell? ⟨gr', off' + j * 5 + 2, none⟩ = some (.int .i64 A') := fun p => cell_below p.below (cell_below hw2 p2)
  have e3 : ∀ p : Bel w2, p.ww.cell? ⟨gr', off' + j * 5 + 3, none⟩ = some (.int .i64 B') := fun p => cell_below p.below (cell_below hw2 p3)
  have e4 : ∀ p : Bel w2, p.ww.cell? ⟨gr', off' + j * 5 + 4, none⟩ = some (.int .i64 d') := fun p => cell_below p.below (cell_below hw2 p4)
  have f0 : ∀ p : Bel w2, p.ww.cell? ⟨g, 0, none⟩ = some (.slice (some ⟨gr, off, none⟩) l.length cap) := fun p => ((hb.keep hw2).keep p.below).two.1
  have f1 : ∀ p : Bel w2, p.ww.cell? ⟨g, 1, none⟩ = some (.int .i64 i) := fun p => ((hb.keep hw2).keep p.below).two.2.1
  have f2 : ∀ p : Bel w2, p.ww.cell? ⟨g', 0, none⟩ = some (.slice (some ⟨gr', off', none⟩) m.length cap') := fun p => ((hb'.keep hw2).keep p.below).two.1
  have f3 : ∀ p : Bel w2, p.ww.cell? ⟨g', 1, none⟩ = some (.int .i64 j) := fun p => ((hb'.keep hw2).keep p.below).two.2.1
  have hne := bel_some w2
  clear c0 c1 c2 c3 c4 p0 p1 p2 p3 p4 hb hb' H' H1 hb1 hb2
  go_wp2_with fail
  (refine wp_region_bel (by kernel_rfl) (by kernel_rfl) ?_; (repeat (go_big_quiet_step ((first | (go_at_call 80; exact calls_bel (compareR_eq hr _)))))); refine wpQuiet_nil ?_)
  intro w3 hw3
  replace hw3 := bel_out hw3
  go_wp2_with fail
  go_ret
  exact ⟨rfl, bStep hw2 hw3⟩
end Go.Proofs.YtjkojbafifbdgaaGreat
