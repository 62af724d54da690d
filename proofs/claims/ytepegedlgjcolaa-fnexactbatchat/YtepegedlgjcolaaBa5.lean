/- What the laws' own comparison of rows, their marking and the look for the marks answer: contracts. -/
import Derived.Test.YtepegedlgjcolaaBa4
import Derived.Deep.Cut
namespace Go.Proofs.Ytepegedlgjcolaa
open Go.RowKit
theorem Bk.some {w : World} {g : Nat} {c : Array Value} {t : TypeId} (h : Bk w g c t) {i : Nat} (hi : i < c.size) : ∃ y, w.cell? ⟨g, i, none⟩ = .some y := ⟨_, h.cell (Array.getElem?_eq_getElem hi)⟩
theorem eqTime_is (a b : Int) (w : World) : Calls Try.prog 98 #[tv a b, tv a b] w fun e w' => e = .returned (.bool true) ∧ Below w.heap.size w w' := by
  have := eqTime_any a b a b w
  rw [eqB_self] at this
  exact this
set_option maxHeartbeats 2000000 in
theorem eqRow_same (k v a b d : Int) (w : World) :
    Calls Try.prog 94 #[rv k v a b d, rv k v a b d] w fun e w' => e = .returned (.bool true) ∧ Below w.heap.size w w' := by
  go_enter Try.func94, Try.ntmps94
  go_wp2_with fail
  refine (eqTime_is _ _ _).mono ?_
  rintro e w1 ⟨rfl, hb1⟩
  obtain ⟨b0, b1⟩ := boxed2 hb1
  obtain ⟨x0, x1, x2, x3, x4⟩ := b0.five
  obtain ⟨y0, y1, y2, y3, y4⟩ := b1.five
  go_wp2_with fail
  go_ret
  refine ⟨rfl, ?_⟩
  repeat' (first | (with_reducible exact Below.refl _ _) | (with_reducible assumption) | (with_reducible refine bStep ?_ (by with_reducible assumption)) | (with_reducible refine bAlloc ?_ _) | (with_reducible refine Below.drew ?_) | (with_reducible refine bDrewN ?_ _) | (with_reducible refine Below.setCell ?_ ?_ _) | (simp; done) | (simp; omega) | omega)
set_option maxHeartbeats 4000000 in
theorem eqRowS_same (v v' : Value) (l : List Rw) (w : World) (h : Rs w v l) (h' : Rs w v' l) :
    Calls Try.prog 46 #[v, v'] w fun e w' => e = .returned (.bool true) ∧ Below w.heap.size w w' := by
  obtain ⟨a, cap, rfl, hc, hm, hn, hcells⟩ := Rs.open h
  obtain ⟨a', cap', rfl, hc', hm', hn', hcells'⟩ := Rs.open h'
  unfold maxLen at hm hm'
  have HC := (show Hid _ from hcells)
  have HC' := (show Hid _ from hcells')
  clear hcells hcells' hn' h h'
  go_enter Try.func46, Try.ntmps46
  go_wp2_with fail
  go_loopw [5] (fun i wr => ∃ k : Nat, k ≤ l.length ∧ i = .int .i64 k ∧ Below w.heap.size w wr) (fun i _ => l.length - (intOf i).toNat)
  case atStart => exact ⟨0, by omega, rfl, Below.refl _ _⟩
  case round =>
    obtain ⟨k, hk, rfl, hb⟩ := hrel
    by_cases hlt : k < l.length
    · obtain ⟨g, off, K, V, A, B, D, rfl, hg, hr, c0, c1, c2, c3, c4⟩ := HC.out k hlt
      obtain ⟨g', off', K', V', A', B', D', rfl, hg', hr', p0, p1, p2, p3, p4⟩ := HC'.out k hlt
      rw [hr] at hr'
      cases hr'
      clear hr
      have d0 : ∀ p : Bel wr, p.ww.cell? ⟨g, off + k * 5, none⟩ = some (.int .i64 K) := fun p => cell_below p.below (cell_below hb c0)
      have d1 : ∀ p : Bel wr, p.ww.cell? ⟨g, off + k * 5 + 1, none⟩ = some (.int .i64 V) := fun p => cell_below p.below (cell_below hb c1)
      have d2 : ∀ p : Bel wr, p.ww.cell? ⟨g, off + k * 5 + 2, none⟩ = some (.int .i64 A) := fun p => cell_below p.below (cell_below hb c2)
      have d3 : ∀ p : Bel wr, p.ww.cell? ⟨g, off + k * 5 + 3, none⟩ = some (.int .i64 B) := fun p => cell_below p.below (cell_below hb c3)
      have d4 : ∀ p : Bel wr, p.ww.cell? ⟨g, off + k * 5 + 4, none⟩ = some (.int .i64 D) := fun p => cell_below p.below (cell_below hb c4)
      have e0 : ∀ p : Bel wr, p.ww.cell? ⟨g', off' + k * 5, none⟩ = some (.int .i64 K) := fun p => cell_below p.below (cell_below hb p0)
      have e1 : ∀ p : Bel wr, p.ww.cell? ⟨g', off' + k * 5 + 1, none⟩ = some (.int .i64 V) := fun p => cell_below p.below (cell_below hb p1)
      have e2 : ∀ p : Bel wr, p.ww.cell? ⟨g', off' + k * 5 + 2, none⟩ = some (.int .i64 A) := fun p => cell_below p.below (cell_below hb p2)
      have e3 : ∀ p : Bel wr, p.ww.cell? ⟨g', off' + k * 5 + 3, none⟩ = some (.int .i64 B) := fun p => cell_below p.below (cell_below hb p3)
      have e4 : ∀ p : Bel wr, p.ww.cell? ⟨g', off' + k * 5 + 4, none⟩ = some (.int .i64 D) := fun p => cell_below p.below (cell_below hb p4)
      clear c0 c1 c2 c3 c4 p0 p1 p2 p3 p4
      have ik : ((k : Int) < (l.length : Int)) := by omega
      have hne := bel_some wr
      go_wp2_with fail
      (refine wp_region_bel (by kernel_rfl) (by kernel_rfl) ?_; (repeat (go_big_quiet_step ((first | (go_at_call 94; exact calls_bel (eqRow_same _ _ _ _ _ _)))))); refine wpQuiet_nil ?_)
      intro w1 hw1
      replace hw1 := bel_out hw1
      have hbw := bStep hb hw1
      go_wp2_with fail
      go_roundw
      case rel => exact ⟨k + 1, by omega, by go_num, hbw⟩
      case measure => simp [intOf]; omega
    · go_wp2_with fail
      go_ret
      exact ⟨rfl, hb⟩

/-- The marks from a on, of n rows. -/
def markR (a : Int) (i : Nat) : Rw := (((a + 5 * (i : Int), a + 5 * (i : Int) + 1), (a + 5 * (i : Int) + 1 + 1, a + 5 * (i : Int) + 1 + 1 + 1)), a + 5 * (i : Int) + 1 + 1 + 1 + 1)
def marksR (a : Int) (n : Nat) : List Rw := (List.range n).map (markR a)
theorem marksR_len (a : Int) (n : Nat) : (marksR a n).length = n := by simp [marksR]
theorem marksR_at (a : Int) {n i : Nat} (h : i < n) : (marksR a n)[i]? = some (((a + 5 * (i : Int), a + 5 * (i : Int) + 1), (a + 5 * (i : Int) + 1 + 1, a + 5 * (i : Int) + 1 + 1 + 1)), a + 5 * (i : Int) + 1 + 1 + 1 + 1) := by simp [marksR, markR, h]

set_option maxHeartbeats 8000000 in
theorem markRB_any (g n cap : Nat) (c : Array Value) (a : Int) (w : World) (h : Bk w g c 33) (hs : c.size = cap * 5) (hc : n ≤ cap) (hn : n ≤ 2097152) (h0 : 0 ≤ a) (h1 : a ≤ 1000000000) :
    Calls Try.prog 47 #[.slice (some ⟨g, 0, none⟩) n cap, .int .i64 a] w fun e w' =>
      ∃ c' : Array Value, e = .returned (.int .i64 (a + 5 * (n : Int))) ∧ Bk w' g c' 33 ∧ c'.size = cap * 5 ∧ FillK rowC 5 c' (marksR a n) n ∧ Bx g w w' := by
  go_enter Try.func47, Try.ntmps47
  go_wp2_with fail
  go_loopw [1, 5] (fun q i wr => ∃ (k : Nat) (c' : Array Value), k ≤ n ∧ i = .int .i64 k ∧ q = .int .i64 (a + 5 * (k : Int)) ∧ Bk wr g c' 33 ∧ c'.size = cap * 5 ∧ FillK rowC 5 c' (marksR a n) k ∧ Bx g w wr) (fun _ i _ => n - (intOf i).toNat)
  case atStart => exact ⟨0, c, by omega, rfl, by simp, h, hs, fun i x hi => by omega, Bx.refl _ _⟩
  case round =>
    clear h hs
    obtain ⟨k, c', hk, rfl, rfl, hbk, hcs, hfill, hb⟩ := hrel
    have HF := (show Hid _ from hfill)
    have HS := (show Hid _ from hcs)
    by_cases hlt : k < n
    · have EM := (show Hid _ from marksR_at a hlt)
      clear hfill hcs
      have bk1 := hbk.set (k * 5) (.int .i64 (a + 5 * (k : Int)))
      have hx1 := hb.setG (p := ⟨g, k * 5, none⟩) rfl (.int .i64 (a + 5 * (k : Int)))
      obtain ⟨y0, q0⟩ := hbk.some (i := k * 5) (by have := HS.out; (try simp only [Array.size_setIfInBounds]); omega)
      have f0 := hbk.free (k * 5)
      go_upto_region 5 with fail
      generalize World.setCell _ _ _ = w1 at *
      clear q0 f0 hbk hb
      have bk2 := bk1.set (k * 5 + 1) (.int .i64 (a + 5 * (k : Int) + 1))
      have hx2 := hx1.setG (p := ⟨g, k * 5 + 1, none⟩) rfl (.int .i64 (a + 5 * (k : Int) + 1))
      obtain ⟨y1, q1⟩ := bk1.some (i := k * 5 + 1) (by have := HS.out; (try simp only [Array.size_setIfInBounds]); omega)
      have f1 := bk1.free (k * 5 + 1)
      go_upto_region 7 with fail
      generalize World.setCell _ _ _ = w2 at *
      clear q1 f1 bk1 hx1
      have bk3 := bk2.set (k * 5 + 2) (.int .i64 (a + 5 * (k : Int) + 1 + 1))
      have hx3 := hx2.setG (p := ⟨g, k * 5 + 2, none⟩) rfl (.int .i64 (a + 5 * (k : Int) + 1 + 1))
      obtain ⟨y2, q2⟩ := bk2.some (i := k * 5 + 2) (by have := HS.out; (try simp only [Array.size_setIfInBounds]); omega)
      have f2 := bk2.free (k * 5 + 2)
      go_upto_region 9 with fail
      generalize World.setCell _ _ _ = w3 at *
      clear q2 f2 bk2 hx2
      have bk4 := bk3.set (k * 5 + 3) (.int .i64 (a + 5 * (k : Int) + 1 + 1 + 1))
      have hx4 := hx3.setG (p := ⟨g, k * 5 + 3, none⟩) rfl (.int .i64 (a + 5 * (k : Int) + 1 + 1 + 1))
      obtain ⟨y3, q3⟩ := bk3.some (i := k * 5 + 3) (by have := HS.out; (try simp only [Array.size_setIfInBounds]); omega)
      have f3 := bk3.free (k * 5 + 3)
      go_upto_region 11 with fail
      generalize World.setCell _ _ _ = w4 at *
      clear q3 f3 bk3 hx3
      have bk5 := bk4.set (k * 5 + 4) (.int .i64 (a + 5 * (k : Int) + 1 + 1 + 1 + 1))
      have hx5 := hx4.setG (p := ⟨g, k * 5 + 4, none⟩) rfl (.int .i64 (a + 5 * (k : Int) + 1 + 1 + 1 + 1))
      obtain ⟨y4, q4⟩ := bk4.some (i := k * 5 + 4) (by have := HS.out; (try simp only [Array.size_setIfInBounds]); omega)
      have f4 := bk4.free (k * 5 + 4)
      go_upto_region 13 with fail
      generalize World.setCell _ _ _ = w5 at *
      clear q4 f4 bk4 hx4
      go_wp2_with fail
      go_roundw
      case rel =>
        refine ⟨k + 1, _, by omega, by go_num, by go_num, bk5, ?_, FillK.step5 HF.out EM.out (by have := HS.out; omega), hx5⟩
        simpa using HS.out
      case measure => simp [intOf]; omega
    · obtain rfl : k = n := by omega
      go_wp2_with fail
      go_ret
      exact ⟨c', rfl, hbk, HS.out, HF.out, hb⟩
set_option maxHeartbeats 4000000 in
theorem markRN_any (a : Int) (w : World) :
    Calls Try.prog 47 #[.slice none 0 0, .int .i64 a] w fun e w' => e = .returned (.int .i64 a) ∧ w' = w := by
  go_enter Try.func47, Try.ntmps47
  go_wp2_with fail
  refine wp_loop_rounds 1 ?_
  rw [rounds_succ]
  go_wp2_with fail
  go_ret
  exact ⟨rfl, rfl⟩
/-- The marking of a slice that a call made for itself. -/
theorem markRO_any {B : Nat} {v : Value} {l : List Rw} {w : World} (h : OwnR w B v l) (hl : l.length ≤ 2097152) (hB : B ≤ w.heap.size) (a : Int) (h0 : 0 ≤ a) (h1 : a ≤ 1000000000) :
    Calls Try.prog 47 #[v, .int .i64 a] w fun e w' => e = .returned (.int .i64 (a + 5 * (l.length : Int))) ∧ OwnR w' B v (marksR a l.length) ∧ Below B w w' := by
  rcases ownK_open h rowC_len with ⟨rfl, rfl⟩ | ⟨g, cap, c, rfl, hg, hb, hs, hc, hm, _⟩
  · refine (markRN_any a w).mono ?_
    rintro e w' ⟨rfl, rfl⟩
    exact ⟨by simp, h, Below.refl _ _⟩
  · refine (markRB_any g l.length cap c a w hb hs hc hl h0 h1).mono ?_
    rintro e w' ⟨c', rfl, hb', hs', hf', hx⟩
    have := ownK_of_fill (B := B) hb' (l := marksR a l.length) (by rw [marksR_len]; exact hf') rowC_len hs' (by rw [marksR_len]; exact hc) hm hg
    simp only [marksR_len] at this
    exact ⟨rfl, by simpa only [marksR_len] using this, hx.bel hB hg⟩
set_option maxHeartbeats 4000000 in
theorem heldR_any (v : Value) (n : Nat) (a : Int) (w : World) (h : Rs w v (marksR a n)) (h0 : 0 ≤ a) (h1 : a ≤ 1000000000) :
    Calls Try.prog 48 #[v, .int .i64 a] w fun e w' => e = .returned (.int .i64 (a + 5 * (n : Int))) ∧ Below w.heap.size w w' := by
  obtain ⟨ad, cap, rfl, hc, hm, hn, hcells⟩ := Rs.open h
  rw [marksR_len] at hc hn hcells ⊢
  unfold maxLen at hm
  have HC := (show Hid _ from hcells)
  clear hcells h
  go_enter Try.func48, Try.ntmps48
  go_wp2_with fail
  go_loopw [1, 5] (fun q i wr => ∃ k : Nat, k ≤ n ∧ i = .int .i64 k ∧ q = .int .i64 (a + 5 * (k : Int)) ∧ Below w.heap.size w wr) (fun _ i _ => n - (intOf i).toNat)
  case atStart => exact ⟨0, by omega, rfl, by simp, Below.refl _ _⟩
  case round =>
    obtain ⟨k, hk, rfl, rfl, hb⟩ := hrel
    by_cases hlt : k < n
    · obtain ⟨g, off, K, V, A, B, D, rfl, hg, hr, c0, c1, c2, c3, c4⟩ := HC.out k hlt
      rw [marksR_at a hlt] at hr
      cases hr
      have d0 := cell_below hb c0
      have d1 := cell_below hb c1
      have d2 := cell_below hb c2
      have d3 := cell_below hb c3
      have d4 := cell_below hb c4
      clear c0 c1 c2 c3 c4
      go_wp2_with fail
      go_roundw
      case rel => exact ⟨k + 1, by omega, by go_num, by go_num, hb⟩
      case measure => simp [intOf]; omega
    · obtain rfl : k = n := by omega
      go_wp2_with fail
      go_ret
      exact ⟨rfl, hb⟩
end Go.Proofs.Ytepegedlgjcolaa
