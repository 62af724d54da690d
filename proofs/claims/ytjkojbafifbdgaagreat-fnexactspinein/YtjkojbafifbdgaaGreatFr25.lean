/- What the laws' marking of a slice of times answers, and the look whether the marks are there still: contracts. -/
import Derived.Test.YtjkojbafifbdgaaGreatGa8
namespace Go.Proofs.YtjkojbafifbdgaaGreat
open Go.RowKit

/-- The marks from a on, of n times. -/
def marksL (a : Int) (n : Nat) : List (Int × Int) := (List.range n).map fun i : Nat => (a + 2 * (i : Int), a + 2 * (i : Int) + 1)
theorem marksL_len (a : Int) (n : Nat) : (marksL a n).length = n := by simp [marksL]
theorem marksL_at (a : Int) {n i : Nat} (h : i < n) : tA (marksL a n) i = a + 2 * (i : Int) ∧ tB (marksL a n) i = a + 2 * (i : Int) + 1 := by
  simp [marksL, tA, tB, h]

set_option maxHeartbeats 4000000 in
theorem markB_any (g n cap : Nat) (c : Array Value) (a : Int) (w : World) (h : Bk w g c 71) (hs : c.size = cap * 2) (hc : n ≤ cap) (hn : n ≤ 2097152) (h0 : 0 ≤ a) (h1 : a ≤ 1000000000) :
    Calls Tryz.prog 72 #[.slice (some ⟨g, 0, none⟩) n cap, .int .i64 a] w fun e w' =>
      ∃ c' : Array Value, e = .returned (.int .i64 (a + 2 * (n : Int))) ∧ Bk w' g c' 71 ∧ c'.size = cap * 2 ∧ Fill c' (marksL a n) n ∧ Bx g w w' := by
  go_enter Tryz.func72, Tryz.ntmps72
  go_wp2_with fail
  go_loopw [1, 5] (fun q i wr => ∃ (k : Nat) (c' : Array Value), k ≤ n ∧ i = .int .i64 k ∧ q = .int .i64 (a + 2 * (k : Int)) ∧ Bk wr g c' 71 ∧ c'.size = cap * 2 ∧ Fill c' (marksL a n) k ∧ Bx g w wr) (fun _ i _ => n - (intOf i).toNat)
  case atStart => exact ⟨0, c, by omega, rfl, by simp, h, hs, fun i hi => by omega, Bx.refl _ _⟩
  case round =>
    clear h hs
    obtain ⟨k, c', hk, rfl, rfl, hbk, hcs, hfill, hb⟩ := hrel
    have HF := (show Hid _ from hfill)
    have HS := (show Hid _ from hcs)
    by_cases hlt : k < n
    · obtain ⟨y0, q0⟩ : ∃ y, wr.cell? ⟨g, k * 2, none⟩ = some y := ⟨_, hbk.cell (Array.getElem?_eq_getElem (show k * 2 < c'.size by omega))⟩
      obtain ⟨y1, q1⟩ : ∃ y, wr.cell? ⟨g, k * 2 + 1, none⟩ = some y := ⟨_, hbk.cell (Array.getElem?_eq_getElem (show k * 2 + 1 < c'.size by omega))⟩
      have f0 := hbk.free (k * 2)
      have f1 := hbk.free (k * 2 + 1)
      have EM := (show Hid _ from marksL_at a hlt)
      clear hfill hcs
      have bk1 := hbk.set (k * 2) (.int .i64 (a + 2 * (k : Int)))
      have bk2 := bk1.set (k * 2 + 1) (.int .i64 (a + 2 * (k : Int) + 1))
      have f2 := bk1.free (k * 2 + 1)
      obtain ⟨y2, q2⟩ : ∃ y, (wr.setCell ⟨g, k * 2, none⟩ (.int .i64 (a + 2 * (k : Int)))).cell? ⟨g, k * 2 + 1, none⟩ = some y := ⟨_, bk1.cell (Array.getElem?_eq_getElem (by have := HS.out; simp; omega))⟩
      go_wp2_with fail
      go_roundw
      case rel =>
        refine ⟨k + 1, _, by omega, by go_num, by go_num, bk2, ?_, ?_, ?_⟩
        · simpa using HS.out
        · have := Fill.step (k := k) HF.out (by have := HS.out; omega)
          rw [EM.out.1, EM.out.2] at this
          exact this
        · exact (hb.setG rfl _).setG rfl _
      case measure => simp [intOf]; omega
    · obtain rfl : k = n := by omega
      go_wp2_with fail
      go_ret
      exact ⟨c', rfl, hbk, HS.out, HF.out, hb⟩

set_option maxHeartbeats 4000000 in
theorem markN_any (a : Int) (w : World) :
    Calls Tryz.prog 72 #[.slice none 0 0, .int .i64 a] w fun e w' => e = .returned (.int .i64 a) ∧ w' = w := by
  go_enter Tryz.func72, Tryz.ntmps72
  go_wp2_with fail
  refine wp_loop_rounds 1 ?_
  rw [rounds_succ]
  go_wp2_with fail
  go_ret
  exact ⟨rfl, rfl⟩

/-- The marking of a slice that a call made for itself. -/
theorem markO_any {B : Nat} {v : Value} {l : List (Int × Int)} {w : World} (h : Own w B v l) (hl : l.length ≤ 2097152) (hB : B ≤ w.heap.size) (a : Int) (h0 : 0 ≤ a) (h1 : a ≤ 1000000000) :
    Calls Tryz.prog 72 #[v, .int .i64 a] w fun e w' => e = .returned (.int .i64 (a + 2 * (l.length : Int))) ∧ Own w' B v (marksL a l.length) ∧ Below B w w' := by
  rcases own_open h with ⟨rfl, rfl⟩ | ⟨g, cap, c, rfl, hg, hb, hs, hc, hm, _⟩
  · refine (markN_any a w).mono ?_
    rintro e w' ⟨rfl, rfl⟩
    exact ⟨by simp, h, Below.refl _ _⟩
  · refine (markB_any g l.length cap c a w hb hs hc hl h0 h1).mono ?_
    rintro e w' ⟨c', rfl, hb', hs', hf', hx⟩
    have := own_of_fill (B := B) hb' (F := marksL a l.length) (by rw [marksL_len]; exact hf') hs' (by rw [marksL_len]; exact hc) hm hg
    rw [marksL_len] at this
    exact ⟨rfl, this, hx.bel hB hg⟩

set_option maxHeartbeats 4000000 in
theorem held_any (v : Value) (n : Nat) (a : Int) (w : World) (h : Ts w v (marksL a n)) (h0 : 0 ≤ a) (h1 : a ≤ 1000000000) :
    Calls Tryz.prog 74 #[v, .int .i64 a] w fun e w' => e = .returned (.int .i64 (a + 2 * (n : Int))) ∧ Below w.heap.size w w' := by
  obtain ⟨ad, cap, rfl, hc, hm, hn, hcells⟩ := h
  rw [marksL_len] at hc hn hcells ⊢
  unfold maxLen at hm
  have HC := (show Hid _ from hcells)
  clear hcells
  go_enter Tryz.func74, Tryz.ntmps74
  go_wp2_with fail
  go_loopw [1, 5] (fun q i wr => ∃ k : Nat, k ≤ n ∧ i = .int .i64 k ∧ q = .int .i64 (a + 2 * (k : Int)) ∧ Below w.heap.size w wr) (fun _ i _ => n - (intOf i).toNat)
  case atStart => exact ⟨0, by omega, rfl, by simp, Below.refl _ _⟩
  case round =>
    obtain ⟨k, hk, rfl, rfl, hb⟩ := hrel
    by_cases hlt : k < n
    · obtain ⟨g, off, rfl, hg, c0, c1⟩ := HC.out k hlt
      rw [(marksL_at a hlt).1] at c0
      rw [(marksL_at a hlt).2] at c1
      have d0 := cell_below hb c0
      have d1 := cell_below hb c1
      clear c0 c1
      go_wp2_with fail
      go_roundw
      case rel => exact ⟨k + 1, by omega, by go_num, by go_num, hb⟩
      case measure => simp [intOf]; omega
    · obtain rfl : k = n := by omega
      go_wp2_with fail
      go_ret
      exact ⟨rfl, hb⟩
/-- A slice of a call's own is as it was where its block is. -/
theorem own_at {w w1 : World} {B : Nat} {v : Value} {l : List (Int × Int)} (h : Own w B v l) (hk : ∀ k, v.ownBlock = some k → w1.heap[k]? = w.heap[k]?) : Own w1 B v l := by
  obtain ⟨h1, h2⟩ := h
  refine ⟨h1, ?_⟩
  rcases h2 with h2 | ⟨g, cap, cur, rfl, hg, hh, r⟩
  · exact .inl h2
  · exact .inr ⟨g, cap, cur, rfl, hg, by rw [hk g (by simp [Value.ownBlock])]; exact hh, r⟩
theorem own_under {w w1 : World} {B N : Nat} {v : Value} {l : List (Int × Int)} (h : Own w B v l) (hb : Below N w w1) (hk : ∀ k, v.ownBlock = some k → k < N) : Own w1 B v l :=
  own_at h fun k e => hb.block k (hk k e)
theorem own_beside {w w1 : World} {B g : Nat} {v : Value} {l : List (Int × Int)} (h : Own w B v l) (hb : Bx g w w1) (hk : ∀ k, v.ownBlock = some k → k ≠ g) : Own w1 B v l :=
  own_at h fun k e => hb.block k (own_lt h k e) (hk k e)
end Go.Proofs.YtjkojbafifbdgaaGreat
