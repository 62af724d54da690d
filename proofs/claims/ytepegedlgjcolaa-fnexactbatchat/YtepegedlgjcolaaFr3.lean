/- What the laws' own functions on slices of times answer: contracts. -/
import Derived.Test.YtepegedlgjcolaaFr0
import Derived.Test.YtepegedlgjcolaaToTime
namespace Go.Proofs.Ytepegedlgjcolaa
open Go.RowKit

theorem Bk.cell {w : World} {k : Nat} {c : Array Value} {t : TypeId} (h : Bk w k c t) {i : Nat} {v : Value} (hi : c[i]? = some v) : w.cell? ⟨k, i, none⟩ = some v := by
  unfold Bk at h; simp [World.cell?, h, hi]
theorem Bk.free {w : World} {k : Nat} {c : Array Value} {t : TypeId} (h : Bk w k c t) (i : Nat) : w.frozen? ⟨k, i, none⟩ = false := by
  unfold Bk at h; simp [World.frozen?, h]
/-- The first k times of l stand at the head of the cells c. -/
def Fill (c : Array Value) (l : List (Int × Int)) (k : Nat) : Prop :=
  ∀ i, i < k → c[i * 2]? = some (.int .i64 (tA l i)) ∧ c[i * 2 + 1]? = some (.int .i64 (tB l i))
theorem Fill.step {c : Array Value} {l : List (Int × Int)} {k : Nat} (h : Fill c l k) (hs : k * 2 + 1 < c.size) :
    Fill ((c.setIfInBounds (k * 2) (.int .i64 (tA l k))).setIfInBounds (k * 2 + 1) (.int .i64 (tB l k))) l (k + 1) := by
  intro i hi
  by_cases e : i = k
  · subst e
    simp [Array.getElem?_setIfInBounds]; omega
  · obtain ⟨h1, h2⟩ := h i (by omega)
    have n1 : ¬ k * 2 + 1 = i * 2 := by omega
    have n2 : ¬ k * 2 = i * 2 := by omega
    have n3 : ¬ k * 2 + 1 = i * 2 + 1 := by omega
    have n4 : ¬ k * 2 = i * 2 + 1 := by omega
    simp only [Array.getElem?_setIfInBounds, n1, n2, n3, n4, if_false]
    exact ⟨h1, h2⟩
theorem Ts.of_blk {w : World} {g cap : Nat} {c : Array Value} {t : TypeId} {l : List (Int × Int)} (h : Bk w g c t) (hf : Fill c l l.length) (hc : l.length ≤ cap) (hm : cap ≤ maxLen) (hn : l.length ≤ 2097152) :
    Ts w (.slice (some ⟨g, 0, none⟩) l.length cap) l := by
  refine ⟨_, cap, rfl, hc, hm, hn, fun i hi => ⟨g, 0, rfl, h.lt, ?_, ?_⟩⟩
  · rw [Nat.zero_add]; exact h.cell (hf i hi).1
  · rw [Nat.zero_add]; exact h.cell (hf i hi).2

set_option maxHeartbeats 1000000 in
theorem szTimeS_any (a : Option Addr) (n cap : Nat) (left : Int) (w : World) (hn : n ≤ cap) (hc : cap ≤ maxLen) (h0 : 0 ≤ left) (h1 : left ≤ 1048576) :
    Calls Try.prog 56 #[.slice a n cap, .int .i64 left] w fun e w' => e = .returned (.int .i64 (if left < n then -1 else left - n)) ∧ w' = w := by
  unfold maxLen at hc
  by_cases h : left < (n : Int)
  · go_enter Try.func56, Try.ntmps56
    go_wp2
    go_ret
    exact ⟨rfl, rfl⟩
  · go_enter Try.func56, Try.ntmps56
    go_wp2
    go_ret
    exact ⟨rfl, rfl⟩

theorem make_times (n : Nat) (hn : n ≤ 2097152) : ∃ M : Array Value, M.size = n * 2 ∧ ∀ u : World, (Instr.makeSlice 37 (.int .i64 (n : Int)) (.int .i64 (n : Int))).run Try.prog u = .ok (.slice (some ⟨u.heap.size, 0, none⟩) n n) (u.alloc (.cells M 31)) := by
  have infoT : (Try.prog.info? 31).map (fun i => (i.zero, i.size, i.bytes)) = some (some (.agg #[.int .i64 0, .int .i64 0]), 2, 16) := by kernel_rfl
  obtain ⟨i0, hi, hz0, hz1, hz2⟩ := info_parts infoT
  refine ⟨madeCells (Value.agg #[.int .i64 0, .int .i64 0]).cells (n * i0.size), by rw [size_madeCells, hz1], fun u => ?_⟩
  have := run_make (P := Try.prog) u 37 31 i0 _ Try.underlying37 hi hz0 .i64 .i64 (n : Int) (n : Int) (by omega) (by omega) (by rw [hz2]; omega) (by omega)
  simpa using this

set_option maxHeartbeats 4000000 in
theorem toTimeS_any (v : Value) (l : List (Int × Int)) (w : World) (h : Ts w v l) :
    Calls Try.prog 57 #[v] w fun e w' => ∃ (g : Nat) (c : Array Value), e = .returned (.slice (some ⟨g, 0, none⟩) l.length l.length) ∧ w.heap.size ≤ g ∧ Bk w' g c 31 ∧ c.size = l.length * 2 ∧ Fill c l l.length ∧ Below w.heap.size w w' := by
  obtain ⟨a, cap, rfl, hc, hm, hn, hcells⟩ := h
  unfold maxLen at hm
  obtain ⟨M, hM, hmk⟩ := make_times l.length hn
  have HC := (show Hid _ from hcells)
  have HM := (show Hid _ from hM)
  clear hcells hM
  go_enter Try.func57, Try.ntmps57
  go_wp2_with fail
  go_loopw [4] (fun i wr => ∃ (k : Nat) (c : Array Value), k ≤ l.length ∧ i = .int .i64 k ∧ Bk wr w.heap.size c 31 ∧ c.size = l.length * 2 ∧ Fill c l k ∧ Below w.heap.size w wr) (fun i _ => l.length - (intOf i).toNat)
  case atStart => exact ⟨0, M, by omega, rfl, Bk.new _ _ rfl, HM.out, fun i hi => by omega, bAlloc (Below.refl _ _) _⟩
  case round =>
    obtain ⟨k, c, hk, rfl, hbk, hcs, hfill, hb⟩ := hrel
    have HF := (show Hid _ from hfill)
    have HS := (show Hid _ from hcs)
    clear hfill hcs
    by_cases hlt : k < l.length
    · obtain ⟨g, off, rfl, hg, c0, c1⟩ := HC.out k hlt
      have d0 := cell_below hb c0
      have d1 := cell_below hb c1
      clear c0 c1
      generalize hX : tA l k = X at *
      generalize hY : tB l k = Y at *
      have EX : Hid (tA l k = X) := hX
      have EY : Hid (tB l k = Y) := hY
      clear hX hY
      go_wp2_with fail
      refine (toTime_any _ _ _).mono ?_
      rintro e w1 ⟨rfl, hb1⟩
      have bk1 := hbk.keep hb1
      have hbw := bStep hb hb1
      have hs := HS.out
      obtain ⟨y0, q0⟩ : ∃ y, w1.cell? ⟨w.heap.size, k * 2, none⟩ = some y := ⟨_, bk1.cell (Array.getElem?_eq_getElem (show k * 2 < c.size by omega))⟩
      obtain ⟨y1, q1⟩ : ∃ y, w1.cell? ⟨w.heap.size, k * 2 + 1, none⟩ = some y := ⟨_, bk1.cell (Array.getElem?_eq_getElem (show k * 2 + 1 < c.size by omega))⟩
      have f0 := bk1.free (k * 2)
      have f1 := bk1.free (k * 2 + 1)
      clear hs
      go_wp2_with fail
      go_roundw
      case rel =>
        have bk2 := (bk1.set (k * 2) (.int .i64 X)).set (k * 2 + 1) (.int .i64 Y)
        refine ⟨k + 1, _, by omega, by go_num, bk2, ?_, ?_, ?_⟩
        · simpa using HS.out
        · have := Fill.step (k := k) HF.out (by have := HS.out; omega)
          rw [EX.out, EY.out] at this
          exact this
        · exact (hbw.setCell (by simp) _).setCell (by simp) _
      case measure => simp [intOf]; omega
    · obtain rfl : k = l.length := by omega
      go_wp2_with fail
      go_ret
      exact ⟨w.heap.size, c, rfl, Nat.le_refl _, hbk, HS.out, HF.out, hb⟩

theorem eqTime_same (a b : Int) (w : World) : Calls Try.prog 98 #[tv a b, tv a b] w fun e w' => e = .returned (.bool true) ∧ Below w.heap.size w w' := by
  have := eqTime_any a b a b w
  rw [eqB_self] at this
  exact this

set_option maxHeartbeats 4000000 in
theorem eqTimeS_same (v v' : Value) (l : List (Int × Int)) (w : World) (h : Ts w v l) (h' : Ts w v' l) :
    Calls Try.prog 58 #[v, v'] w fun e w' => e = .returned (.bool true) ∧ Below w.heap.size w w' := by
  obtain ⟨a, cap, rfl, hc, hm, hn, hcells⟩ := h
  obtain ⟨a', cap', rfl, hc', hm', hn', hcells'⟩ := h'
  unfold maxLen at hm hm'
  have HC := (show Hid _ from hcells)
  have HC' := (show Hid _ from hcells')
  clear hcells hcells' hn'
  go_enter Try.func58, Try.ntmps58
  go_wp2_with fail
  go_loopw [5] (fun i wr => ∃ k : Nat, k ≤ l.length ∧ i = .int .i64 k ∧ Below w.heap.size w wr) (fun i _ => l.length - (intOf i).toNat)
  case atStart => exact ⟨0, by omega, rfl, Below.refl _ _⟩
  case round =>
    obtain ⟨k, hk, rfl, hb⟩ := hrel
    by_cases hlt : k < l.length
    · obtain ⟨g, off, rfl, hg, c0, c1⟩ := HC.out k hlt
      obtain ⟨g', off', rfl, hg', p0, p1⟩ := HC'.out k hlt
      generalize tA l k = X at *
      generalize tB l k = Y at *
      have d0 : ∀ p : Bel wr, p.ww.cell? ⟨g, off + k * 2, none⟩ = some (.int .i64 X) := fun p => cell_below p.below (cell_below hb c0)
      have d1 : ∀ p : Bel wr, p.ww.cell? ⟨g, off + k * 2 + 1, none⟩ = some (.int .i64 Y) := fun p => cell_below p.below (cell_below hb c1)
      have e0 : ∀ p : Bel wr, p.ww.cell? ⟨g', off' + k * 2, none⟩ = some (.int .i64 X) := fun p => cell_below p.below (cell_below hb p0)
      have e1 : ∀ p : Bel wr, p.ww.cell? ⟨g', off' + k * 2 + 1, none⟩ = some (.int .i64 Y) := fun p => cell_below p.below (cell_below hb p1)
      clear c0 c1 p0 p1
      have ik : ((k : Int) < (l.length : Int)) := by omega
      have hne := bel_some wr
      go_wp2_with fail
      (refine wp_region_bel (by kernel_rfl) (by kernel_rfl) ?_; (repeat (go_big_quiet_step ((first | (go_at_call 98; exact calls_bel (eqTime_same _ _ _)))))); refine wpQuiet_nil ?_)
      intro w1 hw1
      replace hw1 := bel_out hw1
      have hbw := bStep hb hw1
      go_wp2_with fail
      go_roundw
      case rel => exact ⟨k + 1, by omega, by go_num, hbw⟩
      case measure => simp [intOf]; omega
    · go_wp2_with fail
      go_ret
      exact ⟨rfl, hb⟩
end Go.Proofs.Ytepegedlgjcolaa
