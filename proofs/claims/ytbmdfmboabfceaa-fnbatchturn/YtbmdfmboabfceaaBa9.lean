/- What BatchOk answers, of the program and of its model: contracts. -/
import Derived.Test.YtbmdfmboabfceaaBa8
import Derived.Deep.Cut
namespace Go.Proofs.Ytbmdfmboabfceaa
open Go.RowKit

theorem upto_st {l : List Rw} {k : Nat} (h : ∀ j, j < k → bstep l j = true) (hk : bstep l k = true) {j : Nat} (hj : j < k + 1) : bstep l j = true := by
  by_cases e : j = k
  · subst e; exact hk
  · exact h j (by omega)
set_option maxHeartbeats 8000000 in
theorem specBatchOk_any (v : Value) (l : List Rw) (w : World) (h : Rs w v l) :
    Calls Try.prog 43 #[v] w fun e w' => e = .returned (.bool (bokB l)) ∧ Below w.heap.size w w' := by
  cases hro : rokB l
  · have HK : Hid (bokB l = false) := bok_nr hro
    go_enter Try.func43, Try.ntmps43
    go_wp2_with fail
    refine (specRowsOk_eq hro h).mono ?_
    rintro e w1 ⟨rfl, hb1⟩
    go_wp2_with fail
    go_ret
    exact ⟨ret_bool HK.out.symm, hb1⟩
  have HY : Hid ((∀ i, i < l.length → bstep l i = true) → bokB l = true) := fun h => bok_mk hro h
  have HN : Hid (∀ i, i < l.length → bstep l i = false → bokB l = false) := fun i h1 h2 => bok_no h1 h2
  go_enter Try.func43, Try.ntmps43
  go_wp2_with fail
  refine (specRowsOk_eq hro h).mono ?_
  rintro e w0 ⟨rfl, hb0⟩
  obtain ⟨a, cap, rfl, hc, hm, hn, hcells⟩ := Rs.open (h.keep hb0)
  unfold maxLen at hm
  have HC := (show Hid _ from hcells)
  clear hcells h hro
  go_wp2_with fail
  go_loopw [3] (fun i wr => ∃ k : Nat, k ≤ l.length ∧ i = .int .i64 k ∧ (∀ j, j < k → bstep l j = true) ∧ Below w0.heap.size w0 wr) (fun i _ => l.length - (intOf i).toNat)
  case atStart => exact ⟨0, by omega, rfl, fun j hj => by omega, Below.refl _ _⟩
  case round =>
    obtain ⟨k, hk, rfl, hall, hb⟩ := hrel
    have HA := (show Hid _ from hall)
    clear hall
    have hbw := bStep hb0 hb
    by_cases hlt : k < l.length
    · obtain ⟨g, off, K, V, A, B, D, rfl, hg, hr, c0, c1, c2, c3, c4⟩ := HC.out k hlt
      have d0 : ∀ p : Bel wr, p.ww.cell? ⟨g, off + k * 5, none⟩ = some (.int .i64 K) := fun p => cell_below p.below (cell_below hb c0)
      have d1 : ∀ p : Bel wr, p.ww.cell? ⟨g, off + k * 5 + 1, none⟩ = some (.int .i64 V) := fun p => cell_below p.below (cell_below hb c1)
      have d2 : ∀ p : Bel wr, p.ww.cell? ⟨g, off + k * 5 + 2, none⟩ = some (.int .i64 A) := fun p => cell_below p.below (cell_below hb c2)
      have d3 : ∀ p : Bel wr, p.ww.cell? ⟨g, off + k * 5 + 3, none⟩ = some (.int .i64 B) := fun p => cell_below p.below (cell_below hb c3)
      have d4 : ∀ p : Bel wr, p.ww.cell? ⟨g, off + k * 5 + 4, none⟩ = some (.int .i64 D) := fun p => cell_below p.below (cell_below hb c4)
      have HR := (show Hid _ from hr)
      clear c0 c1 c2 c3 c4 hr
      have hne := bel_some wr
      have ik : ((k : Int) < (l.length : Int)) := by omega
      by_cases hD : D = 0
      · subst hD
        have HK : Hid (bokB l = false) := HN.out k hlt (by
          have hr := HR.out
          unfold bstep; rw [hr]; simp)
        go_wp2_with fail
        (refine wp_region_bel (by kernel_rfl) (by kernel_rfl) ?_; (repeat (go_big_quiet_step ((first | (go_at_call 110; exact calls_bel (l2Comp_eq (by with_reducible assumption) _)))))); refine wpQuiet_nil ?_)
        intro w1 hw1
        replace hw1 := bel_out hw1
        go_wp2_with fail
        go_ret
        exact ⟨ret_bool HK.out.symm, bStep hbw hw1⟩
      have nD : (D == 0) = false := by simpa using hD
      rcases k with _ | m
      · have HST : Hid (bstep l 0 = true) := by
          have hr := HR.out
          show _ = true
          rw [bstep_first hr]; simpa using hD
        simp only [Nat.zero_mul, Nat.add_zero] at d0 d1 d2 d3 d4
        go_wp2_with fail
        (refine wp_region_bel (by kernel_rfl) (by kernel_rfl) ?_; (repeat (go_big_quiet_step ((first | (go_at_call 110; exact calls_bel (l2Comp_eq (by with_reducible assumption) _)))))); refine wpQuiet_nil ?_)
        intro w1 hw1
        replace hw1 := bel_out hw1
        have hb1 := bStep hb hw1
        go_wp2_with fail
        exact ⟨⟨1, by omega, rfl, fun j hj => upto_st HA.out HST.out hj, hb1⟩, by simp [intOf]; omega⟩
      · obtain ⟨g', off', K', V', A', B', D', he, hg', hq, p0, p1, p2, p3, p4⟩ := HC.out m (by omega)
        simp at he
        obtain ⟨rfl, rfl⟩ := he
        have e0 : ∀ p : Bel wr, p.ww.cell? ⟨g, off + m * 5, none⟩ = some (.int .i64 K') := fun p => cell_below p.below (cell_below hb p0)
        have e1 : ∀ p : Bel wr, p.ww.cell? ⟨g, off + m * 5 + 1, none⟩ = some (.int .i64 V') := fun p => cell_below p.below (cell_below hb p1)
        have e2 : ∀ p : Bel wr, p.ww.cell? ⟨g, off + m * 5 + 2, none⟩ = some (.int .i64 A') := fun p => cell_below p.below (cell_below hb p2)
        have e3 : ∀ p : Bel wr, p.ww.cell? ⟨g, off + m * 5 + 3, none⟩ = some (.int .i64 B') := fun p => cell_below p.below (cell_below hb p3)
        have e4 : ∀ p : Bel wr, p.ww.cell? ⟨g, off + m * 5 + 4, none⟩ = some (.int .i64 D') := fun p => cell_below p.below (cell_below hb p4)
        clear p0 p1 p2 p3 p4
        have HST : Hid (bstep l (m + 1) = ltS ((K', V'), (A', B')) ((K, V), (A, B))) := by
          have hr := HR.out
          show _ = _
          rw [bstep_next hr hq]
          have : decide (D ≠ 0) = true := by simpa using hD
          rw [this, Bool.true_and]
        clear hq
        have im0 : (0 : Int) ≤ (m : Int) := by omega
        have im1 : (m : Int) < (l.length : Int) := by omega
        have im2 : (l.length : Int) ≤ 2097152 := by omega
        have iw : IntKind.i64.wrap (m : Int) = (m : Int) := by rw [IntKind.wrap_i64]; omega
        have hcl := cmpS_lt ((K', V'), (A', B')) ((K, V), (A, B))
        obtain ⟨r, hcr⟩ : ∃ r, cmpS ((K', V'), (A', B')) ((K, V), (A, B)) = r := ⟨_, rfl⟩
        rw [hcr] at hcl
        cases hst : ltS ((K', V'), (A', B')) ((K, V), (A, B))
        · have HK : Hid (bokB l = false) := HN.out (m + 1) hlt (by rw [HST.out]; exact hst)
          have nr : decide (0 ≤ r) = true := by rw [hst] at hcl; simp at hcl ⊢; omega
          clear hcl
          go_wp2_with fail
          (refine wp_region_bel (by kernel_rfl) (by kernel_rfl) ?_; (repeat (go_big_quiet_step ((first | (go_at_call 110; exact calls_bel (l2Comp_eq (by with_reducible assumption) _)))))); refine wpQuiet_nil ?_)
          intro w1 hw1
          replace hw1 := bel_out hw1
          go_wp2_with fail
          go_ret
          exact ⟨ret_bool HK.out.symm, bStep hbw hw1⟩
        · have HK : Hid (bstep l (m + 1) = true) := by show _ = true; rw [HST.out]; exact hst
          have nr : decide (0 ≤ r) = false := by rw [hst] at hcl; simp at hcl ⊢; omega
          clear hcl
          go_wp2_with fail
          (refine wp_region_bel (by kernel_rfl) (by kernel_rfl) ?_; (repeat (go_big_quiet_step ((first | (go_at_call 110; exact calls_bel (l2Comp_eq (by with_reducible assumption) _)))))); refine wpQuiet_nil ?_)
          intro w1 hw1
          replace hw1 := bel_out hw1
          have hb1 := bStep hb hw1
          go_wp2_with fail
          go_roundw
          case rel => exact ⟨m + 1 + 1, by omega, by go_num, fun j hj => upto_st HA.out HK.out hj, hb1⟩
          case measure => simp [intOf]; omega
    · have HK : Hid (bokB l = true) := HY.out fun j hj => HA.out j (by omega)
      go_wp2_with fail
      go_ret
      exact ⟨ret_bool HK.out.symm, hbw⟩
theorem specBatchOk_eq {l : List Rw} {r : Bool} (h : bokB l = r) {v : Value} {w : World} (hs : Rs w v l) :
    Calls Try.prog 43 #[v] w fun e w' => e = .returned (.bool r) ∧ Below w.heap.size w w' := by
  rw [← h]; exact specBatchOk_any v l w hs

set_option maxHeartbeats 8000000 in
theorem implBatchOk_any (v : Value) (l : List Rw) (w : World) (h : Rs w v l) :
    Calls Try.prog 40 #[v] w fun e w' => e = .returned (.bool (bokB l)) ∧ Below w.heap.size w w' := by
  cases hro : rokB l
  · have HK : Hid (bokB l = false) := bok_nr hro
    go_enter Try.func40, Try.ntmps40
    go_wp2_with fail
    refine (implRowsOk_eq hro h).mono ?_
    rintro e w1 ⟨rfl, hb1⟩
    go_wp2_with fail
    go_ret
    exact ⟨ret_bool HK.out.symm, hb1⟩
  have HY : Hid ((∀ i, i < l.length → bstep l i = true) → bokB l = true) := fun h => bok_mk hro h
  have HN : Hid (∀ i, i < l.length → bstep l i = false → bokB l = false) := fun i h1 h2 => bok_no h1 h2
  go_enter Try.func40, Try.ntmps40
  go_wp2_with fail
  refine (implRowsOk_eq hro h).mono ?_
  rintro e w0 ⟨rfl, hb0⟩
  obtain ⟨a, cap, rfl, hc, hm, hn, hcells⟩ := Rs.open (h.keep hb0)
  unfold maxLen at hm
  have HC := (show Hid _ from hcells)
  clear hcells h hro
  go_wp2_with fail
  go_loopw [10] (fun i wr => ∃ k : Nat, k ≤ l.length ∧ i = .int .i64 k ∧ (∀ j, j < k → bstep l j = true) ∧ Below w0.heap.size w0 wr) (fun i _ => l.length - (intOf i).toNat)
  case atStart => exact ⟨0, by omega, rfl, fun j hj => by omega, Below.refl _ _⟩
  case round =>
    obtain ⟨k, hk, rfl, hall, hb⟩ := hrel
    have HA := (show Hid _ from hall)
    clear hall
    by_cases hlt : k < l.length
    · obtain ⟨g, off, K, V, A, B, D, rfl, hg, hr, c0, c1, c2, c3, c4⟩ := HC.out k hlt
      have d0 := cell_below hb c0
      have d1 := cell_below hb c1
      have d2 := cell_below hb c2
      have d3 := cell_below hb c3
      have d4 := cell_below hb c4
      have HR := (show Hid _ from hr)
      clear c0 c1 c2 c3 c4 hr
      have ik : ((k : Int) < (l.length : Int)) := by omega
      have bt0 := Bk.new (w := wr) #[.int .i64 K, .int .i64 V, .int .i64 A, .int .i64 B, .int .i64 D] 33 rfl
      have hbt : Below wr.heap.size wr (wr.alloc (.cells #[.int .i64 K, .int .i64 V, .int .i64 A, .int .i64 B, .int .i64 D] 33)) := bAlloc (Below.refl _ _) _
      have hb' := bStep hb hbt
      have hbw := bStep hb0 hb'
      go_upto_region 6 with fail
      clear d0 d1 d2 d3 d4
      generalize wr.heap.size = tb at *
      generalize World.alloc _ _ = wt at *
      have t0 : ∀ p : Bel wt, p.ww.cell? ⟨tb, 0, none⟩ = some (.int .i64 K) := fun p => (bt0.keep p.below).five.1
      have t1 : ∀ p : Bel wt, p.ww.cell? ⟨tb, 1, none⟩ = some (.int .i64 V) := fun p => (bt0.keep p.below).five.2.1
      have t2 : ∀ p : Bel wt, p.ww.cell? ⟨tb, 2, none⟩ = some (.int .i64 A) := fun p => (bt0.keep p.below).five.2.2.1
      have t3 : ∀ p : Bel wt, p.ww.cell? ⟨tb, 3, none⟩ = some (.int .i64 B) := fun p => (bt0.keep p.below).five.2.2.2.1
      have t4 : ∀ p : Bel wt, p.ww.cell? ⟨tb, 4, none⟩ = some (.int .i64 D) := fun p => (bt0.keep p.below).five.2.2.2.2
      have hne := bel_some wt
      clear bt0 hbt hb
      by_cases hD : D = 0
      · subst hD
        have HK : Hid (bokB l = false) := HN.out k hlt (by
          have hr := HR.out
          unfold bstep; rw [hr]; simp)
        go_wp2_with fail
        (refine wp_region_bel (by kernel_rfl) (by kernel_rfl) ?_; (repeat (go_big_quiet_step ((first | (go_at_call 105; exact calls_bel (compareR_eq (by with_reducible assumption) _)))))); refine wpQuiet_nil ?_)
        intro w1 hw1
        replace hw1 := bel_out hw1
        go_wp2_with fail
        go_ret
        exact ⟨ret_bool HK.out.symm, bStep hbw hw1⟩
      have nD : (D == 0) = false := by simpa using hD
      rcases k with _ | m
      · have HST : Hid (bstep l 0 = true) := by
          have hr := HR.out
          show _ = true
          rw [bstep_first hr]; simpa using hD
        go_wp2_with fail
        (refine wp_region_bel (by kernel_rfl) (by kernel_rfl) ?_; (repeat (go_big_quiet_step ((first | (go_at_call 105; exact calls_bel (compareR_eq (by with_reducible assumption) _)))))); refine wpQuiet_nil ?_)
        intro w1 hw1
        replace hw1 := bel_out hw1
        have hb1 := bStep hb' hw1
        go_wp2_with fail
        exact ⟨⟨1, by omega, rfl, fun j hj => upto_st HA.out HST.out hj, hb1⟩, by simp [intOf]; omega⟩
      · obtain ⟨g', off', K', V', A', B', D', he, hg', hq, p0, p1, p2, p3, p4⟩ := HC.out m (by omega)
        simp at he
        obtain ⟨rfl, rfl⟩ := he
        have e0 : ∀ p : Bel wt, p.ww.cell? ⟨g, off + m * 5, none⟩ = some (.int .i64 K') := fun p => cell_below p.below (cell_below hb' p0)
        have e1 : ∀ p : Bel wt, p.ww.cell? ⟨g, off + m * 5 + 1, none⟩ = some (.int .i64 V') := fun p => cell_below p.below (cell_below hb' p1)
        have e2 : ∀ p : Bel wt, p.ww.cell? ⟨g, off + m * 5 + 2, none⟩ = some (.int .i64 A') := fun p => cell_below p.below (cell_below hb' p2)
        have e3 : ∀ p : Bel wt, p.ww.cell? ⟨g, off + m * 5 + 3, none⟩ = some (.int .i64 B') := fun p => cell_below p.below (cell_below hb' p3)
        have e4 : ∀ p : Bel wt, p.ww.cell? ⟨g, off + m * 5 + 4, none⟩ = some (.int .i64 D') := fun p => cell_below p.below (cell_below hb' p4)
        clear p0 p1 p2 p3 p4
        have HST : Hid (bstep l (m + 1) = ltS ((K', V'), (A', B')) ((K, V), (A, B))) := by
          have hr := HR.out
          show _ = _
          rw [bstep_next hr hq]
          have : decide (D ≠ 0) = true := by simpa using hD
          rw [this, Bool.true_and]
        clear hq
        have im0 : (0 : Int) ≤ (m : Int) := by omega
        have im1 : (m : Int) < (l.length : Int) := by omega
        have im2 : (l.length : Int) ≤ 2097152 := by omega
        have iw : IntKind.i64.wrap (m : Int) = (m : Int) := by rw [IntKind.wrap_i64]; omega
        have hcl := cmpS_lt ((K', V'), (A', B')) ((K, V), (A, B))
        obtain ⟨r, hcr⟩ : ∃ r, cmpS ((K', V'), (A', B')) ((K, V), (A, B)) = r := ⟨_, rfl⟩
        rw [hcr] at hcl
        cases hst : ltS ((K', V'), (A', B')) ((K, V), (A, B))
        · have HK : Hid (bokB l = false) := HN.out (m + 1) hlt (by rw [HST.out]; exact hst)
          have nr : decide (0 ≤ r) = true := by rw [hst] at hcl; simp at hcl ⊢; omega
          clear hcl
          go_wp2_with fail
          (refine wp_region_bel (by kernel_rfl) (by kernel_rfl) ?_; (repeat (go_big_quiet_step ((first | (go_at_call 105; exact calls_bel (compareR_eq (by with_reducible assumption) _)))))); refine wpQuiet_nil ?_)
          intro w1 hw1
          replace hw1 := bel_out hw1
          go_wp2_with fail
          go_ret
          exact ⟨ret_bool HK.out.symm, bStep hbw hw1⟩
        · have HK : Hid (bstep l (m + 1) = true) := by show _ = true; rw [HST.out]; exact hst
          have nr : decide (0 ≤ r) = false := by rw [hst] at hcl; simp at hcl ⊢; omega
          clear hcl
          go_wp2_with fail
          (refine wp_region_bel (by kernel_rfl) (by kernel_rfl) ?_; (repeat (go_big_quiet_step ((first | (go_at_call 105; exact calls_bel (compareR_eq (by with_reducible assumption) _)))))); refine wpQuiet_nil ?_)
          intro w1 hw1
          replace hw1 := bel_out hw1
          have hb1 := bStep hb' hw1
          go_wp2_with fail
          go_roundw
          case rel => exact ⟨m + 1 + 1, by omega, by go_num, fun j hj => upto_st HA.out HK.out hj, hb1⟩
          case measure => simp [intOf]; omega
    · have HK : Hid (bokB l = true) := HY.out fun j hj => HA.out j (by omega)
      go_wp2_with fail
      go_ret
      exact ⟨ret_bool HK.out.symm, bStep hb0 hb⟩
theorem implBatchOk_eq {l : List Rw} {r : Bool} (h : bokB l = r) {v : Value} {w : World} (hs : Rs w v l) :
    Calls Try.prog 40 #[v] w fun e w' => e = .returned (.bool r) ∧ Below w.heap.size w w' := by
  rw [← h]; exact implBatchOk_any v l w hs
end Go.Proofs.Ytbmdfmboabfceaa
