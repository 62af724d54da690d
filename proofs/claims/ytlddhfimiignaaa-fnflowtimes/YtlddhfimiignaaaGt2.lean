/- What SetOk answers, of the program and of its model: contracts. -/
import Derived.Test.YtlddhfimiignaaaGb3
import Derived.Test.YtlddhfimiignaaaGt1
import Derived.Deep.Cut
namespace Go.Proofs.Ytlddhfimiignaaa
open Go.RowKit

theorem l6In_b {n lo hi : Int} {r : Bool} (h : inB n lo hi = r) (w : World) : Calls Try.prog 59 #[.int .i64 n, .int .i64 lo, .int .i64 hi] w fun e w' => e = .returned (.bool r) ∧ Below w.heap.size w w' :=
  (l6In_eq h w).mono fun _ _ ⟨h1, h2⟩ => ⟨h1, by rw [h2]; exact Below.refl _ _⟩
theorem l3Big_b (w : World) : Calls Try.prog 60 #[] w fun e w' => e = .returned (.int .i64 1099511627776) ∧ Below w.heap.size w w' := by
  go_enter Try.func60, Try.ntmps60
  go_wp2_with fail
  go_ret
  exact ⟨rfl, Below.refl _ _⟩
def itB (k v d : Int) : Bool := inB k 0 3 && inB v 0 99 && decide (d ≠ 0)
theorem itOk_eq (k v d : Int) : itOkB ((k, v), d) = (itB k v d && inB d (-1099511627776) 1099511627776) := rfl
set_option maxHeartbeats 2000000 in
theorem l3Item_any (k v d : Int) (w : World) : Calls Try.prog 58 #[iv k v d] w fun e w' => e = .returned (.bool (itB k v d)) ∧ Below w.heap.size w w' := by
  have H : Hid (itB k v d = (inB k 0 3 && inB v 0 99 && decide (d ≠ 0))) := rfl
  have hb0 : Below w.heap.size w (w.alloc (.cells #[.int .i64 k, .int .i64 v, .int .i64 d] 34)) := bAlloc (Below.refl _ _) _
  cases h1 : inB k 0 3
  · go_enter Try.func58, Try.ntmps58
    go_wp2_with (go_at_call 59; refine (l6In_eq (by with_reducible assumption) _).mono ?_; rintro e w' ⟨rfl, rfl⟩)
    go_ret
    exact ⟨ret_bool (by rw [H.out, h1]; rfl), hb0⟩
  cases h2 : inB v 0 99
  · go_enter Try.func58, Try.ntmps58
    go_wp2_with (go_at_call 59; refine (l6In_eq (by with_reducible assumption) _).mono ?_; rintro e w' ⟨rfl, rfl⟩)
    go_ret
    exact ⟨ret_bool (by rw [H.out, h1, h2]; rfl), hb0⟩
  by_cases h3 : d = 0
  · subst h3
    go_enter Try.func58, Try.ntmps58
    go_wp2_with (go_at_call 59; refine (l6In_eq (by with_reducible assumption) _).mono ?_; rintro e w' ⟨rfl, rfl⟩)
    go_ret
    exact ⟨ret_bool (by rw [H.out]; simp), hb0⟩
  · have n3 : (d == 0) = false := by simpa using h3
    have H4 : Hid (itB k v d = true) := by show _ = _; rw [H.out, h1, h2]; simpa using h3
    go_enter Try.func58, Try.ntmps58
    go_wp2_with (go_at_call 59; refine (l6In_eq (by with_reducible assumption) _).mono ?_; rintro e w' ⟨rfl, rfl⟩)
    go_ret
    exact ⟨ret_bool (by rw [H4.out]; simpa using h3), hb0⟩
theorem l3Item_eq {k v d : Int} {r : Bool} (h : itB k v d = r) (w : World) : Calls Try.prog 58 #[iv k v d] w fun e w' => e = .returned (.bool r) ∧ Below w.heap.size w w' := by
  rw [← h]; exact l3Item_any k v d w
set_option maxHeartbeats 2000000 in
theorem itemOk_any (k v d : Int) (w : World) : Calls Try.prog 93 #[iv k v d] w fun e w' => e = .returned (.bool (itOkB ((k, v), d))) ∧ Below w.heap.size w w' := by
  have H : Hid (itOkB ((k, v), d) = ((inB k 0 3 && inB v 0 99) && decide (d ≠ 0) && decide (-1099511627776 ≤ d ∧ d ≤ 1099511627776))) := rfl
  have hb0 : Below w.heap.size w (w.alloc (.cells #[.int .i64 k, .int .i64 v, .int .i64 d] 34)) := bAlloc (Below.refl _ _) _
  cases h1 : (inB k 0 3 && inB v 0 99)
  · go_enter Try.func93, Try.ntmps93
    go_wp2_with (go_at_call 130; refine (thingOk_eq (by with_reducible assumption) _).mono ?_; rintro e w' ⟨rfl, rfl⟩)
    go_ret
    exact ⟨ret_bool (by rw [H.out, h1]; rfl), hb0⟩
  by_cases h3 : d = 0
  · subst h3
    go_enter Try.func93, Try.ntmps93
    go_wp2_with (go_at_call 130; refine (thingOk_eq (by with_reducible assumption) _).mono ?_; rintro e w' ⟨rfl, rfl⟩)
    go_ret
    exact ⟨ret_bool (by rw [H.out]; simp), hb0⟩
  have n3 : (d == 0) = false := by simpa using h3
  have HQ : Hid (itOkB ((k, v), d) = decide (-1099511627776 ≤ d ∧ d ≤ 1099511627776)) := by
    show _ = _
    rw [H.out, h1]
    have : decide (d ≠ 0) = true := by simpa using h3
    rw [this]; simp
  by_cases h4 : -1099511627776 ≤ d
  · by_cases h5 : d ≤ 1099511627776
    all_goals
      go_enter Try.func93, Try.ntmps93
      go_wp2_with (go_at_call 130; refine (thingOk_eq (by with_reducible assumption) _).mono ?_; rintro e w' ⟨rfl, rfl⟩)
      go_ret
      exact ⟨ret_bool (by have e : (d != 0) = true := bne_iff_ne.2 h3; rw [HQ.out, e, Bool.eq_iff_iff]; (simp <;> omega)), hb0⟩
  · go_enter Try.func93, Try.ntmps93
    go_wp2_with (go_at_call 130; refine (thingOk_eq (by with_reducible assumption) _).mono ?_; rintro e w' ⟨rfl, rfl⟩)
    go_ret
    exact ⟨ret_bool (by rw [HQ.out]; simp; omega), hb0⟩
theorem itemOk_eq {k v d : Int} {r : Bool} (h : itOkB ((k, v), d) = r) (w : World) : Calls Try.prog 93 #[iv k v d] w fun e w' => e = .returned (.bool r) ∧ Below w.heap.size w w' := by
  rw [← h]; exact itemOk_any k v d w
theorem compareI_eq {k v d k' v' d' r : Int} (h : cmpT (k, v) (k', v') = r) (w : World) : Calls Try.prog 94 #[iv k v d, iv k' v' d'] w fun e w' => e = .returned (.int .i64 r) ∧ Below w.heap.size w w' := by
  rw [← h, ← cmpZ_or]; exact (compareI_any k v d k' v' d' w).mono fun _ _ ⟨h1, h2⟩ => ⟨h1, h2.1⟩
theorem upto_sst {l : List It} {k : Nat} (h : ∀ j, j < k → sstep l j = true) (hk : sstep l k = true) {j : Nat} (hj : j < k + 1) : sstep l j = true := by
  by_cases e : j = k
  · subst e; exact hk
  · exact h j (by omega)
theorem sstep_bad {l : List It} {k : Nat} {r : It} (hr : l[k]? = some r) (h : itOkB r = false) : sstep l k = false := by
  unfold sstep; rw [hr]; simp [h]
set_option maxRecDepth 100000 in
set_option maxHeartbeats 16000000 in
theorem specSetOk_any (v : Value) (l : List It) (w : World) (h : Is w v l) :
    Calls Try.prog 19 #[v] w fun e w' => e = .returned (.bool (sokB l)) ∧ Below w.heap.size w w' := by
  obtain ⟨a, cap, rfl, hc, hm, hn, hcells⟩ := Is.open h
  unfold maxLen at hm
  have HC := (show Hid _ from hcells)
  clear hcells h
  by_cases hlen : 400 < l.length
  · have HK : Hid (sokB l = false) := sok_long hlen
    have hlen' : (400 : Int) < (l.length : Int) := by omega
    go_enter Try.func19, Try.ntmps19
    go_wp2_with fail
    go_ret
    exact ⟨ret_bool HK.out.symm, Below.refl _ _⟩
  have HY : Hid ((∀ i, i < l.length → sstep l i = true) → sokB l = true) := fun h => sok_mk (by omega) h
  have HN : Hid (∀ i, i < l.length → sstep l i = false → sokB l = false) := fun i h1 h2 => sok_no h1 h2
  go_enter Try.func19, Try.ntmps19
  go_wp2_with fail
  go_loopw [3] (fun i wr => ∃ k : Nat, k ≤ l.length ∧ i = .int .i64 k ∧ (∀ j, j < k → sstep l j = true) ∧ Below w.heap.size w wr) (fun i _ => l.length - (intOf i).toNat)
  case atStart => exact ⟨0, by omega, rfl, fun j hj => by omega, Below.refl _ _⟩
  case round =>
    obtain ⟨k, hk, rfl, hall, hb⟩ := hrel
    have HA := (show Hid _ from hall)
    clear hall
    by_cases hlt : k < l.length
    · obtain ⟨g, off, K, V, D, rfl, hg, hr, c0, c1, c2⟩ := HC.out k hlt
      have d0 : ∀ p : Bel wr, p.ww.cell? ⟨g, off + k * 3, none⟩ = some (.int .i64 K) := fun p => cell_below p.below (cell_below hb c0)
      have d1 : ∀ p : Bel wr, p.ww.cell? ⟨g, off + k * 3 + 1, none⟩ = some (.int .i64 V) := fun p => cell_below p.below (cell_below hb c1)
      have d2 : ∀ p : Bel wr, p.ww.cell? ⟨g, off + k * 3 + 2, none⟩ = some (.int .i64 D) := fun p => cell_below p.below (cell_below hb c2)
      have HR := (show Hid _ from hr)
      clear c0 c1 c2 hr
      have hne := bel_some wr
      have ik : ((k : Int) < (l.length : Int)) := by omega
      cases hI : itB K V D
      · have HK : Hid (sokB l = false) := HN.out k hlt (sstep_bad HR.out (by rw [itOk_eq, hI]; rfl))
        go_wp2_with fail
        (refine wp_region_bel (by kernel_rfl) (by kernel_rfl) ?_; (repeat (go_big_quiet_step ((first | (go_at_call 58; exact calls_bel (l3Item_eq (by with_reducible assumption) _)) | (go_at_call 59; exact calls_bel (l6In_b (by with_reducible assumption) _)) | (go_at_call 60; exact calls_bel (l3Big_b _)))))); refine wpQuiet_nil ?_)
        intro w1 hw1
        replace hw1 := bel_out hw1
        go_wp2_with fail
        go_ret
        exact ⟨ret_bool HK.out.symm, bStep hb hw1⟩
      cases hC : inB D (-1099511627776) 1099511627776
      · have HK : Hid (sokB l = false) := HN.out k hlt (sstep_bad HR.out (by rw [itOk_eq, hC, Bool.and_false]))
        go_wp2_with fail
        (refine wp_region_bel (by kernel_rfl) (by kernel_rfl) ?_; (repeat (go_big_quiet_step ((first | (go_at_call 58; exact calls_bel (l3Item_eq (by with_reducible assumption) _)) | (go_at_call 59; exact calls_bel (l6In_b (by with_reducible assumption) _)) | (go_at_call 60; exact calls_bel (l3Big_b _)))))); refine wpQuiet_nil ?_)
        intro w1 hw1
        replace hw1 := bel_out hw1
        go_wp2_with fail
        go_ret
        exact ⟨ret_bool HK.out.symm, bStep hb hw1⟩
      have HOK : Hid (itOkB ((K, V), D) = true) := by show _ = _; rw [itOk_eq, hI, hC]; rfl
      rcases k with _ | m
      · have HST : Hid (sstep l 0 = true) := by show _ = true; rw [sstep_first HR.out]; exact HOK.out
        simp only [Nat.zero_mul, Nat.add_zero] at d0 d1 d2
        go_wp2_with fail
        (refine wp_region_bel (by kernel_rfl) (by kernel_rfl) ?_; (repeat (go_big_quiet_step ((first | (go_at_call 58; exact calls_bel (l3Item_eq (by with_reducible assumption) _)) | (go_at_call 59; exact calls_bel (l6In_b (by with_reducible assumption) _)) | (go_at_call 60; exact calls_bel (l3Big_b _)))))); refine wpQuiet_nil ?_)
        intro w1 hw1
        replace hw1 := bel_out hw1
        have hb1 := bStep hb hw1
        go_wp2_with fail
        exact ⟨⟨1, by omega, rfl, fun j hj => upto_sst HA.out HST.out hj, hb1⟩, by simp [intOf]; omega⟩
      · obtain ⟨g', off', K', V', D', he, hg', hq, p0, p1, p2⟩ := HC.out m (by omega)
        simp at he
        obtain ⟨rfl, rfl⟩ := he
        have e0 : ∀ p : Bel wr, p.ww.cell? ⟨g, off + m * 3, none⟩ = some (.int .i64 K') := fun p => cell_below p.below (cell_below hb p0)
        have e1 : ∀ p : Bel wr, p.ww.cell? ⟨g, off + m * 3 + 1, none⟩ = some (.int .i64 V') := fun p => cell_below p.below (cell_below hb p1)
        clear p0 p1 p2
        have HST : Hid (sstep l (m + 1) = ltT (K', V') (K, V)) := by show _ = _; rw [sstep_next HR.out hq, HOK.out, Bool.true_and]
        clear hq
        have im0 : (0 : Int) ≤ (m : Int) := by omega
        have im1 : (m : Int) < (l.length : Int) := by omega
        have im2 : (l.length : Int) ≤ 2097152 := by omega
        have iw : IntKind.i64.wrap (m : Int) = (m : Int) := by rw [IntKind.wrap_i64]; omega
        have HBAD : Hid (¬ (K' < K ∨ (K' = K ∧ V' < V)) → sokB l = false) := fun hno => HN.out (m + 1) hlt (by rw [HST.out, Bool.eq_false_iff]; intro c; simp [ltT] at c; exact hno c)
        have HGOOD : Hid ((K' < K ∨ (K' = K ∧ V' < V)) → sstep l (m + 1) = true) := fun hy => by rw [HST.out]; simpa [ltT] using hy
        by_cases q1 : K < K'
        · have HK : Hid (sokB l = false) := HBAD.out (by omega)
          have n1 : decide (K < K') = true := by simpa using q1
          go_wp2_with fail
          (refine wp_region_bel (by kernel_rfl) (by kernel_rfl) ?_; (repeat (go_big_quiet_step ((first | (go_at_call 58; exact calls_bel (l3Item_eq (by with_reducible assumption) _)) | (go_at_call 59; exact calls_bel (l6In_b (by with_reducible assumption) _)) | (go_at_call 60; exact calls_bel (l3Big_b _)))))); refine wpQuiet_nil ?_)
          intro w1 hw1
          replace hw1 := bel_out hw1
          go_wp2_with fail
          go_ret
          exact ⟨ret_bool HK.out.symm, bStep hb hw1⟩
        have n1 : decide (K < K') = false := by simpa using q1
        by_cases q2 : K' = K
        · subst q2
          by_cases q3 : V ≤ V'
          · have HK : Hid (sokB l = false) := HBAD.out (by omega)
            have n3 : decide (V ≤ V') = true := by simpa using q3
            go_wp2_with fail
            (refine wp_region_bel (by kernel_rfl) (by kernel_rfl) ?_; (repeat (go_big_quiet_step ((first | (go_at_call 58; exact calls_bel (l3Item_eq (by with_reducible assumption) _)) | (go_at_call 59; exact calls_bel (l6In_b (by with_reducible assumption) _)) | (go_at_call 60; exact calls_bel (l3Big_b _)))))); refine wpQuiet_nil ?_)
            intro w1 hw1
            replace hw1 := bel_out hw1
            go_wp2_with fail
            go_ret
            exact ⟨ret_bool HK.out.symm, bStep hb hw1⟩
          · have HK : Hid (sstep l (m + 1) = true) := HGOOD.out (by omega)
            have n3 : decide (V ≤ V') = false := by simpa using q3
            go_wp2_with fail
            (refine wp_region_bel (by kernel_rfl) (by kernel_rfl) ?_; (repeat (go_big_quiet_step ((first | (go_at_call 58; exact calls_bel (l3Item_eq (by with_reducible assumption) _)) | (go_at_call 59; exact calls_bel (l6In_b (by with_reducible assumption) _)) | (go_at_call 60; exact calls_bel (l3Big_b _)))))); refine wpQuiet_nil ?_)
            intro w1 hw1
            replace hw1 := bel_out hw1
            have hb1 := bStep hb hw1
            go_wp2_with fail
            go_roundw
            case rel => exact ⟨m + 1 + 1, by omega, by go_num, fun j hj => upto_sst HA.out HK.out hj, hb1⟩
            case measure => simp [intOf]; omega
        · have HK : Hid (sstep l (m + 1) = true) := HGOOD.out (by omega)
          have n2 : (K' == K) = false := by simpa using q2
          go_wp2_with fail
          (refine wp_region_bel (by kernel_rfl) (by kernel_rfl) ?_; (repeat (go_big_quiet_step ((first | (go_at_call 58; exact calls_bel (l3Item_eq (by with_reducible assumption) _)) | (go_at_call 59; exact calls_bel (l6In_b (by with_reducible assumption) _)) | (go_at_call 60; exact calls_bel (l3Big_b _)))))); refine wpQuiet_nil ?_)
          intro w1 hw1
          replace hw1 := bel_out hw1
          have hb1 := bStep hb hw1
          go_wp2_with fail
          go_roundw
          case rel => exact ⟨m + 1 + 1, by omega, by go_num, fun j hj => upto_sst HA.out HK.out hj, hb1⟩
          case measure => simp [intOf]; omega
    · have HK : Hid (sokB l = true) := HY.out fun j hj => HA.out j (by omega)
      go_wp2_with fail
      go_ret
      exact ⟨ret_bool HK.out.symm, hb⟩
theorem specSetOk_eq {l : List It} {r : Bool} (h : sokB l = r) {v : Value} {w : World} (hs : Is w v l) :
    Calls Try.prog 19 #[v] w fun e w' => e = .returned (.bool r) ∧ Below w.heap.size w w' := by
  rw [← h]; exact specSetOk_any v l w hs
set_option maxRecDepth 100000 in
set_option maxHeartbeats 16000000 in
theorem implSetOk_any (v : Value) (l : List It) (w : World) (h : Is w v l) :
    Calls Try.prog 52 #[v] w fun e w' => e = .returned (.bool (sokB l)) ∧ Below w.heap.size w w' := by
  obtain ⟨a, cap, rfl, hc, hm, hn, hcells⟩ := Is.open h
  unfold maxLen at hm
  have HC := (show Hid _ from hcells)
  clear hcells h
  by_cases hlen : 400 < l.length
  · have HK : Hid (sokB l = false) := sok_long hlen
    have hlen' : (400 : Int) < (l.length : Int) := by omega
    go_enter Try.func52, Try.ntmps52
    go_wp2_with fail
    go_ret
    exact ⟨ret_bool HK.out.symm, Below.refl _ _⟩
  have HY : Hid ((∀ i, i < l.length → sstep l i = true) → sokB l = true) := fun h => sok_mk (by omega) h
  have HN : Hid (∀ i, i < l.length → sstep l i = false → sokB l = false) := fun i h1 h2 => sok_no h1 h2
  go_enter Try.func52, Try.ntmps52
  go_wp2_with fail
  go_loopw [10] (fun i wr => ∃ k : Nat, k ≤ l.length ∧ i = .int .i64 k ∧ (∀ j, j < k → sstep l j = true) ∧ Below w.heap.size w wr) (fun i _ => l.length - (intOf i).toNat)
  case atStart => exact ⟨0, by omega, rfl, fun j hj => by omega, Below.refl _ _⟩
  case round =>
    obtain ⟨k, hk, rfl, hall, hb⟩ := hrel
    have HA := (show Hid _ from hall)
    clear hall
    by_cases hlt : k < l.length
    · obtain ⟨g, off, K, V, D, rfl, hg, hr, c0, c1, c2⟩ := HC.out k hlt
      have d0 := cell_below hb c0
      have d1 := cell_below hb c1
      have d2 := cell_below hb c2
      have HR := (show Hid _ from hr)
      clear c0 c1 c2 hr
      have ik : ((k : Int) < (l.length : Int)) := by omega
      have bt0 := Bk.new (w := wr) #[.int .i64 K, .int .i64 V, .int .i64 D] 34 rfl
      have hbt : Below wr.heap.size wr (wr.alloc (.cells #[.int .i64 K, .int .i64 V, .int .i64 D] 34)) := bAlloc (Below.refl _ _) _
      have hb' := bStep hb hbt
      go_upto_region 6 with fail
      clear d0 d1 d2
      generalize wr.heap.size = tb at *
      generalize World.alloc _ _ = wt at *
      have t0 : ∀ p : Bel wt, p.ww.cell? ⟨tb, 0, none⟩ = some (.int .i64 K) := fun p => (bt0.keep p.below).three.1
      have t1 : ∀ p : Bel wt, p.ww.cell? ⟨tb, 1, none⟩ = some (.int .i64 V) := fun p => (bt0.keep p.below).three.2.1
      have t2 : ∀ p : Bel wt, p.ww.cell? ⟨tb, 2, none⟩ = some (.int .i64 D) := fun p => (bt0.keep p.below).three.2.2
      have hne := bel_some wt
      clear bt0 hbt hb
      cases hI : itOkB ((K, V), D)
      · have HK : Hid (sokB l = false) := HN.out k hlt (sstep_bad HR.out hI)
        go_wp2_with fail
        (refine wp_region_bel (by kernel_rfl) (by kernel_rfl) ?_; (repeat (go_big_quiet_step ((first | (go_at_call 93; exact calls_bel (itemOk_eq (by with_reducible assumption) _)) | (go_at_call 94; exact calls_bel (compareI_eq (by with_reducible assumption) _)))))); refine wpQuiet_nil ?_)
        intro w1 hw1
        replace hw1 := bel_out hw1
        go_wp2_with fail
        go_ret
        exact ⟨ret_bool HK.out.symm, bStep hb' hw1⟩
      rcases k with _ | m
      · have HST : Hid (sstep l 0 = true) := by show _ = true; rw [sstep_first HR.out]; exact hI
        go_wp2_with fail
        (refine wp_region_bel (by kernel_rfl) (by kernel_rfl) ?_; (repeat (go_big_quiet_step ((first | (go_at_call 93; exact calls_bel (itemOk_eq (by with_reducible assumption) _)) | (go_at_call 94; exact calls_bel (compareI_eq (by with_reducible assumption) _)))))); refine wpQuiet_nil ?_)
        intro w1 hw1
        replace hw1 := bel_out hw1
        have hb1 := bStep hb' hw1
        go_wp2_with fail
        exact ⟨⟨1, by omega, rfl, fun j hj => upto_sst HA.out HST.out hj, hb1⟩, by simp [intOf]; omega⟩
      · obtain ⟨g', off', K', V', D', he, hg', hq, p0, p1, p2⟩ := HC.out m (by omega)
        simp at he
        obtain ⟨rfl, rfl⟩ := he
        have e0 : ∀ p : Bel wt, p.ww.cell? ⟨g, off + m * 3, none⟩ = some (.int .i64 K') := fun p => cell_below p.below (cell_below hb' p0)
        have e1 : ∀ p : Bel wt, p.ww.cell? ⟨g, off + m * 3 + 1, none⟩ = some (.int .i64 V') := fun p => cell_below p.below (cell_below hb' p1)
        have e2 : ∀ p : Bel wt, p.ww.cell? ⟨g, off + m * 3 + 2, none⟩ = some (.int .i64 D') := fun p => cell_below p.below (cell_below hb' p2)
        clear p0 p1 p2
        have HST : Hid (sstep l (m + 1) = ltT (K', V') (K, V)) := by show _ = _; rw [sstep_next HR.out hq, hI, Bool.true_and]
        clear hq
        have im0 : (0 : Int) ≤ (m : Int) := by omega
        have im1 : (m : Int) < (l.length : Int) := by omega
        have im2 : (l.length : Int) ≤ 2097152 := by omega
        have iw : IntKind.i64.wrap (m : Int) = (m : Int) := by rw [IntKind.wrap_i64]; omega
        have hcl := cmpT_lt (K', V') (K, V)
        obtain ⟨r, hcr⟩ : ∃ r, cmpT (K', V') (K, V) = r := ⟨_, rfl⟩
        rw [hcr] at hcl
        cases hst : ltT (K', V') (K, V)
        · have HK : Hid (sokB l = false) := HN.out (m + 1) hlt (by rw [HST.out]; exact hst)
          have nr : decide (0 ≤ r) = true := by rw [hst] at hcl; simp at hcl ⊢; omega
          clear hcl
          go_wp2_with fail
          (refine wp_region_bel (by kernel_rfl) (by kernel_rfl) ?_; (repeat (go_big_quiet_step ((first | (go_at_call 93; exact calls_bel (itemOk_eq (by with_reducible assumption) _)) | (go_at_call 94; exact calls_bel (compareI_eq (by with_reducible assumption) _)))))); refine wpQuiet_nil ?_)
          intro w1 hw1
          replace hw1 := bel_out hw1
          go_wp2_with fail
          go_ret
          exact ⟨ret_bool HK.out.symm, bStep hb' hw1⟩
        · have HK : Hid (sstep l (m + 1) = true) := by show _ = true; rw [HST.out]; exact hst
          have nr : decide (0 ≤ r) = false := by rw [hst] at hcl; simp at hcl ⊢; omega
          clear hcl
          go_wp2_with fail
          (refine wp_region_bel (by kernel_rfl) (by kernel_rfl) ?_; (repeat (go_big_quiet_step ((first | (go_at_call 93; exact calls_bel (itemOk_eq (by with_reducible assumption) _)) | (go_at_call 94; exact calls_bel (compareI_eq (by with_reducible assumption) _)))))); refine wpQuiet_nil ?_)
          intro w1 hw1
          replace hw1 := bel_out hw1
          have hb1 := bStep hb' hw1
          go_wp2_with fail
          go_roundw
          case rel => exact ⟨m + 1 + 1, by omega, by go_num, fun j hj => upto_sst HA.out HK.out hj, hb1⟩
          case measure => simp [intOf]; omega
    · have HK : Hid (sokB l = true) := HY.out fun j hj => HA.out j (by omega)
      go_wp2_with fail
      go_ret
      exact ⟨ret_bool HK.out.symm, hb⟩
theorem implSetOk_eq {l : List It} {r : Bool} (h : sokB l = r) {v : Value} {w : World} (hs : Is w v l) :
    Calls Try.prog 52 #[v] w fun e w' => e = .returned (.bool r) ∧ Below w.heap.size w w' := by
  rw [← h]; exact implSetOk_any v l w hs
end Go.Proofs.Ytlddhfimiignaaa
