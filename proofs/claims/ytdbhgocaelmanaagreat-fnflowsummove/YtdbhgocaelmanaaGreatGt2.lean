import Derived.Test.YtdbhgocaelmanaaGreatGb3
import Derived.Test.YtdbhgocaelmanaaGreatGt1
import Derived.Deep.Cut
import Derived.Test.YtdbhgocaelmanaaGreatGs7
import Derived.Test.YtdbhgocaelmanaaGreatGs2
namespace Go.Proofs.YtdbhgocaelmanaaGreat
open Go.RowKit
theorem l6In_b {n lo hi : Int} {r : Bool} (h : inB n lo hi = r) (w : World) : Calls Tryz.prog 79 #[.int .i64 n, .int .i64 lo, .int .i64 hi] w fun e w' => e = .returned (.bool r) ∧ Below w.heap.size w w' :=
  (l6In_eq h w).mono fun _ _ ⟨h1, h2⟩ => ⟨h1, by rw [h2]; exact Below.refl _ _⟩
set_option maxHeartbeats 2000000 in
theorem itemOk_any (k v d : Int) (w : World) : Calls Tryz.prog 185 #[iv k v d] w fun e w' => e = .returned (.bool (itOkB ((k, v), d))) ∧ Below w.heap.size w w' := by
  have H : Hid (itOkB ((k, v), d) = ((inB k 0 3 && inB v 0 99) && decide (d ≠ 0) && decide (-1099511627776 ≤ d ∧ d ≤ 1099511627776))) := rfl
  have hb0 : Below w.heap.size w (w.alloc (.cells #[.int .i64 k, .int .i64 v, .int .i64 d] 96)) := bAlloc (Below.refl _ _) _
  cases h1 : (inB k 0 3 && inB v 0 99)
  · go_enter Tryz.func185, Tryz.ntmps185
    go_wp2_with (go_at_call 192; refine (thingOk_eq (by with_reducible assumption) _).mono ?_; rintro e w' ⟨rfl, rfl⟩)
    go_ret
    exact ⟨ret_bool (by rw [H.out, h1]; rfl), hb0⟩
  by_cases h3 : d = 0
  · subst h3
    go_enter Tryz.func185, Tryz.ntmps185
    go_wp2_with (go_at_call 192; refine (thingOk_eq (by with_reducible assumption) _).mono ?_; rintro e w' ⟨rfl, rfl⟩)
    go_ret
    exact ⟨ret_bool (by rw [H.out]; simp), hb0⟩
  have n3 : (d == 0) = false := by simpa using h3
  have HQ : Hid (itOkB ((k, v), d) = decide (-1099511627776 ≤ d ∧ d ≤ 1099511627776)) := by
    show _ = _
    rw [H.out, h1]
    have : decide (d ≠ 0) = true := by simpa using h3
    rw [this]; simp
  by_cases h4 : -1099511627776 ≤ d
  · by_cases h5 : d ≤ 1099511627776
    all_goals
      go_enter Tryz.func185, Tryz.ntmps185
      go_wp2_with (go_at_call 192; refine (thingOk_eq (by with_reducible assumption) _).mono ?_; rintro e w' ⟨rfl, rfl⟩)
      go_ret
      exact ⟨ret_bool (by have e : (d != 0) = true := bne_iff_ne.2 h3; rw [HQ.out, e, Bool.eq_iff_iff]; (simp <;> omega)), hb0⟩
  · go_enter Tryz.func185, Tryz.ntmps185
    go_wp2_with (go_at_call 192; refine (thingOk_eq (by with_reducible assumption) _).mono ?_; rintro e w' ⟨rfl, rfl⟩)
    go_ret
    exact ⟨ret_bool (by rw [HQ.out]; simp; omega), hb0⟩
theorem itemOk_eq {k v d : Int} {r : Bool} (h : itOkB ((k, v), d) = r) (w : World) : Calls Tryz.prog 185 #[iv k v d] w fun e w' => e = .returned (.bool r) ∧ Below w.heap.size w w' := by
  rw [← h]; exact itemOk_any k v d w
theorem compareI_eq {k v d k' v' d' r : Int} (h : cmpT (k, v) (k', v') = r) (w : World) : Calls Tryz.prog 148 #[iv k v d, iv k' v' d'] w fun e w' => e = .returned (.int .i64 r) ∧ Below w.heap.size w w' := by
  rw [← h, ← cmpZ_or]; exact (compareI_any k v d k' v' d' w).mono fun _ _ ⟨h1, h2⟩ => ⟨h1, h2.1⟩
theorem upto_sst {l : List It} {k : Nat} (h : ∀ j, j < k → sstep l j = true) (hk : sstep l k = true) {j : Nat} (hj : j < k + 1) : sstep l j = true := by
  by_cases e : j = k
  · subst e; exact hk
  · exact h j (by omega)
theorem sstep_bad {l : List It} {k : Nat} {r : It} (hr : l[k]? = some r) (h : itOkB r = false) : sstep l k = false := by
  unfold sstep; rw [hr]; simp [h]
set_option maxRecDepth 100000 in
set_option maxHeartbeats 16000000 in
theorem implSetOk_any (v : Value) (l : List It) (w : World) (h : Is w v l) :
    Calls Tryz.prog 121 #[v] w fun e w' => e = .returned (.bool (sokB l)) ∧ Below w.heap.size w w' := by
  obtain ⟨a, cap, rfl, hc, hm, hn, hcells⟩ := Is.open h
  unfold maxLen at hm
  have HC := (show Hid _ from hcells)
  clear hcells h
  by_cases hlen : 400 < l.length
  · have HK : Hid (sokB l = false) := sok_long hlen
    have hlen' : (400 : Int) < (l.length : Int) := by omega
    go_enter Tryz.func121, Tryz.ntmps121
    go_wp2_with fail
    go_ret
    exact ⟨ret_bool HK.out.symm, Below.refl _ _⟩
  have HY : Hid ((∀ i, i < l.length → sstep l i = true) → sokB l = true) := fun h => sok_mk (by omega) h
  have HN : Hid (∀ i, i < l.length → sstep l i = false → sokB l = false) := fun i h1 h2 => sok_no h1 h2
  go_enter Tryz.func121, Tryz.ntmps121
  go_wp2_with fail
  go_loopw [10] (fun i wr => ∃ k : Nat, k ≤ l.length ∧ i = .int .i64 k ∧ (∀ j, j < k → sstep l j = true) ∧ Below w.heap.size w wr) (fun i _ => l.length - (intOf i).toNat)
  case atStart => exact ⟨0, by omega, rfl, fun j hj => by omega, Below.refl _ _⟩
  case round =>
    obtain ⟨k, hk, rfl, hall, hb⟩ := hrel
    have HA := (show Hid _ from hall)
    clear hall
    by_cases hlt : k < l.length
    · obtain ⟨g, off, K, V, D, rfl, hg, hr, c0, c1, c2⟩ := HC.out k hlt
      have d0 := cell_below hb c0
      have d1 := cell_below hb c1
      have d2 := cell_below hb c2
      have HR := (show Hid _ from hr)
      clear c0 c1 c2 hr
      have ik : ((k : Int) < (l.length : Int)) := by omega
      have bt0 := Bk.new (w := wr) #[.int .i64 K, .int .i64 V, .int .i64 D] 96 rfl
      have hbt : Below wr.heap.size wr (wr.alloc (.cells #[.int .i64 K, .int .i64 V, .int .i64 D] 96)) := bAlloc (Below.refl _ _) _
      have hb' := bStep hb hbt
      go_upto_region 6 with fail
      clear d0 d1 d2
      generalize wr.heap.size = tb at *
      generalize World.alloc _ _ = wt at *
      have t0 : ∀ p : Bel wt, p.ww.cell? ⟨tb, 0, none⟩ = some (.int .i64 K) := fun p => (bt0.keep p.below).three.1
      have t1 : ∀ p : Bel wt, p.ww.cell? ⟨tb, 1, none⟩ = some (.int .i64 V) := fun p => (bt0.keep p.below).three.2.1
      have t2 : ∀ p : Bel wt, p.ww.cell? ⟨tb, 2, none⟩ = some (.int .i64 D) := fun p => (bt0.keep p.below).three.2.2
      have hne := bel_some wt
      clear bt0 hbt hb
      cases hI : itOkB ((K, V), D)
      · have HK : Hid (sokB l = false) := HN.out k hlt (sstep_bad HR.out hI)
        go_wp2_with fail
        (refine wp_region_bel (by kernel_rfl) (by kernel_rfl) ?_; (repeat (go_big_quiet_step ((first | (go_at_call 185; exact calls_bel (itemOk_eq (by with_reducible assumption) _)) | (go_at_call 148; exact calls_bel (compareI_eq (by with_reducible assumption) _)))))); refine wpQuiet_nil ?_)
        intro w1 hw1
        replace hw1 := bel_out hw1
        go_wp2_with fail
        go_ret
        exact ⟨ret_bool HK.out.symm, bStep hb' hw1⟩
      rcases k with _ | m
      · have HST : Hid (sstep l 0 = true) := by show _ = true; rw [sstep_first HR.out]; exact hI
        go_wp2_with fail
        (refine wp_region_bel (by kernel_rfl) (by kernel_rfl) ?_; (repeat (go_big_quiet_step ((first | (go_at_call 185; exact calls_bel (itemOk_eq (by with_reducible assumption) _)) | (go_at_call 148; exact calls_bel (compareI_eq (by with_reducible assumption) _)))))); refine wpQuiet_nil ?_)
        intro w1 hw1
        replace hw1 := bel_out hw1
        have hb1 := bStep hb' hw1
        go_wp2_with fail
        exact ⟨⟨1, by omega, rfl, fun j hj => upto_sst HA.out HST.out hj, hb1⟩, by simp [intOf]; omega⟩
      · obtain ⟨g', off', K', V', D', he, hg', hq, p0, p1, p2⟩ := HC.out m (by omega)
        simp at he
        obtain ⟨rfl, rfl⟩ := he
        have e0 : ∀ p : Bel wt, p.ww.cell? ⟨g, off + m * 3, none⟩ = some (.int .i64 K') := fun p => cell_below p.below (cell_below hb' p0)
        have e1 : ∀ p : Bel wt, p.ww.cell? ⟨g, off + m * 3 + 1, none⟩ = some (.int .i64 V') := fun p => cell_below p.below (cell_below hb' p1)
        have e2 : ∀ p : Bel wt, p.ww.cell? ⟨g, off + m * 3 + 2, none⟩ = some (.int .i64 D') := fun p => cell_below p.below (cell_below hb' p2)
        clear p0 p1 p2
        have HST : Hid (sstep l (m + 1) = ltT (K', V') (K, V)) := by show _ = _; rw [sstep_next HR.out hq, hI, Bool.true_and]
        clear hq
        have im0 : (0 : Int) ≤ (m : Int) := by omega
        have im1 : (m : Int) < (l.length : Int) := by omega
        have im2 : (l.length : Int) ≤ 2097152 := by omega
        have iw : IntKind.i64.wrap (m : Int) = (m : Int) := by rw [IntKind.wrap_i64]; omega
        have hcl := cmpT_lt (K', V') (K, V)
        obtain ⟨r, hcr⟩ : ∃ r, cmpT (K', V') (K, V) = r := ⟨_, rfl⟩
        rw [hcr] at hcl
        cases hst : ltT (K', V') (K, V)
        · have HK : Hid (sokB l = false) := HN.out (m + 1) hlt (by rw [HST.out]; exact hst)
          have nr : decide (0 ≤ r) = true := by rw [hst] at hcl; simp at hcl ⊢; omega
          clear hcl
          go_wp2_with fail
          (refine wp_region_bel (by kernel_rfl) (by kernel_rfl) ?_; (repeat (go_big_quiet_step ((first | (go_at_call 185; exact calls_bel (itemOk_eq (by with_reducible assumption) _)) | (go_at_call 148; exact calls_bel (compareI_eq (by with_reducible assumption) _)))))); refine wpQuiet_nil ?_)
          intro w1 hw1
          replace hw1 := bel_out hw1
          go_wp2_with fail
          go_ret
          exact ⟨ret_bool HK.out.symm, bStep hb' hw1⟩
        · have HK : Hid (sstep l (m + 1) = true) := by show _ = true; rw [HST.out]; exact hst
          have nr : decide (0 ≤ r) = false := by rw [hst] at hcl; simp at hcl ⊢; omega
          clear hcl
          go_wp2_with fail
          (refine wp_region_bel (by kernel_rfl) (by kernel_rfl) ?_; (repeat (go_big_quiet_step ((first | (go_at_call 185; exact calls_bel (itemOk_eq (by with_reducible assumption) _)) | (go_at_call 148; exact calls_bel (compareI_eq (by with_reducible assumption) _)))))); refine wpQuiet_nil ?_)
          intro w1 hw1
          replace hw1 := bel_out hw1
          have hb1 := bStep hb' hw1
          go_wp2_with fail
          go_roundw
          case rel => exact ⟨m + 1 + 1, by omega, by go_num, fun j hj => upto_sst HA.out HK.out hj, hb1⟩
          case measure => simp [intOf]; omega
    · have HK : Hid (sokB l = true) := HY.out fun j hj => HA.out j (by omega)
      go_wp2_with fail
      go_ret
      exact ⟨ret_bool HK.out.symm, hb⟩
theorem implSetOk_eq {l : List It} {r : Bool} (h : sokB l = r) {v : Value} {w : World} (hs : Is w v l) :
    Calls Tryz.prog 121 #[v] w fun e w' => e = .returned (.bool r) ∧ Below w.heap.size w w' := by
  rw [← h]; exact implSetOk_any v l w hs
end Go.Proofs.YtdbhgocaelmanaaGreat
namespace Go.Proofs.YtdbhgocaelmanaaGreat
open Go.RowKit
theorem once_yes {l : List It} {k : Nat} {s : Int × Int} {d : Int} (h : l[k]? = some (s, d)) (hd : 0 < d) : onceT (l.take (k + 1)) = onceT (l.take k) ++ [(s, 1)] := by
  unfold onceT; rw [take_snoc h, List.filter_append, List.map_append]; simp [hd]
theorem once_no {l : List It} {k : Nat} {s : Int × Int} {d : Int} (h : l[k]? = some (s, d)) (hd : ¬ 0 < d) : onceT (l.take (k + 1)) = onceT (l.take k) := by
  unfold onceT; rw [take_snoc h, List.filter_append, List.map_append]; simp [hd]
theorem sok_d {l : List It} (h : sokB l = true) {k : Nat} {s : Int × Int} {d : Int} (hr : l[k]? = some (s, d)) : -1099511627776 ≤ d ∧ d ≤ 1099511627776 := by
  have := it_parts (sok_at h (List.mem_of_getElem? hr)); exact ⟨this.2.2.2.2.2.1, this.2.2.2.2.2.2⟩
set_option maxRecDepth 100000 in
set_option maxHeartbeats 8000000 in
theorem implSetOnce_any (v : Value) (l : List It) (w : World) (h : Is w v l) :
    Calls Tryz.prog 87 #[v] w fun e w' => ∃ o : Value, e = .returned o ∧ OwnI w' w.heap.size o (onceS l) ∧ Below w.heap.size w w' := by
  cases hk : sokB l
  · have HF : Hid (onceS l = []) := onceS_no hk
    go_enter Tryz.func87, Tryz.ntmps87
    go_wp2_with fail
    refine (implSetOk_eq hk h).mono ?_
    rintro e w1 ⟨rfl, hb1⟩
    go_wp2_with fail
    go_ret
    refine ⟨_, rfl, ?_, hb1⟩
    rw [HF.out]
    exact ownK_nil _ _ _ _ _
  have HF : Hid (onceS l = onceT l) := onceS_yes hk
  have hl := sok_len hk
  go_enter Tryz.func87, Tryz.ntmps87
  go_wp2_with fail
  refine (implSetOk_eq hk h).mono ?_
  rintro e w1 ⟨rfl, hb1⟩
  have hs1 := hb1.size
  obtain ⟨a, cap, rfl, hc, hm, hn, hcells⟩ := Is.open (h.keep hb1)
  unfold maxLen at hm
  have HC := (show Hid _ from hcells)
  clear hcells h hk
  go_wp2_with fail
  go_loopw [3, 11] (fun o i wr => ∃ k : Nat, k ≤ l.length ∧ i = .int .i64 k ∧ OwnI wr w1.heap.size o (onceT (l.take k)) ∧ Below w1.heap.size w1 wr) (fun _ i _ => l.length - (intOf i).toNat)
  case atStart => exact ⟨0, by omega, rfl, ownK_nil _ _ _ _ _, Below.refl _ _⟩
  case round =>
    obtain ⟨k, hkl, rfl, hown, hb⟩ := hrel
    have HO : Hid (OwnI wr w1.heap.size u3 (onceT (l.take k))) := hown
    clear hown
    have hsz := hb.size
    by_cases hlt : k < l.length
    · obtain ⟨g, off, K, V, D, rfl, hg, hr, c0, c1, c2⟩ := HC.out k hlt
      have d0 := cell_below hb c0
      have d1 := cell_below hb c1
      have d2 := cell_below hb c2
      have ik : ((k : Int) < (l.length : Int)) := by omega
      have hL : (onceT (l.take k)).length ≤ 1000000 := by have := once_len (l.take k); simp at this; omega
      have bx := Bk.new (w := wr) #[.int .i64 K, .int .i64 V, .int .i64 D] 96 rfl
      have hbx : Below w1.heap.size w1 (wr.alloc (.cells #[.int .i64 K, .int .i64 V, .int .i64 D] 96)) := bAlloc hb _
      have O1 : OwnI (wr.alloc (.cells #[.int .i64 K, .int .i64 V, .int .i64 D] 96)) w1.heap.size u3 (onceT (l.take k)) := HO.out.alloc _
      have hsx := hbx.size
      clear c0 c1 c2 HO
      by_cases hD : 0 < D
      · have HZ := (show Hid _ from once_yes hr hD)
        clear hr
        generalize onceT (l.take k) = LL at *
        go_upto_region 7 with fail
        clear d0 d1 d2
        generalize wr.heap.size = tb at *
        generalize World.alloc _ _ = wx at *
        obtain ⟨q0, q1, q2⟩ := bx.three
        go_wp2_with (at_builtin; refine appI _ rfl _ _ rfl w1.heap.size _ LL rfl (O1.alloc _) _ K V 1 rfl (Bk.new _ _ rfl) (by omega) (by simp; omega) ?_; intro g9 cap9 w9 own9 hgrow hlg)
        have hb9 : Below w1.heap.size w1 w9 := Below.grew (bAlloc hbx _) hgrow (by simp; omega) (ownK_base O1)
        exact ⟨⟨k + 1, by omega, by go_num, by rw [HZ.out]; exact own9, hb9⟩, by simp [intOf]; omega⟩
      · have HZ := (show Hid _ from once_no hr hD)
        clear hr
        go_upto_region 7 with fail
        clear d0 d1 d2
        generalize wr.heap.size = tb at *
        generalize World.alloc _ _ = wx at *
        obtain ⟨q0, q1, q2⟩ := bx.three
        have O2 : Hid (OwnI wx w1.heap.size u3 (onceT (l.take k))) := O1
        clear O1
        go_wp2_with fail
        go_roundw
        case rel => exact ⟨k + 1, by omega, by go_num, by rw [HZ.out]; exact O2.out, hbx⟩
        case measure => simp [intOf]; omega
    · obtain rfl : k = l.length := by omega
      have O1 : Hid (OwnI wr w1.heap.size u3 (onceT l)) := by have := HO.out; rw [List.take_length] at this; exact this
      clear HO
      go_wp2_with fail
      go_ret
      refine ⟨_, rfl, ?_, bStep hb1 hb⟩
      rw [HF.out]
      exact own_less O1.out hs1
end Go.Proofs.YtdbhgocaelmanaaGreat
namespace Go.Proofs.YtdbhgocaelmanaaGreat
open Go.RowKit Go.Shelf
section
variable {ops : Array Oper} {rest : List Oper} {o : Oper} {a : Act} {Q : Exit → Act → World → Prop}
end
theorem sok_take {l : List It} (h : sokB l = true) (k : Nat) : absum (l.take k) ≤ 1099511627776 * 400 := Int.le_trans (absum_take l k) (sok_abs h)
theorem keyN_yes {l : List It} {k : Nat} {K V D key : Int} (h : l[k]? = some ((K, V), D)) (e : K = key) : keyN (l.take (k + 1)) key = keyN (l.take k) key + D := by
  rw [take_snoc h, keyN_snoc]; simp [e]
theorem keyN_no {l : List It} {k : Nat} {K V D key : Int} (h : l[k]? = some ((K, V), D)) (e : K ≠ key) : keyN (l.take (k + 1)) key = keyN (l.take k) key := by
  rw [take_snoc h, keyN_snoc]; simp [e]
theorem mod100 (n : Int) : ((n.tmod 100) + 100) % 100 = n % 100 := by
  have h1 := Int.tmod_add_mul_tdiv n 100
  omega
theorem once_other {l : List It} {k : Nat} {K V D key : Int} (hr : l[k]? = some ((K, V), D)) (hK : K ≠ key) : ((onceT (l.take (k + 1))).filter fun r => decide (r.1.1 = key)) = ((onceT (l.take k)).filter fun r => decide (r.1.1 = key)) := by
  by_cases hD : 0 < D
  · rw [once_yes hr hD, List.filter_append]; simp [hK]
  · rw [once_no hr hD]
set_option maxHeartbeats 2000000 in
theorem l3Count_any (n : Int) (w : World) : Calls Tryz.prog 213 #[.int .i64 n] w fun e w' => e = .returned (.int .i64 (n % 100)) ∧ Below w.heap.size w w' := by
  have t1 := Int.tmod_lt_of_pos n (b := 100) (by omega)
  have t2 : -100 < n.tmod 100 := by have := Int.lt_tmod_of_pos n (b := 100) (by omega); omega
  have H := (show Hid _ from mod100 n)
  go_enter Tryz.func213, Tryz.ntmps213
  go_wp2_with fail
  go_ret
  exact ⟨ret_int H.out, Below.refl _ _⟩
set_option maxHeartbeats 2000000 in
theorem valOf_any (n : Int) (w : World) : Calls Tryz.prog 149 #[.int .i64 n] w fun e w' => e = .returned (.int .i64 (n % 100)) ∧ Below w.heap.size w w' := by
  have t1 := Int.tmod_lt_of_pos n (b := 100) (by omega)
  have t2 : -100 < n.tmod 100 := by have := Int.lt_tmod_of_pos n (b := 100) (by omega); omega
  have H := (show Hid _ from mod100 n)
  go_enter Tryz.func149, Tryz.ntmps149
  go_wp2_with fail
  go_ret
  exact ⟨ret_int H.out, Below.refl _ _⟩
set_option maxRecDepth 100000 in
set_option maxHeartbeats 8000000 in
theorem l3Key_1 (v : Value) (l : List It) (key : Int) (w : World) (h : Is w v l) (hs : sokB l = true) :
    Calls Tryz.prog 195 #[v, .int .i64 key, .int .i64 1] w fun e w' => ∃ o : Value, e = .returned o ∧ OwnI w' w.heap.size o (countK l key) ∧ Below w.heap.size w w' := by
  obtain ⟨a, cap, rfl, hc, hm, hn, hcells⟩ := Is.open h
  unfold maxLen at hm
  have HC := (show Hid _ from hcells)
  have hl := sok_len hs
  have HD : Hid (∀ (k : Nat) (s : Int × Int) (d : Int), l[k]? = some (s, d) → -1099511627776 ≤ d ∧ d ≤ 1099511627776) := fun k s d hr => sok_d hs hr
  have HN : Hid (∀ k : Nat, -(1099511627776 * 400) ≤ keyN (l.take k) key ∧ keyN (l.take k) key ≤ 1099511627776 * 400) := fun k => by
    have h1 := keyN_abs (l.take k) key; have h2 := sok_take hs k; omega
  clear hcells h hs
  have oE := ownI_empty w rfl
  have hbE := bAlloc (Below.refl _ w) (.cells #[] 96)
  go_enter Tryz.func195, Tryz.ntmps195
  go_wp2_with fail
  go_loopw [7, 8, 9] (fun o n i wr => ∃ k : Nat, k ≤ l.length ∧ i = .int .i64 k ∧ n = .int .i64 (keyN (l.take k) key) ∧ OwnI wr w.heap.size o (([] : List It)) ∧ Below w.heap.size w wr) (fun _ _ i _ => l.length - (intOf i).toNat)
  case atStart => exact ⟨0, by omega, rfl, rfl, oE, hbE⟩
  case round =>
    clear oE hbE
    obtain ⟨k, hkl, rfl, rfl, hown, hb⟩ := hrel
    have HO : Hid (OwnI wr w.heap.size u7 (([] : List It))) := hown
    obtain ⟨n1, n2⟩ := HN.out k
    have hsz := hb.size
    clear hown
    by_cases hlt : k < l.length
    · obtain ⟨g, off, K, V, D, rfl, hg, hr, c0, c1, c2⟩ := HC.out k hlt
      obtain ⟨hD1, hD2⟩ := HD.out k _ _ hr
      have d0 := cell_below hb c0
      have d1 := cell_below hb c1
      have d2 := cell_below hb c2
      have ik : ((k : Int) < (l.length : Int)) := by omega
      clear c0 c1 c2
      by_cases hK : K = key
      · subst hK
        have HY := (show Hid _ from keyN_yes hr rfl)
        clear hr
        generalize keyN (l.take k) K = nn at *
        by_cases hD : 0 < D
        · go_wp2_with fail
          go_roundw
          case rel => exact ⟨k + 1, by omega, by go_num, by rw [HY.out], HO.out, hb⟩
          case measure => simp [intOf]; omega
        · go_wp2_with fail
          go_roundw
          case rel => exact ⟨k + 1, by omega, by go_num, by rw [HY.out], HO.out, hb⟩
          case measure => simp [intOf]; omega
      · have nK : (K == key) = false := by simpa using hK
        have HY := (show Hid _ from keyN_no hr hK)
        have HZ : Hid (([] : List It) = ([] : List It)) := rfl
        clear hr
        generalize keyN (l.take k) key = nn at *
        go_wp2_with fail
        go_roundw
        case rel => exact ⟨k + 1, by omega, by go_num, by rw [HY.out], by rw [HZ.out]; exact HO.out, hb⟩
        case measure => simp [intOf]; omega
    · obtain rfl : k = l.length := by omega
      have HK : Hid (countK l key = if keyN (l.take l.length) key = 0 then [] else [((key, keyN (l.take l.length) key % 100), 1)]) := by show _ = _; rw [List.take_length]; rfl
      generalize keyN (l.take l.length) key = nn at *
      by_cases h0 : nn = 0
      · subst h0
        have HR : Hid (OwnI wr w.heap.size u7 (countK l key)) := by rw [HK.out, if_pos rfl]; exact HO.out
        go_wp2_with fail
        go_ret
        exact ⟨_, rfl, HR.out, hb⟩
      · have n0 : (nn == 0) = false := by simpa using h0
        go_wp2_with fail
        refine (l3Count_any nn _).mono ?_
        rintro e w1 ⟨rfl, hb1⟩
        have hbn := bStep hb hb1
        have hsn := hbn.size
        have O2 : OwnI w1 w.heap.size u7 [] := own_keep HO.out hb1
        go_wp2_with (at_builtin; refine appI _ rfl _ _ rfl w.heap.size _ [] rfl (O2.alloc _) _ key (nn % 100) 1 rfl (Bk.new _ _ rfl) (by simp) (by simp; omega) ?_; intro g9 cap9 w9 own9 hgrow hlg)
        have hb9 : Below w.heap.size w w9 := Below.grew (bAlloc hbn _) hgrow (by simp; omega) (ownK_base O2)
        have HR : Hid (OwnI w9 w.heap.size (.slice (some ⟨g9, 0, none⟩) (([] : List It).length + 1) cap9) (countK l key)) := by rw [HK.out, if_neg h0]; exact own9
        go_ret
        exact ⟨_, rfl, HR.out, hb9⟩
set_option maxRecDepth 100000 in
set_option maxHeartbeats 8000000 in
theorem l3Key_2 (v : Value) (l : List It) (key : Int) (w : World) (h : Is w v l) (hs : sokB l = true) :
    Calls Tryz.prog 195 #[v, .int .i64 key, .int .i64 2] w fun e w' => ∃ o : Value, e = .returned o ∧ OwnI w' w.heap.size o ((onceT l).filter fun r => decide (r.1.1 = key)) ∧ Below w.heap.size w w' := by
  obtain ⟨a, cap, rfl, hc, hm, hn, hcells⟩ := Is.open h
  unfold maxLen at hm
  have HC := (show Hid _ from hcells)
  have hl := sok_len hs
  have HD : Hid (∀ (k : Nat) (s : Int × Int) (d : Int), l[k]? = some (s, d) → -1099511627776 ≤ d ∧ d ≤ 1099511627776) := fun k s d hr => sok_d hs hr
  have HN : Hid (∀ k : Nat, -(1099511627776 * 400) ≤ keyN (l.take k) key ∧ keyN (l.take k) key ≤ 1099511627776 * 400) := fun k => by
    have h1 := keyN_abs (l.take k) key; have h2 := sok_take hs k; omega
  clear hcells h hs
  have oE := ownI_empty w rfl
  have hbE := bAlloc (Below.refl _ w) (.cells #[] 96)
  go_enter Tryz.func195, Tryz.ntmps195
  go_wp2_with fail
  go_loopw [7, 8, 9] (fun o n i wr => ∃ k : Nat, k ≤ l.length ∧ i = .int .i64 k ∧ n = .int .i64 (keyN (l.take k) key) ∧ OwnI wr w.heap.size o ((onceT (l.take k)).filter fun r => decide (r.1.1 = key)) ∧ Below w.heap.size w wr) (fun _ _ i _ => l.length - (intOf i).toNat)
  case atStart => exact ⟨0, by omega, rfl, rfl, oE, hbE⟩
  case round =>
    clear oE hbE
    obtain ⟨k, hkl, rfl, rfl, hown, hb⟩ := hrel
    have HO : Hid (OwnI wr w.heap.size u7 ((onceT (l.take k)).filter fun r => decide (r.1.1 = key))) := hown
    obtain ⟨n1, n2⟩ := HN.out k
    have hsz := hb.size
    clear hown
    by_cases hlt : k < l.length
    · obtain ⟨g, off, K, V, D, rfl, hg, hr, c0, c1, c2⟩ := HC.out k hlt
      obtain ⟨hD1, hD2⟩ := HD.out k _ _ hr
      have d0 := cell_below hb c0
      have d1 := cell_below hb c1
      have d2 := cell_below hb c2
      have ik : ((k : Int) < (l.length : Int)) := by omega
      clear c0 c1 c2
      by_cases hK : K = key
      · subst hK
        have HY := (show Hid _ from keyN_yes hr rfl)
        by_cases hD : 0 < D
        · have HZ : Hid (((onceT (l.take (k + 1))).filter fun r => decide (r.1.1 = K)) = ((onceT (l.take k)).filter fun r => decide (r.1.1 = K)) ++ [((K, V), 1)]) := by show _ = _; rw [once_yes hr hD, List.filter_append]; simp
          have hL : ((onceT (l.take k)).filter fun r => decide (r.1.1 = K)).length ≤ 1000000 := by have h1 := List.length_filter_le (fun r : It => decide (r.1.1 = K)) (onceT (l.take k)); have h2 := once_len (l.take k); simp at h2; omega
          have O1 : OwnI wr w.heap.size u7 ((onceT (l.take k)).filter fun r => decide (r.1.1 = K)) := HO.out
          clear hr HO
          generalize ((onceT (l.take k)).filter fun r => decide (r.1.1 = K)) = LL at *
          generalize keyN (l.take k) K = nn at *
          go_wp2_with (at_builtin; refine appI _ rfl _ _ rfl w.heap.size _ LL rfl (O1.alloc _) _ K V 1 rfl (Bk.new _ _ rfl) (by omega) (by simp; omega) ?_; intro g9 cap9 w9 own9 hgrow hlg)
          have hb9 : Below w.heap.size w w9 := Below.grew (bAlloc hb _) hgrow (by simp; omega) (ownK_base O1)
          exact ⟨⟨k + 1, by omega, by go_num, by rw [HY.out], by rw [HZ.out]; exact own9, hb9⟩, by simp [intOf]; omega⟩
        · have HZ : Hid (((onceT (l.take (k + 1))).filter fun r => decide (r.1.1 = K)) = ((onceT (l.take k)).filter fun r => decide (r.1.1 = K))) := by show _ = _; rw [once_no hr hD]
          clear hr
          generalize keyN (l.take k) K = nn at *
          go_wp2_with fail
          go_roundw
          case rel => exact ⟨k + 1, by omega, by go_num, by rw [HY.out], by rw [HZ.out]; exact HO.out, hb⟩
          case measure => simp [intOf]; omega
      · have nK : (K == key) = false := by simpa using hK
        have HY := (show Hid _ from keyN_no hr hK)
        have HZ : Hid (((onceT (l.take (k + 1))).filter fun r => decide (r.1.1 = key)) = ((onceT (l.take k)).filter fun r => decide (r.1.1 = key))) := by show _ = _; rw [once_other hr hK]
        clear hr
        generalize keyN (l.take k) key = nn at *
        go_wp2_with fail
        go_roundw
        case rel => exact ⟨k + 1, by omega, by go_num, by rw [HY.out], by rw [HZ.out]; exact HO.out, hb⟩
        case measure => simp [intOf]; omega
    · obtain rfl : k = l.length := by omega
      have HR : Hid (OwnI wr w.heap.size u7 ((onceT l).filter fun r => decide (r.1.1 = key))) := by have := HO.out; rw [List.take_length] at this; exact this
      generalize keyN (l.take l.length) key = nn at *
      go_wp2_with fail
      go_ret
      exact ⟨_, rfl, HR.out, hb⟩
set_option maxRecDepth 100000 in
set_option maxHeartbeats 8000000 in
theorem l3Key_3 (v : Value) (l : List It) (key : Int) (w : World) (h : Is w v l) (hs : sokB l = true) :
    Calls Tryz.prog 195 #[v, .int .i64 key, .int .i64 3] w fun e w' => ∃ o : Value, e = .returned o ∧ OwnI w' w.heap.size o (leastK l key) ∧ Below w.heap.size w w' := by
  obtain ⟨a, cap, rfl, hc, hm, hn, hcells⟩ := Is.open h
  unfold maxLen at hm
  have HC := (show Hid _ from hcells)
  have hl := sok_len hs
  have HD : Hid (∀ (k : Nat) (s : Int × Int) (d : Int), l[k]? = some (s, d) → -1099511627776 ≤ d ∧ d ≤ 1099511627776) := fun k s d hr => sok_d hs hr
  have HN : Hid (∀ k : Nat, -(1099511627776 * 400) ≤ keyN (l.take k) key ∧ keyN (l.take k) key ≤ 1099511627776 * 400) := fun k => by
    have h1 := keyN_abs (l.take k) key; have h2 := sok_take hs k; omega
  clear hcells h hs
  have oE := ownI_empty w rfl
  have hbE := bAlloc (Below.refl _ w) (.cells #[] 96)
  go_enter Tryz.func195, Tryz.ntmps195
  go_wp2_with fail
  go_loopw [7, 8, 9] (fun o n i wr => ∃ k : Nat, k ≤ l.length ∧ i = .int .i64 k ∧ n = .int .i64 (keyN (l.take k) key) ∧ OwnI wr w.heap.size o (((onceT (l.take k)).filter fun r => decide (r.1.1 = key)).take 1) ∧ Below w.heap.size w wr) (fun _ _ i _ => l.length - (intOf i).toNat)
  case atStart => exact ⟨0, by omega, rfl, rfl, oE, hbE⟩
  case round =>
    clear oE hbE
    obtain ⟨k, hkl, rfl, rfl, hown, hb⟩ := hrel
    have HO : Hid (OwnI wr w.heap.size u7 (((onceT (l.take k)).filter fun r => decide (r.1.1 = key)).take 1)) := hown
    obtain ⟨n1, n2⟩ := HN.out k
    have hsz := hb.size
    clear hown
    by_cases hlt : k < l.length
    · obtain ⟨g, off, K, V, D, rfl, hg, hr, c0, c1, c2⟩ := HC.out k hlt
      obtain ⟨hD1, hD2⟩ := HD.out k _ _ hr
      have d0 := cell_below hb c0
      have d1 := cell_below hb c1
      have d2 := cell_below hb c2
      have ik : ((k : Int) < (l.length : Int)) := by omega
      clear c0 c1 c2
      by_cases hK : K = key
      · subst hK
        have HY := (show Hid _ from keyN_yes hr rfl)
        have HO2 : Hid (OwnI wr w.heap.size u7 (((onceT (l.take k)).filter fun r => decide (r.1.1 = K)).take 1)) := HO.out
        have R0 : Is wr u7 (((onceT (l.take k)).filter fun r => decide (r.1.1 = K)).take 1) := OwnI.is HO.out (by simp; omega)
        obtain ⟨a7, cap7, hu7, -, -, -, -⟩ := R0
        by_cases hD : 0 < D
        · by_cases hz : (((onceT (l.take k)).filter fun r => decide (r.1.1 = K)).take 1).length = 0
          · have h0 : (onceT (l.take k)).filter (fun r => decide (r.1.1 = K)) = [] := by
              rw [List.length_take] at hz; exact List.eq_nil_of_length_eq_zero (by omega)
            have e0 : (((onceT (l.take k)).filter fun r => decide (r.1.1 = K)).take 1) = [] := by rw [h0]; rfl
            have HZ : Hid ((((onceT (l.take (k + 1))).filter fun r => decide (r.1.1 = K)).take 1) = [((K, V), 1)]) := by show _ = _; rw [once_yes hr hD, List.filter_append, h0]; simp
            have O1 : OwnI wr w.heap.size u7 [] := by have := HO.out; rw [e0] at this; exact this
            have hu : u7 = .slice a7 0 cap7 := by rw [hu7, e0]; rfl
            subst hu
            clear hr HO HO2 hz h0 e0 hu7
            generalize keyN (l.take k) K = nn at *
            go_wp2_with (at_builtin; refine appI _ rfl _ _ rfl w.heap.size _ [] rfl (O1.alloc _) _ K V 1 rfl (Bk.new _ _ rfl) (by simp) (by simp; omega) ?_; intro g9 cap9 w9 own9 hgrow hlg)
            have hb9 : Below w.heap.size w w9 := Below.grew (bAlloc hb _) hgrow (by simp; omega) (ownK_base O1)
            exact ⟨⟨k + 1, by omega, by go_num, by rw [HY.out], by rw [HZ.out]; exact own9, hb9⟩, by simp [intOf]; omega⟩
          · have HZ : Hid ((((onceT (l.take (k + 1))).filter fun r => decide (r.1.1 = K)).take 1) = (((onceT (l.take k)).filter fun r => decide (r.1.1 = K)).take 1)) := by
              show _ = _
              rw [once_yes hr hD, List.filter_append, List.take_append_of_le_length (by rw [List.length_take] at hz; omega)]
            have nz : (((((onceT (l.take k)).filter fun r => decide (r.1.1 = K)).take 1).length : Int) == 0) = false := by simpa using hz
            clear hr hz HO
            generalize (((onceT (l.take k)).filter fun r => decide (r.1.1 = K)).take 1) = XX at *
            subst hu7
            generalize keyN (l.take k) K = nn at *
            go_wp2_with fail
            go_roundw
            case rel => exact ⟨k + 1, by omega, by go_num, by rw [HY.out], by rw [HZ.out]; exact HO2.out, hb⟩
            case measure => simp [intOf]; omega
        · have HZ : Hid ((((onceT (l.take (k + 1))).filter fun r => decide (r.1.1 = K)).take 1) = (((onceT (l.take k)).filter fun r => decide (r.1.1 = K)).take 1)) := by show _ = _; rw [once_no hr hD]
          clear hr
          subst hu7
          generalize keyN (l.take k) K = nn at *
          go_wp2_with fail
          go_roundw
          case rel => exact ⟨k + 1, by omega, by go_num, by rw [HY.out], by rw [HZ.out]; exact HO2.out, hb⟩
          case measure => simp [intOf]; omega
      · have nK : (K == key) = false := by simpa using hK
        have HY := (show Hid _ from keyN_no hr hK)
        have HZ : Hid ((((onceT (l.take (k + 1))).filter fun r => decide (r.1.1 = key)).take 1) = ((onceT (l.take k)).filter fun r => decide (r.1.1 = key)).take 1) := by show _ = _; rw [once_other hr hK]
        clear hr
        generalize keyN (l.take k) key = nn at *
        go_wp2_with fail
        go_roundw
        case rel => exact ⟨k + 1, by omega, by go_num, by rw [HY.out], by rw [HZ.out]; exact HO.out, hb⟩
        case measure => simp [intOf]; omega
    · obtain rfl : k = l.length := by omega
      have HR : Hid (OwnI wr w.heap.size u7 (leastK l key)) := by have := HO.out; rw [List.take_length] at this; exact this
      generalize keyN (l.take l.length) key = nn at *
      go_wp2_with fail
      go_ret
      exact ⟨_, rfl, HR.out, hb⟩
def accF (f : Int → List It) : Nat → List It
  | 0 => []
  | k + 1 => accF f k ++ f k
theorem accF_len {f : Int → List It} {c : Nat} (h : ∀ k, (f k).length ≤ c) (k : Nat) : (accF f k).length ≤ k * c := by
  induction k with
  | zero => simp [accF]
  | succ k ih => have := h k; simp only [accF, List.length_append, Nat.add_mul]; omega
theorem accF_four (f : Int → List It) : accF f 4 = f 0 ++ f 1 ++ f 2 ++ f 3 := by simp [accF]
end Go.Proofs.YtdbhgocaelmanaaGreat
