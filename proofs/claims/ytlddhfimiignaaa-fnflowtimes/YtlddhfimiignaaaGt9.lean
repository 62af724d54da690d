/- SetEach of the program: the contract, a way. -/
import Derived.Test.YtlddhfimiignaaaGt8
import Derived.Laws.EntriesVeiled
namespace Go.Proofs.Ytlddhfimiignaaa
open Go.RowKit
open Go.ChangeMaps (setBlock)

set_option maxHeartbeats 2000000 in
theorem wayOf_1 (w : World) : Calls Try.prog 65 #[.int .i64 1] w fun e w' => e = .returned (.tuple #[.func (.func 102) #[] #[], .bool true]) ∧ Below w.heap.size w w' := by
  go_enter Try.func65, Try.ntmps65
  go_wp2_with fail
  refine bodyPost_ret (by simp [results, Try.results65, go_sem]; try rfl) rfl ?_
  exact ⟨rfl, bAlloc (Below.refl _ _) _⟩
set_option maxRecDepth 100000 in
set_option maxHeartbeats 8000000 in
theorem implSetEach_1 (v : Value) (l : List It) (w : World) (h : Is w v l) :
    Calls Try.prog 30 #[v, .int .i64 1] w fun e w' => ∃ o : Value, e = .returned o ∧ OwnI w' w.heap.size o (eachS l 1) ∧ Below w.heap.size w w' := by
  cases hk : sokB l
  · have HF : Hid (eachS l 1 = []) := each_no1 hk
    go_enter Try.func30, Try.ntmps30
    go_wp2_with fail
    refine (wayOf_1 _).mono ?_
    rintro e w1 ⟨rfl, hb1⟩
    go_wp2_with fail
    refine (implSetOk_eq hk (h.keep hb1)).mono ?_
    rintro e w2 ⟨rfl, hb2⟩
    go_wp2_with fail
    go_ret
    refine ⟨_, rfl, ?_, bStep hb1 hb2⟩
    rw [HF.out]
    exact ownK_nil _ _ _ _ _
  have HF : Hid (eachS l 1 = sumL ltT (eachT 1 l)) := each_yes hk (by decide)
  have hl := sok_len hk
  have HK : Hid (∀ (k : Nat) (s : Int × Int) (d : Int), l[k]? = some (s, d) → itK s) := fun k s d hr => sok_k hk _ (List.mem_of_getElem? hr)
  have HA : Hid (∀ k : Nat, absum (eachT 1 (l.take k)) ≤ 439804651110400) := fun k => by have h1 := each_abs 1 (l.take k); have h2 := sok_take hk k; omega
  have hmm := @run_makeMap Try.prog
  go_enter Try.func30, Try.ntmps30
  go_wp2_with fail
  refine (wayOf_1 _).mono ?_
  rintro e w0 ⟨rfl, hb0⟩
  go_wp2_with fail
  refine (implSetOk_eq hk (h.keep hb0)).mono ?_
  rintro e w1 ⟨rfl, hb1⟩
  have hbw1 := bStep hb0 hb1
  have hs1 := hbw1.size
  obtain ⟨a, cap, rfl, hc, hm, hn, hcells⟩ := Is.open (h.keep hbw1)
  unfold maxLen at hm
  have HC := (show Hid _ from hcells)
  clear hcells h hk hb0 hb1
  have m0 : MapIs thV thOk (w1.alloc (.map #[] 0)) w1.heap.size [] := MapIs.new w1 rfl
  have hbm : Below w1.heap.size w1 (w1.alloc (.map #[] 0)) := bAlloc (Below.refl _ _) _
  go_wp2_with fail
  clear hmm
  go_loopw [27] (fun i wr => ∃ (k : Nat) (M : List It), k ≤ l.length ∧ i = .int .i64 k ∧ MapIs thV thOk wr w1.heap.size M ∧ (∀ s, tot M s = tot (eachT 1 (l.take k)) s) ∧ M.length ≤ k ∧ Below w1.heap.size w1 wr) (fun i _ => l.length - (intOf i).toNat)
  case atStart => exact ⟨0, [], by omega, rfl, m0, fun s => by simp [eachT], by simp, hbm⟩
  case round =>
    clear m0 hbm
    obtain ⟨k, M, hkl, rfl, hmap, htot, hML, hb⟩ := hrel
    have HT := (show Hid _ from htot)
    clear htot
    by_cases hlt : k < l.length
    · obtain ⟨g, off, K, V, D, rfl, hg, hr, c0, c1, c2⟩ := HC.out k hlt
      have hit := HK.out k _ _ hr
      have d0 := cell_below hb c0
      have d1 := cell_below hb c1
      have d2 := cell_below hb c2
      have HR := (show Hid _ from hr)
      have ik : ((k : Int) < (l.length : Int)) := by omega
      have bx := Bk.new (w := wr) #[.int .i64 K, .int .i64 V, .int .i64 D] 34 rfl
      have hbx0 : Below wr.heap.size wr (wr.alloc (.cells #[.int .i64 K, .int .i64 V, .int .i64 D] 34)) := bAlloc (Below.refl _ _) _
      have hbx := bStep hb hbx0
      have mx := hmap.keep hbx0
      obtain ⟨i1, i2, i3, i4⟩ := hit
      have HIT : Hid (thOk (wayM 1 (K, V))) := it_th (way_k ⟨i1, i2, i3, i4⟩)
      simp only at i1 i2 i3 i4
      clear c0 c1 c2 hr hmap hbx0 hb
      go_upto_region 8 with fail
      clear d0 d1 d2
      generalize wr.heap.size = tb at *
      generalize World.alloc _ _ = wx at *
      obtain ⟨q0, q1, q2⟩ := bx.three
      go_wp2_with fail
      refine (way1_any K V _ i1 i2 i3 i4).mono ?_
      rintro e wy ⟨rfl, hby⟩
      have by1 := bx.keep hby
      have my := mx.keep hby
      have hbn := bStep hbx hby
      have HM : Hid (wayM 1 (K, V) = ((wayM 1 (K, V)).1, (wayM 1 (K, V)).2)) := rfl
      have HYES : Hid (wayP 1 (K, V) = true → eachT 1 (l.take (k + 1)) = eachT 1 (l.take k) ++ [(wayM 1 (K, V), D)]) := fun hp => eachT_yes HR.out hp
      have HNO : Hid (wayP 1 (K, V) = false → eachT 1 (l.take (k + 1)) = eachT 1 (l.take k)) := fun hp => eachT_no HR.out hp
      clear q0 q1 q2 bx mx hbx hby
      generalize (wayM 1 (K, V)).1 = K2 at *
      generalize (wayM 1 (K, V)).2 = V2 at *
      generalize hP : wayP 1 (K, V) = r at *
      clear hP
      have bt0 := Bk.new (w := wy) #[.int .i64 K2, .int .i64 V2] 69 rfl
      have hbt : Below wy.heap.size wy (wy.alloc (.cells #[.int .i64 K2, .int .i64 V2] 69)) := bAlloc (Below.refl _ _) _
      have bz := by1.keep hbt
      have mz := my.keep hbt
      have hbz := bStep hbn hbt
      have hmt := mz.lt
      go_upto_region 9 with fail
      clear by1 my hbn hbt
      generalize wy.heap.size = ub at *
      generalize World.alloc _ _ = wt at *
      cases r
      · have HZ : Hid (eachT 1 (l.take (k + 1)) = eachT 1 (l.take k)) := HNO.out rfl
        go_wp2_with fail
        go_roundw
        case rel => exact ⟨k + 1, M, by omega, by go_num, mz, (by rw [HZ.out]; exact HT.out), by omega, hbz⟩
        case measure => simp [intOf]; omega
      · have HZ : Hid (eachT 1 (l.take (k + 1)) = eachT 1 (l.take k) ++ [((K2, V2), D)]) := by show _ = _; rw [HYES.out rfl, HM.out]
        have hok : thOk (K2, V2) := by have := HIT.out; rw [HM.out] at this; exact this
        have hAk := HA.out (k + 1)
        rw [HZ.out, absum_append] at hAk
        obtain ⟨st, o1, o2, M', e1, e2, e3, hM', ht', hl2⟩ := MapIs.enter (mz.move (w1 := wt.drew) rfl) encT Try.underlying65 zeroI hok (tot M (K2, V2) + D)
        change (Instr.entryStore _ _ (.int .i64 (st : Int)) _).run _ _ = _ at e3
        have e0 := MapIs.look (mz.move (w1 := wt.drew) rfl) encT Try.underlying65 zeroI hok
        obtain ⟨y0, y1, y2⟩ := bz.three
        obtain ⟨t0, t1, _, _⟩ := bt0.two
        have hsum : -4611686018427387904 ≤ tot M (K2, V2) + D ∧ tot M (K2, V2) + D ≤ 4611686018427387904 := by
          have h1 := tot_abs (eachT 1 (l.take k)) (K2, V2)
          rw [← HT.out] at h1
          simp only [absum] at hAk
          have := absum_pos (eachT 1 (l.take k))
          omega
        have HN : Hid (∀ s, tot M' s = tot (eachT 1 (l.take (k + 1))) s) := fun s => by
          rw [ht', HZ.out, tot_snoc]
          by_cases e : (K2, V2) = s
          · rw [if_pos e, if_pos e, ← HT.out, e]
          · rw [if_neg e, if_neg e, HT.out]; omega
        clear ht' hAk
        obtain ⟨hs1', hs2'⟩ := hsum
        generalize hT : tot M (K2, V2) = T at *
        have hTT : Hid (tot M (K2, V2) = T) := hT
        clear hT
        have iw : IntKind.i64.wrap (T + D) = T + D := by rw [IntKind.wrap_i64]; omega
        go_upto_region 10 with fail
        go_region
        clear e0 e1 e2 e3
        have hb2 : Below w1.heap.size w1 (setBlock wt.drew w1.heap.size o2) := below_setBlock hbz.drew (Nat.le_refl _)
        generalize setBlock wt.drew w1.heap.size o2 = w7 at *
        go_wp2_with fail
        go_roundw
        case rel => exact ⟨k + 1, M', by omega, by go_num, hM', HN.out, by omega, hb2⟩
        case measure => simp [intOf]; omega
    · obtain rfl : k = l.length := by omega
      have HT2 : Hid (∀ s, tot M s = tot (eachT 1 l) s) := fun s => by rw [HT.out, List.take_length]
      have hbr := bStep hbw1 hb
      have hbrs := hbr.size
      clear HT
      go_wp2_with fail
      refine (itemsOf_k w1.heap.size wr hmap (by omega) HT2.out).mono ?_
      rintro e w8 ⟨o8, rfl, own8, hb8⟩
      have O8 : Hid (OwnI w8 wr.heap.size o8 (sumL ltT (eachT 1 l))) := own8
      clear own8
      go_wp2_with fail
      go_ret
      refine ⟨_, rfl, ?_, bStep hbr hb8⟩
      rw [HF.out]
      exact own_less O8.out hbrs
set_option maxHeartbeats 2000000 in
theorem wayOf_2 (w : World) : Calls Try.prog 65 #[.int .i64 2] w fun e w' => e = .returned (.tuple #[.func (.func 103) #[] #[], .bool true]) ∧ Below w.heap.size w w' := by
  go_enter Try.func65, Try.ntmps65
  go_wp2_with fail
  refine bodyPost_ret (by simp [results, Try.results65, go_sem]; try rfl) rfl ?_
  exact ⟨rfl, bAlloc (Below.refl _ _) _⟩
set_option maxRecDepth 100000 in
set_option maxHeartbeats 8000000 in
theorem implSetEach_2 (v : Value) (l : List It) (w : World) (h : Is w v l) :
    Calls Try.prog 30 #[v, .int .i64 2] w fun e w' => ∃ o : Value, e = .returned o ∧ OwnI w' w.heap.size o (eachS l 2) ∧ Below w.heap.size w w' := by
  cases hk : sokB l
  · have HF : Hid (eachS l 2 = []) := each_no1 hk
    go_enter Try.func30, Try.ntmps30
    go_wp2_with fail
    refine (wayOf_2 _).mono ?_
    rintro e w1 ⟨rfl, hb1⟩
    go_wp2_with fail
    refine (implSetOk_eq hk (h.keep hb1)).mono ?_
    rintro e w2 ⟨rfl, hb2⟩
    go_wp2_with fail
    go_ret
    refine ⟨_, rfl, ?_, bStep hb1 hb2⟩
    rw [HF.out]
    exact ownK_nil _ _ _ _ _
  have HF : Hid (eachS l 2 = sumL ltT (eachT 2 l)) := each_yes hk (by decide)
  have hl := sok_len hk
  have HK : Hid (∀ (k : Nat) (s : Int × Int) (d : Int), l[k]? = some (s, d) → itK s) := fun k s d hr => sok_k hk _ (List.mem_of_getElem? hr)
  have HA : Hid (∀ k : Nat, absum (eachT 2 (l.take k)) ≤ 439804651110400) := fun k => by have h1 := each_abs 2 (l.take k); have h2 := sok_take hk k; omega
  have hmm := @run_makeMap Try.prog
  go_enter Try.func30, Try.ntmps30
  go_wp2_with fail
  refine (wayOf_2 _).mono ?_
  rintro e w0 ⟨rfl, hb0⟩
  go_wp2_with fail
  refine (implSetOk_eq hk (h.keep hb0)).mono ?_
  rintro e w1 ⟨rfl, hb1⟩
  have hbw1 := bStep hb0 hb1
  have hs1 := hbw1.size
  obtain ⟨a, cap, rfl, hc, hm, hn, hcells⟩ := Is.open (h.keep hbw1)
  unfold maxLen at hm
  have HC := (show Hid _ from hcells)
  clear hcells h hk hb0 hb1
  have m0 : MapIs thV thOk (w1.alloc (.map #[] 0)) w1.heap.size [] := MapIs.new w1 rfl
  have hbm : Below w1.heap.size w1 (w1.alloc (.map #[] 0)) := bAlloc (Below.refl _ _) _
  go_wp2_with fail
  clear hmm
  go_loopw [27] (fun i wr => ∃ (k : Nat) (M : List It), k ≤ l.length ∧ i = .int .i64 k ∧ MapIs thV thOk wr w1.heap.size M ∧ (∀ s, tot M s = tot (eachT 2 (l.take k)) s) ∧ M.length ≤ k ∧ Below w1.heap.size w1 wr) (fun i _ => l.length - (intOf i).toNat)
  case atStart => exact ⟨0, [], by omega, rfl, m0, fun s => by simp [eachT], by simp, hbm⟩
  case round =>
    clear m0 hbm
    obtain ⟨k, M, hkl, rfl, hmap, htot, hML, hb⟩ := hrel
    have HT := (show Hid _ from htot)
    clear htot
    by_cases hlt : k < l.length
    · obtain ⟨g, off, K, V, D, rfl, hg, hr, c0, c1, c2⟩ := HC.out k hlt
      have hit := HK.out k _ _ hr
      have d0 := cell_below hb c0
      have d1 := cell_below hb c1
      have d2 := cell_below hb c2
      have HR := (show Hid _ from hr)
      have ik : ((k : Int) < (l.length : Int)) := by omega
      have bx := Bk.new (w := wr) #[.int .i64 K, .int .i64 V, .int .i64 D] 34 rfl
      have hbx0 : Below wr.heap.size wr (wr.alloc (.cells #[.int .i64 K, .int .i64 V, .int .i64 D] 34)) := bAlloc (Below.refl _ _) _
      have hbx := bStep hb hbx0
      have mx := hmap.keep hbx0
      obtain ⟨i1, i2, i3, i4⟩ := hit
      have HIT : Hid (thOk (wayM 2 (K, V))) := it_th (way_k ⟨i1, i2, i3, i4⟩)
      simp only at i1 i2 i3 i4
      clear c0 c1 c2 hr hmap hbx0 hb
      go_upto_region 8 with fail
      clear d0 d1 d2
      generalize wr.heap.size = tb at *
      generalize World.alloc _ _ = wx at *
      obtain ⟨q0, q1, q2⟩ := bx.three
      go_wp2_with fail
      refine (way2_any K V _ i1 i2 i3 i4).mono ?_
      rintro e wy ⟨rfl, hby⟩
      have by1 := bx.keep hby
      have my := mx.keep hby
      have hbn := bStep hbx hby
      have HM : Hid (wayM 2 (K, V) = ((wayM 2 (K, V)).1, (wayM 2 (K, V)).2)) := rfl
      have HYES : Hid (wayP 2 (K, V) = true → eachT 2 (l.take (k + 1)) = eachT 2 (l.take k) ++ [(wayM 2 (K, V), D)]) := fun hp => eachT_yes HR.out hp
      have HNO : Hid (wayP 2 (K, V) = false → eachT 2 (l.take (k + 1)) = eachT 2 (l.take k)) := fun hp => eachT_no HR.out hp
      clear q0 q1 q2 bx mx hbx hby
      generalize (wayM 2 (K, V)).1 = K2 at *
      generalize (wayM 2 (K, V)).2 = V2 at *
      generalize hP : wayP 2 (K, V) = r at *
      clear hP
      have bt0 := Bk.new (w := wy) #[.int .i64 K2, .int .i64 V2] 69 rfl
      have hbt : Below wy.heap.size wy (wy.alloc (.cells #[.int .i64 K2, .int .i64 V2] 69)) := bAlloc (Below.refl _ _) _
      have bz := by1.keep hbt
      have mz := my.keep hbt
      have hbz := bStep hbn hbt
      have hmt := mz.lt
      go_upto_region 9 with fail
      clear by1 my hbn hbt
      generalize wy.heap.size = ub at *
      generalize World.alloc _ _ = wt at *
      cases r
      · have HZ : Hid (eachT 2 (l.take (k + 1)) = eachT 2 (l.take k)) := HNO.out rfl
        go_wp2_with fail
        go_roundw
        case rel => exact ⟨k + 1, M, by omega, by go_num, mz, (by rw [HZ.out]; exact HT.out), by omega, hbz⟩
        case measure => simp [intOf]; omega
      · have HZ : Hid (eachT 2 (l.take (k + 1)) = eachT 2 (l.take k) ++ [((K2, V2), D)]) := by show _ = _; rw [HYES.out rfl, HM.out]
        have hok : thOk (K2, V2) := by have := HIT.out; rw [HM.out] at this; exact this
        have hAk := HA.out (k + 1)
        rw [HZ.out, absum_append] at hAk
        obtain ⟨st, o1, o2, M', e1, e2, e3, hM', ht', hl2⟩ := MapIs.enter (mz.move (w1 := wt.drew) rfl) encT Try.underlying65 zeroI hok (tot M (K2, V2) + D)
        change (Instr.entryStore _ _ (.int .i64 (st : Int)) _).run _ _ = _ at e3
        have e0 := MapIs.look (mz.move (w1 := wt.drew) rfl) encT Try.underlying65 zeroI hok
        obtain ⟨y0, y1, y2⟩ := bz.three
        obtain ⟨t0, t1, _, _⟩ := bt0.two
        have hsum : -4611686018427387904 ≤ tot M (K2, V2) + D ∧ tot M (K2, V2) + D ≤ 4611686018427387904 := by
          have h1 := tot_abs (eachT 2 (l.take k)) (K2, V2)
          rw [← HT.out] at h1
          simp only [absum] at hAk
          have := absum_pos (eachT 2 (l.take k))
          omega
        have HN : Hid (∀ s, tot M' s = tot (eachT 2 (l.take (k + 1))) s) := fun s => by
          rw [ht', HZ.out, tot_snoc]
          by_cases e : (K2, V2) = s
          · rw [if_pos e, if_pos e, ← HT.out, e]
          · rw [if_neg e, if_neg e, HT.out]; omega
        clear ht' hAk
        obtain ⟨hs1', hs2'⟩ := hsum
        generalize hT : tot M (K2, V2) = T at *
        have hTT : Hid (tot M (K2, V2) = T) := hT
        clear hT
        have iw : IntKind.i64.wrap (T + D) = T + D := by rw [IntKind.wrap_i64]; omega
        go_upto_region 10 with fail
        go_region
        clear e0 e1 e2 e3
        have hb2 : Below w1.heap.size w1 (setBlock wt.drew w1.heap.size o2) := below_setBlock hbz.drew (Nat.le_refl _)
        generalize setBlock wt.drew w1.heap.size o2 = w7 at *
        go_wp2_with fail
        go_roundw
        case rel => exact ⟨k + 1, M', by omega, by go_num, hM', HN.out, by omega, hb2⟩
        case measure => simp [intOf]; omega
    · obtain rfl : k = l.length := by omega
      have HT2 : Hid (∀ s, tot M s = tot (eachT 2 l) s) := fun s => by rw [HT.out, List.take_length]
      have hbr := bStep hbw1 hb
      have hbrs := hbr.size
      clear HT
      go_wp2_with fail
      refine (itemsOf_k w1.heap.size wr hmap (by omega) HT2.out).mono ?_
      rintro e w8 ⟨o8, rfl, own8, hb8⟩
      have O8 : Hid (OwnI w8 wr.heap.size o8 (sumL ltT (eachT 2 l))) := own8
      clear own8
      go_wp2_with fail
      go_ret
      refine ⟨_, rfl, ?_, bStep hbr hb8⟩
      rw [HF.out]
      exact own_less O8.out hbrs
set_option maxHeartbeats 2000000 in
theorem wayOf_3 (w : World) : Calls Try.prog 65 #[.int .i64 3] w fun e w' => e = .returned (.tuple #[.func (.func 104) #[] #[], .bool true]) ∧ Below w.heap.size w w' := by
  go_enter Try.func65, Try.ntmps65
  go_wp2_with fail
  refine bodyPost_ret (by simp [results, Try.results65, go_sem]; try rfl) rfl ?_
  exact ⟨rfl, bAlloc (Below.refl _ _) _⟩
set_option maxRecDepth 100000 in
set_option maxHeartbeats 8000000 in
theorem implSetEach_3 (v : Value) (l : List It) (w : World) (h : Is w v l) :
    Calls Try.prog 30 #[v, .int .i64 3] w fun e w' => ∃ o : Value, e = .returned o ∧ OwnI w' w.heap.size o (eachS l 3) ∧ Below w.heap.size w w' := by
  cases hk : sokB l
  · have HF : Hid (eachS l 3 = []) := each_no1 hk
    go_enter Try.func30, Try.ntmps30
    go_wp2_with fail
    refine (wayOf_3 _).mono ?_
    rintro e w1 ⟨rfl, hb1⟩
    go_wp2_with fail
    refine (implSetOk_eq hk (h.keep hb1)).mono ?_
    rintro e w2 ⟨rfl, hb2⟩
    go_wp2_with fail
    go_ret
    refine ⟨_, rfl, ?_, bStep hb1 hb2⟩
    rw [HF.out]
    exact ownK_nil _ _ _ _ _
  have HF : Hid (eachS l 3 = sumL ltT (eachT 3 l)) := each_yes hk (by decide)
  have hl := sok_len hk
  have HK : Hid (∀ (k : Nat) (s : Int × Int) (d : Int), l[k]? = some (s, d) → itK s) := fun k s d hr => sok_k hk _ (List.mem_of_getElem? hr)
  have HA : Hid (∀ k : Nat, absum (eachT 3 (l.take k)) ≤ 439804651110400) := fun k => by have h1 := each_abs 3 (l.take k); have h2 := sok_take hk k; omega
  have hmm := @run_makeMap Try.prog
  go_enter Try.func30, Try.ntmps30
  go_wp2_with fail
  refine (wayOf_3 _).mono ?_
  rintro e w0 ⟨rfl, hb0⟩
  go_wp2_with fail
  refine (implSetOk_eq hk (h.keep hb0)).mono ?_
  rintro e w1 ⟨rfl, hb1⟩
  have hbw1 := bStep hb0 hb1
  have hs1 := hbw1.size
  obtain ⟨a, cap, rfl, hc, hm, hn, hcells⟩ := Is.open (h.keep hbw1)
  unfold maxLen at hm
  have HC := (show Hid _ from hcells)
  clear hcells h hk hb0 hb1
  have m0 : MapIs thV thOk (w1.alloc (.map #[] 0)) w1.heap.size [] := MapIs.new w1 rfl
  have hbm : Below w1.heap.size w1 (w1.alloc (.map #[] 0)) := bAlloc (Below.refl _ _) _
  go_wp2_with fail
  clear hmm
  go_loopw [27] (fun i wr => ∃ (k : Nat) (M : List It), k ≤ l.length ∧ i = .int .i64 k ∧ MapIs thV thOk wr w1.heap.size M ∧ (∀ s, tot M s = tot (eachT 3 (l.take k)) s) ∧ M.length ≤ k ∧ Below w1.heap.size w1 wr) (fun i _ => l.length - (intOf i).toNat)
  case atStart => exact ⟨0, [], by omega, rfl, m0, fun s => by simp [eachT], by simp, hbm⟩
  case round =>
    clear m0 hbm
    obtain ⟨k, M, hkl, rfl, hmap, htot, hML, hb⟩ := hrel
    have HT := (show Hid _ from htot)
    clear htot
    by_cases hlt : k < l.length
    · obtain ⟨g, off, K, V, D, rfl, hg, hr, c0, c1, c2⟩ := HC.out k hlt
      have hit := HK.out k _ _ hr
      have d0 := cell_below hb c0
      have d1 := cell_below hb c1
      have d2 := cell_below hb c2
      have HR := (show Hid _ from hr)
      have ik : ((k : Int) < (l.length : Int)) := by omega
      have bx := Bk.new (w := wr) #[.int .i64 K, .int .i64 V, .int .i64 D] 34 rfl
      have hbx0 : Below wr.heap.size wr (wr.alloc (.cells #[.int .i64 K, .int .i64 V, .int .i64 D] 34)) := bAlloc (Below.refl _ _) _
      have hbx := bStep hb hbx0
      have mx := hmap.keep hbx0
      obtain ⟨i1, i2, i3, i4⟩ := hit
      have HIT : Hid (thOk (wayM 3 (K, V))) := it_th (way_k ⟨i1, i2, i3, i4⟩)
      simp only at i1 i2 i3 i4
      clear c0 c1 c2 hr hmap hbx0 hb
      go_upto_region 8 with fail
      clear d0 d1 d2
      generalize wr.heap.size = tb at *
      generalize World.alloc _ _ = wx at *
      obtain ⟨q0, q1, q2⟩ := bx.three
      go_wp2_with fail
      refine (way3_any K V _ i1 i2 i3 i4).mono ?_
      rintro e wy ⟨rfl, hby⟩
      have by1 := bx.keep hby
      have my := mx.keep hby
      have hbn := bStep hbx hby
      have HM : Hid (wayM 3 (K, V) = ((wayM 3 (K, V)).1, (wayM 3 (K, V)).2)) := rfl
      have HYES : Hid (wayP 3 (K, V) = true → eachT 3 (l.take (k + 1)) = eachT 3 (l.take k) ++ [(wayM 3 (K, V), D)]) := fun hp => eachT_yes HR.out hp
      have HNO : Hid (wayP 3 (K, V) = false → eachT 3 (l.take (k + 1)) = eachT 3 (l.take k)) := fun hp => eachT_no HR.out hp
      clear q0 q1 q2 bx mx hbx hby
      generalize (wayM 3 (K, V)).1 = K2 at *
      generalize (wayM 3 (K, V)).2 = V2 at *
      generalize hP : wayP 3 (K, V) = r at *
      clear hP
      have bt0 := Bk.new (w := wy) #[.int .i64 K2, .int .i64 V2] 69 rfl
      have hbt : Below wy.heap.size wy (wy.alloc (.cells #[.int .i64 K2, .int .i64 V2] 69)) := bAlloc (Below.refl _ _) _
      have bz := by1.keep hbt
      have mz := my.keep hbt
      have hbz := bStep hbn hbt
      have hmt := mz.lt
      go_upto_region 9 with fail
      clear by1 my hbn hbt
      generalize wy.heap.size = ub at *
      generalize World.alloc _ _ = wt at *
      cases r
      · have HZ : Hid (eachT 3 (l.take (k + 1)) = eachT 3 (l.take k)) := HNO.out rfl
        go_wp2_with fail
        go_roundw
        case rel => exact ⟨k + 1, M, by omega, by go_num, mz, (by rw [HZ.out]; exact HT.out), by omega, hbz⟩
        case measure => simp [intOf]; omega
      · have HZ : Hid (eachT 3 (l.take (k + 1)) = eachT 3 (l.take k) ++ [((K2, V2), D)]) := by show _ = _; rw [HYES.out rfl, HM.out]
        have hok : thOk (K2, V2) := by have := HIT.out; rw [HM.out] at this; exact this
        have hAk := HA.out (k + 1)
        rw [HZ.out, absum_append] at hAk
        obtain ⟨st, o1, o2, M', e1, e2, e3, hM', ht', hl2⟩ := MapIs.enter (mz.move (w1 := wt.drew) rfl) encT Try.underlying65 zeroI hok (tot M (K2, V2) + D)
        change (Instr.entryStore _ _ (.int .i64 (st : Int)) _).run _ _ = _ at e3
        have e0 := MapIs.look (mz.move (w1 := wt.drew) rfl) encT Try.underlying65 zeroI hok
        obtain ⟨y0, y1, y2⟩ := bz.three
        obtain ⟨t0, t1, _, _⟩ := bt0.two
        have hsum : -4611686018427387904 ≤ tot M (K2, V2) + D ∧ tot M (K2, V2) + D ≤ 4611686018427387904 := by
          have h1 := tot_abs (eachT 3 (l.take k)) (K2, V2)
          rw [← HT.out] at h1
          simp only [absum] at hAk
          have := absum_pos (eachT 3 (l.take k))
          omega
        have HN : Hid (∀ s, tot M' s = tot (eachT 3 (l.take (k + 1))) s) := fun s => by
          rw [ht', HZ.out, tot_snoc]
          by_cases e : (K2, V2) = s
          · rw [if_pos e, if_pos e, ← HT.out, e]
          · rw [if_neg e, if_neg e, HT.out]; omega
        clear ht' hAk
        obtain ⟨hs1', hs2'⟩ := hsum
        generalize hT : tot M (K2, V2) = T at *
        have hTT : Hid (tot M (K2, V2) = T) := hT
        clear hT
        have iw : IntKind.i64.wrap (T + D) = T + D := by rw [IntKind.wrap_i64]; omega
        go_upto_region 10 with fail
        go_region
        clear e0 e1 e2 e3
        have hb2 : Below w1.heap.size w1 (setBlock wt.drew w1.heap.size o2) := below_setBlock hbz.drew (Nat.le_refl _)
        generalize setBlock wt.drew w1.heap.size o2 = w7 at *
        go_wp2_with fail
        go_roundw
        case rel => exact ⟨k + 1, M', by omega, by go_num, hM', HN.out, by omega, hb2⟩
        case measure => simp [intOf]; omega
    · obtain rfl : k = l.length := by omega
      have HT2 : Hid (∀ s, tot M s = tot (eachT 3 l) s) := fun s => by rw [HT.out, List.take_length]
      have hbr := bStep hbw1 hb
      have hbrs := hbr.size
      clear HT
      go_wp2_with fail
      refine (itemsOf_k w1.heap.size wr hmap (by omega) HT2.out).mono ?_
      rintro e w8 ⟨o8, rfl, own8, hb8⟩
      have O8 : Hid (OwnI w8 wr.heap.size o8 (sumL ltT (eachT 3 l))) := own8
      clear own8
      go_wp2_with fail
      go_ret
      refine ⟨_, rfl, ?_, bStep hbr hb8⟩
      rw [HF.out]
      exact own_less O8.out hbrs
end Go.Proofs.Ytlddhfimiignaaa
