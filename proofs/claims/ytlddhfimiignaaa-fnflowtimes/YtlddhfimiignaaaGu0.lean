/- SetEach of the program: the contract, a way. -/
import Derived.Test.YtlddhfimiignaaaGt9
import Derived.Laws.EntriesVeiled
namespace Go.Proofs.Ytlddhfimiignaaa
open Go.RowKit
open Go.ChangeMaps (setBlock)

set_option maxHeartbeats 2000000 in
theorem wayOf_4 (w : World) : Calls Try.prog 65 #[.int .i64 4] w fun e w' => e = .returned (.tuple #[.func (.func 105) #[] #[], .bool true]) ∧ Below w.heap.size w w' := by
  go_enter Try.func65, Try.ntmps65
  go_wp2_with fail
  refine bodyPost_ret (by simp [results, Try.results65, go_sem]; try rfl) rfl ?_
  exact ⟨rfl, bAlloc (Below.refl _ _) _⟩
set_option maxRecDepth 100000 in
set_option maxHeartbeats 8000000 in
theorem implSetEach_4 (v : Value) (l : List It) (w : World) (h : Is w v l) :
    Calls Try.prog 30 #[v, .int .i64 4] w fun e w' => ∃ o : Value, e = .returned o ∧ OwnI w' w.heap.size o (eachS l 4) ∧ Below w.heap.size w w' := by
  cases hk : sokB l
  · have HF : Hid (eachS l 4 = []) := each_no1 hk
    go_enter Try.func30, Try.ntmps30
    go_wp2_with fail
    refine (wayOf_4 _).mono ?_
    rintro e w1 ⟨rfl, hb1⟩
    go_wp2_with fail
    refine (implSetOk_eq hk (h.keep hb1)).mono ?_
    rintro e w2 ⟨rfl, hb2⟩
    go_wp2_with fail
    go_ret
    refine ⟨_, rfl, ?_, bStep hb1 hb2⟩
    rw [HF.out]
    exact ownK_nil _ _ _ _ _
  have HF : Hid (eachS l 4 = sumL ltT (eachT 4 l)) := each_yes hk (by decide)
  have hl := sok_len hk
  have HK : Hid (∀ (k : Nat) (s : Int × Int) (d : Int), l[k]? = some (s, d) → itK s) := fun k s d hr => sok_k hk _ (List.mem_of_getElem? hr)
  have HA : Hid (∀ k : Nat, absum (eachT 4 (l.take k)) ≤ 439804651110400) := fun k => by have h1 := each_abs 4 (l.take k); have h2 := sok_take hk k; omega
  have hmm := @run_makeMap Try.prog
  go_enter Try.func30, Try.ntmps30
  go_wp2_with fail
  refine (wayOf_4 _).mono ?_
  rintro e w0 ⟨rfl, hb0⟩
  go_wp2_with fail
  refine (implSetOk_eq hk (h.keep hb0)).mono ?_
  rintro e w1 ⟨rfl, hb1⟩
  have hbw1 := bStep hb0 hb1
  have hs1 := hbw1.size
  obtain ⟨a, cap, rfl, hc, hm, hn, hcells⟩ := Is.open (h.keep hbw1)
  unfold maxLen at hm
  have HC := (show Hid _ from hcells)
  clear hcells h hk hb0 hb1
  have m0 : MapIs thV thOk (w1.alloc (.map #[] 0)) w1.heap.size [] := MapIs.new w1 rfl
  have hbm : Below w1.heap.size w1 (w1.alloc (.map #[] 0)) := bAlloc (Below.refl _ _) _
  go_wp2_with fail
  clear hmm
  go_loopw [27] (fun i wr => ∃ (k : Nat) (M : List It), k ≤ l.length ∧ i = .int .i64 k ∧ MapIs thV thOk wr w1.heap.size M ∧ (∀ s, tot M s = tot (eachT 4 (l.take k)) s) ∧ M.length ≤ k ∧ Below w1.heap.size w1 wr) (fun i _ => l.length - (intOf i).toNat)
  case atStart => exact ⟨0, [], by omega, rfl, m0, fun s => by simp [eachT], by simp, hbm⟩
  case round =>
    clear m0 hbm
    obtain ⟨k, M, hkl, rfl, hmap, htot, hML, hb⟩ := hrel
    have HT := (show Hid _ from htot)
    clear htot
    by_cases hlt : k < l.length
    · obtain ⟨g, off, K, V, D, rfl, hg, hr, c0, c1, c2⟩ := HC.out k hlt
      have hit := HK.out k _ _ hr
      have d0 := cell_below hb c0
      have d1 := cell_below hb c1
      have d2 := cell_below hb c2
      have HR := (show Hid _ from hr)
      have ik : ((k : Int) < (l.length : Int)) := by omega
      have bx := Bk.new (w := wr) #[.int .i64 K, .int .i64 V, .int .i64 D] 34 rfl
      have hbx0 : Below wr.heap.size wr (wr.alloc (.cells #[.int .i64 K, .int .i64 V, .int .i64 D] 34)) := bAlloc (Below.refl _ _) _
      have hbx := bStep hb hbx0
      have mx := hmap.keep hbx0
      obtain ⟨i1, i2, i3, i4⟩ := hit
      have HIT : Hid (thOk (wayM 4 (K, V))) := it_th (way_k ⟨i1, i2, i3, i4⟩)
      simp only at i1 i2 i3 i4
      clear c0 c1 c2 hr hmap hbx0 hb
      go_upto_region 8 with fail
      clear d0 d1 d2
      generalize wr.heap.size = tb at *
      generalize World.alloc _ _ = wx at *
      obtain ⟨q0, q1, q2⟩ := bx.three
      go_wp2_with fail
      refine (way4_any K V _ i1 i2 i3 i4).mono ?_
      rintro e wy ⟨rfl, hby⟩
      have by1 := bx.keep hby
      have my := mx.keep hby
      have hbn := bStep hbx hby
      have HM : Hid (wayM 4 (K, V) = ((wayM 4 (K, V)).1, (wayM 4 (K, V)).2)) := rfl
      have HYES : Hid (wayP 4 (K, V) = true → eachT 4 (l.take (k + 1)) = eachT 4 (l.take k) ++ [(wayM 4 (K, V), D)]) := fun hp => eachT_yes HR.out hp
      have HNO : Hid (wayP 4 (K, V) = false → eachT 4 (l.take (k + 1)) = eachT 4 (l.take k)) := fun hp => eachT_no HR.out hp
      clear q0 q1 q2 bx mx hbx hby
      generalize (wayM 4 (K, V)).1 = K2 at *
      generalize (wayM 4 (K, V)).2 = V2 at *
      generalize hP : wayP 4 (K, V) = r at *
      clear hP
      have bt0 := Bk.new (w := wy) #[.int .i64 K2, .int .i64 V2] 69 rfl
      have hbt : Below wy.heap.size wy (wy.alloc (.cells #[.int .i64 K2, .int .i64 V2] 69)) := bAlloc (Below.refl _ _) _
      have bz := by1.keep hbt
      have mz := my.keep hbt
      have hbz := bStep hbn hbt
      have hmt := mz.lt
      go_upto_region 9 with fail
      clear by1 my hbn hbt
      generalize wy.heap.size = ub at *
      generalize World.alloc _ _ = wt at *
      cases r
      · have HZ : Hid (eachT 4 (l.take (k + 1)) = eachT 4 (l.take k)) := HNO.out rfl
        go_wp2_with fail
        go_roundw
        case rel => exact ⟨k + 1, M, by omega, by go_num, mz, (by rw [HZ.out]; exact HT.out), by omega, hbz⟩
        case measure => simp [intOf]; omega
      · have HZ : Hid (eachT 4 (l.take (k + 1)) = eachT 4 (l.take k) ++ [((K2, V2), D)]) := by show _ = _; rw [HYES.out rfl, HM.out]
        have hok : thOk (K2, V2) := by have := HIT.out; rw [HM.out] at this; exact this
        have hAk := HA.out (k + 1)
        rw [HZ.out, absum_append] at hAk
        obtain ⟨st, o1, o2, M', e1, e2, e3, hM', ht', hl2⟩ := MapIs.enter (mz.move (w1 := wt.drew) rfl) encT Try.underlying65 zeroI hok (tot M (K2, V2) + D)
        change (Instr.entryStore _ _ (.int .i64 (st : Int)) _).run _ _ = _ at e3
        have e0 := MapIs.look (mz.move (w1 := wt.drew) rfl) encT Try.underlying65 zeroI hok
        obtain ⟨y0, y1, y2⟩ := bz.three
        obtain ⟨t0, t1, _, _⟩ := bt0.two
        have hsum : -4611686018427387904 ≤ tot M (K2, V2) + D ∧ tot M (K2, V2) + D ≤ 4611686018427387904 := by
          have h1 := tot_abs (eachT 4 (l.take k)) (K2, V2)
          rw [← HT.out] at h1
          simp only [absum] at hAk
          have := absum_pos (eachT 4 (l.take k))
          omega
        have HN : Hid (∀ s, tot M' s = tot (eachT 4 (l.take (k + 1))) s) := fun s => by
          rw [ht', HZ.out, tot_snoc]
          by_cases e : (K2, V2) = s
          · rw [if_pos e, if_pos e, ← HT.out, e]
          · rw [if_neg e, if_neg e, HT.out]; omega
        clear ht' hAk
        obtain ⟨hs1', hs2'⟩ := hsum
        generalize hT : tot M (K2, V2) = T at *
        have hTT : Hid (tot M (K2, V2) = T) := hT
        clear hT
        have iw : IntKind.i64.wrap (T + D) = T + D := by rw [IntKind.wrap_i64]; omega
        go_upto_region 10 with fail
        go_region
        clear e0 e1 e2 e3
        have hb2 : Below w1.heap.size w1 (setBlock wt.drew w1.heap.size o2) := below_setBlock hbz.drew (Nat.le_refl _)
        generalize setBlock wt.drew w1.heap.size o2 = w7 at *
        go_wp2_with fail
        go_roundw
        case rel => exact ⟨k + 1, M', by omega, by go_num, hM', HN.out, by omega, hb2⟩
        case measure => simp [intOf]; omega
    · obtain rfl : k = l.length := by omega
      have HT2 : Hid (∀ s, tot M s = tot (eachT 4 l) s) := fun s => by rw [HT.out, List.take_length]
      have hbr := bStep hbw1 hb
      have hbrs := hbr.size
      clear HT
      go_wp2_with fail
      refine (itemsOf_k w1.heap.size wr hmap (by omega) HT2.out).mono ?_
      rintro e w8 ⟨o8, rfl, own8, hb8⟩
      have O8 : Hid (OwnI w8 wr.heap.size o8 (sumL ltT (eachT 4 l))) := own8
      clear own8
      go_wp2_with fail
      go_ret
      refine ⟨_, rfl, ?_, bStep hbr hb8⟩
      rw [HF.out]
      exact own_less O8.out hbrs
set_option maxHeartbeats 2000000 in
theorem wayOf_5 (w : World) : Calls Try.prog 65 #[.int .i64 5] w fun e w' => e = .returned (.tuple #[.func (.func 106) #[] #[], .bool true]) ∧ Below w.heap.size w w' := by
  go_enter Try.func65, Try.ntmps65
  go_wp2_with fail
  refine bodyPost_ret (by simp [results, Try.results65, go_sem]; try rfl) rfl ?_
  exact ⟨rfl, bAlloc (Below.refl _ _) _⟩
set_option maxRecDepth 100000 in
set_option maxHeartbeats 8000000 in
theorem implSetEach_5 (v : Value) (l : List It) (w : World) (h : Is w v l) :
    Calls Try.prog 30 #[v, .int .i64 5] w fun e w' => ∃ o : Value, e = .returned o ∧ OwnI w' w.heap.size o (eachS l 5) ∧ Below w.heap.size w w' := by
  cases hk : sokB l
  · have HF : Hid (eachS l 5 = []) := each_no1 hk
    go_enter Try.func30, Try.ntmps30
    go_wp2_with fail
    refine (wayOf_5 _).mono ?_
    rintro e w1 ⟨rfl, hb1⟩
    go_wp2_with fail
    refine (implSetOk_eq hk (h.keep hb1)).mono ?_
    rintro e w2 ⟨rfl, hb2⟩
    go_wp2_with fail
    go_ret
    refine ⟨_, rfl, ?_, bStep hb1 hb2⟩
    rw [HF.out]
    exact ownK_nil _ _ _ _ _
  have HF : Hid (eachS l 5 = sumL ltT (eachT 5 l)) := each_yes hk (by decide)
  have hl := sok_len hk
  have HK : Hid (∀ (k : Nat) (s : Int × Int) (d : Int), l[k]? = some (s, d) → itK s) := fun k s d hr => sok_k hk _ (List.mem_of_getElem? hr)
  have HA : Hid (∀ k : Nat, absum (eachT 5 (l.take k)) ≤ 439804651110400) := fun k => by have h1 := each_abs 5 (l.take k); have h2 := sok_take hk k; omega
  have hmm := @run_makeMap Try.prog
  go_enter Try.func30, Try.ntmps30
  go_wp2_with fail
  refine (wayOf_5 _).mono ?_
  rintro e w0 ⟨rfl, hb0⟩
  go_wp2_with fail
  refine (implSetOk_eq hk (h.keep hb0)).mono ?_
  rintro e w1 ⟨rfl, hb1⟩
  have hbw1 := bStep hb0 hb1
  have hs1 := hbw1.size
  obtain ⟨a, cap, rfl, hc, hm, hn, hcells⟩ := Is.open (h.keep hbw1)
  unfold maxLen at hm
  have HC := (show Hid _ from hcells)
  clear hcells h hk hb0 hb1
  have m0 : MapIs thV thOk (w1.alloc (.map #[] 0)) w1.heap.size [] := MapIs.new w1 rfl
  have hbm : Below w1.heap.size w1 (w1.alloc (.map #[] 0)) := bAlloc (Below.refl _ _) _
  go_wp2_with fail
  clear hmm
  go_loopw [27] (fun i wr => ∃ (k : Nat) (M : List It), k ≤ l.length ∧ i = .int .i64 k ∧ MapIs thV thOk wr w1.heap.size M ∧ (∀ s, tot M s = tot (eachT 5 (l.take k)) s) ∧ M.length ≤ k ∧ Below w1.heap.size w1 wr) (fun i _ => l.length - (intOf i).toNat)
  case atStart => exact ⟨0, [], by omega, rfl, m0, fun s => by simp [eachT], by simp, hbm⟩
  case round =>
    clear m0 hbm
    obtain ⟨k, M, hkl, rfl, hmap, htot, hML, hb⟩ := hrel
    have HT := (show Hid _ from htot)
    clear htot
    by_cases hlt : k < l.length
    · obtain ⟨g, off, K, V, D, rfl, hg, hr, c0, c1, c2⟩ := HC.out k hlt
      have hit := HK.out k _ _ hr
      have d0 := cell_below hb c0
      have d1 := cell_below hb c1
      have d2 := cell_below hb c2
      have HR := (show Hid _ from hr)
      have ik : ((k : Int) < (l.length : Int)) := by omega
      have bx := Bk.new (w := wr) #[.int .i64 K, .int .i64 V, .int .i64 D] 34 rfl
      have hbx0 : Below wr.heap.size wr (wr.alloc (.cells #[.int .i64 K, .int .i64 V, .int .i64 D] 34)) := bAlloc (Below.refl _ _) _
      have hbx := bStep hb hbx0
      have mx := hmap.keep hbx0
      obtain ⟨i1, i2, i3, i4⟩ := hit
      have HIT : Hid (thOk (wayM 5 (K, V))) := it_th (way_k ⟨i1, i2, i3, i4⟩)
      simp only at i1 i2 i3 i4
      clear c0 c1 c2 hr hmap hbx0 hb
      go_upto_region 8 with fail
      clear d0 d1 d2
      generalize wr.heap.size = tb at *
      generalize World.alloc _ _ = wx at *
      obtain ⟨q0, q1, q2⟩ := bx.three
      go_wp2_with fail
      refine (way5_any K V _ i1 i2 i3 i4).mono ?_
      rintro e wy ⟨rfl, hby⟩
      have by1 := bx.keep hby
      have my := mx.keep hby
      have hbn := bStep hbx hby
      have HM : Hid (wayM 5 (K, V) = ((wayM 5 (K, V)).1, (wayM 5 (K, V)).2)) := rfl
      have HYES : Hid (wayP 5 (K, V) = true → eachT 5 (l.take (k + 1)) = eachT 5 (l.take k) ++ [(wayM 5 (K, V), D)]) := fun hp => eachT_yes HR.out hp
      have HNO : Hid (wayP 5 (K, V) = false → eachT 5 (l.take (k + 1)) = eachT 5 (l.take k)) := fun hp => eachT_no HR.out hp
      clear q0 q1 q2 bx mx hbx hby
      generalize (wayM 5 (K, V)).1 = K2 at *
      generalize (wayM 5 (K, V)).2 = V2 at *
      generalize hP : wayP 5 (K, V) = r at *
      clear hP
      have bt0 := Bk.new (w := wy) #[.int .i64 K2, .int .i64 V2] 69 rfl
      have hbt : Below wy.heap.size wy (wy.alloc (.cells #[.int .i64 K2, .int .i64 V2] 69)) := bAlloc (Below.refl _ _) _
      have bz := by1.keep hbt
      have mz := my.keep hbt
      have hbz := bStep hbn hbt
      have hmt := mz.lt
      go_upto_region 9 with fail
      clear by1 my hbn hbt
      generalize wy.heap.size = ub at *
      generalize World.alloc _ _ = wt at *
      cases r
      · have HZ : Hid (eachT 5 (l.take (k + 1)) = eachT 5 (l.take k)) := HNO.out rfl
        go_wp2_with fail
        go_roundw
        case rel => exact ⟨k + 1, M, by omega, by go_num, mz, (by rw [HZ.out]; exact HT.out), by omega, hbz⟩
        case measure => simp [intOf]; omega
      · have HZ : Hid (eachT 5 (l.take (k + 1)) = eachT 5 (l.take k) ++ [((K2, V2), D)]) := by show _ = _; rw [HYES.out rfl, HM.out]
        have hok : thOk (K2, V2) := by have := HIT.out; rw [HM.out] at this; exact this
        have hAk := HA.out (k + 1)
        rw [HZ.out, absum_append] at hAk
        obtain ⟨st, o1, o2, M', e1, e2, e3, hM', ht', hl2⟩ := MapIs.enter (mz.move (w1 := wt.drew) rfl) encT Try.underlying65 zeroI hok (tot M (K2, V2) + D)
        change (Instr.entryStore _ _ (.int .i64 (st : Int)) _).run _ _ = _ at e3
        have e0 := MapIs.look (mz.move (w1 := wt.drew) rfl) encT Try.underlying65 zeroI hok
        obtain ⟨y0, y1, y2⟩ := bz.three
        obtain ⟨t0, t1, _, _⟩ := bt0.two
        have hsum : -4611686018427387904 ≤ tot M (K2, V2) + D ∧ tot M (K2, V2) + D ≤ 4611686018427387904 := by
          have h1 := tot_abs (eachT 5 (l.take k)) (K2, V2)
          rw [← HT.out] at h1
          simp only [absum] at hAk
          have := absum_pos (eachT 5 (l.take k))
          omega
        have HN : Hid (∀ s, tot M' s = tot (eachT 5 (l.take (k + 1))) s) := fun s => by
          rw [ht', HZ.out, tot_snoc]
          by_cases e : (K2, V2) = s
          · rw [if_pos e, if_pos e, ← HT.out, e]
          · rw [if_neg e, if_neg e, HT.out]; omega
        clear ht' hAk
        obtain ⟨hs1', hs2'⟩ := hsum
        generalize hT : tot M (K2, V2) = T at *
        have hTT : Hid (tot M (K2, V2) = T) := hT
        clear hT
        have iw : IntKind.i64.wrap (T + D) = T + D := by rw [IntKind.wrap_i64]; omega
        go_upto_region 10 with fail
        go_region
        clear e0 e1 e2 e3
        have hb2 : Below w1.heap.size w1 (setBlock wt.drew w1.heap.size o2) := below_setBlock hbz.drew (Nat.le_refl _)
        generalize setBlock wt.drew w1.heap.size o2 = w7 at *
        go_wp2_with fail
        go_roundw
        case rel => exact ⟨k + 1, M', by omega, by go_num, hM', HN.out, by omega, hb2⟩
        case measure => simp [intOf]; omega
    · obtain rfl : k = l.length := by omega
      have HT2 : Hid (∀ s, tot M s = tot (eachT 5 l) s) := fun s => by rw [HT.out, List.take_length]
      have hbr := bStep hbw1 hb
      have hbrs := hbr.size
      clear HT
      go_wp2_with fail
      refine (itemsOf_k w1.heap.size wr hmap (by omega) HT2.out).mono ?_
      rintro e w8 ⟨o8, rfl, own8, hb8⟩
      have O8 : Hid (OwnI w8 wr.heap.size o8 (sumL ltT (eachT 5 l))) := own8
      clear own8
      go_wp2_with fail
      go_ret
      refine ⟨_, rfl, ?_, bStep hbr hb8⟩
      rw [HF.out]
      exact own_less O8.out hbrs
set_option maxHeartbeats 2000000 in
theorem wayOf_6 (w : World) : Calls Try.prog 65 #[.int .i64 6] w fun e w' => e = .returned (.tuple #[.func (.func 107) #[] #[], .bool true]) ∧ Below w.heap.size w w' := by
  go_enter Try.func65, Try.ntmps65
  go_wp2_with fail
  refine bodyPost_ret (by simp [results, Try.results65, go_sem]; try rfl) rfl ?_
  exact ⟨rfl, bAlloc (Below.refl _ _) _⟩
set_option maxRecDepth 100000 in
set_option maxHeartbeats 8000000 in
theorem implSetEach_6 (v : Value) (l : List It) (w : World) (h : Is w v l) :
    Calls Try.prog 30 #[v, .int .i64 6] w fun e w' => ∃ o : Value, e = .returned o ∧ OwnI w' w.heap.size o (eachS l 6) ∧ Below w.heap.size w w' := by
  cases hk : sokB l
  · have HF : Hid (eachS l 6 = []) := each_no1 hk
    go_enter Try.func30, Try.ntmps30
    go_wp2_with fail
    refine (wayOf_6 _).mono ?_
    rintro e w1 ⟨rfl, hb1⟩
    go_wp2_with fail
    refine (implSetOk_eq hk (h.keep hb1)).mono ?_
    rintro e w2 ⟨rfl, hb2⟩
    go_wp2_with fail
    go_ret
    refine ⟨_, rfl, ?_, bStep hb1 hb2⟩
    rw [HF.out]
    exact ownK_nil _ _ _ _ _
  have HF : Hid (eachS l 6 = sumL ltT (eachT 6 l)) := each_yes hk (by decide)
  have hl := sok_len hk
  have HK : Hid (∀ (k : Nat) (s : Int × Int) (d : Int), l[k]? = some (s, d) → itK s) := fun k s d hr => sok_k hk _ (List.mem_of_getElem? hr)
  have HA : Hid (∀ k : Nat, absum (eachT 6 (l.take k)) ≤ 439804651110400) := fun k => by have h1 := each_abs 6 (l.take k); have h2 := sok_take hk k; omega
  have hmm := @run_makeMap Try.prog
  go_enter Try.func30, Try.ntmps30
  go_wp2_with fail
  refine (wayOf_6 _).mono ?_
  rintro e w0 ⟨rfl, hb0⟩
  go_wp2_with fail
  refine (implSetOk_eq hk (h.keep hb0)).mono ?_
  rintro e w1 ⟨rfl, hb1⟩
  have hbw1 := bStep hb0 hb1
  have hs1 := hbw1.size
  obtain ⟨a, cap, rfl, hc, hm, hn, hcells⟩ := Is.open (h.keep hbw1)
  unfold maxLen at hm
  have HC := (show Hid _ from hcells)
  clear hcells h hk hb0 hb1
  have m0 : MapIs thV thOk (w1.alloc (.map #[] 0)) w1.heap.size [] := MapIs.new w1 rfl
  have hbm : Below w1.heap.size w1 (w1.alloc (.map #[] 0)) := bAlloc (Below.refl _ _) _
  go_wp2_with fail
  clear hmm
  go_loopw [27] (fun i wr => ∃ (k : Nat) (M : List It), k ≤ l.length ∧ i = .int .i64 k ∧ MapIs thV thOk wr w1.heap.size M ∧ (∀ s, tot M s = tot (eachT 6 (l.take k)) s) ∧ M.length ≤ k ∧ Below w1.heap.size w1 wr) (fun i _ => l.length - (intOf i).toNat)
  case atStart => exact ⟨0, [], by omega, rfl, m0, fun s => by simp [eachT], by simp, hbm⟩
  case round =>
    clear m0 hbm
    obtain ⟨k, M, hkl, rfl, hmap, htot, hML, hb⟩ := hrel
    have HT := (show Hid _ from htot)
    clear htot
    by_cases hlt : k < l.length
    · obtain ⟨g, off, K, V, D, rfl, hg, hr, c0, c1, c2⟩ := HC.out k hlt
      have hit := HK.out k _ _ hr
      have d0 := cell_below hb c0
      have d1 := cell_below hb c1
      have d2 := cell_below hb c2
      have HR := (show Hid _ from hr)
      have ik : ((k : Int) < (l.length : Int)) := by omega
      have bx := Bk.new (w := wr) #[.int .i64 K, .int .i64 V, .int .i64 D] 34 rfl
      have hbx0 : Below wr.heap.size wr (wr.alloc (.cells #[.int .i64 K, .int .i64 V, .int .i64 D] 34)) := bAlloc (Below.refl _ _) _
      have hbx := bStep hb hbx0
      have mx := hmap.keep hbx0
      obtain ⟨i1, i2, i3, i4⟩ := hit
      have HIT : Hid (thOk (wayM 6 (K, V))) := it_th (way_k ⟨i1, i2, i3, i4⟩)
      simp only at i1 i2 i3 i4
      clear c0 c1 c2 hr hmap hbx0 hb
      go_upto_region 8 with fail
      clear d0 d1 d2
      generalize wr.heap.size = tb at *
      generalize World.alloc _ _ = wx at *
      obtain ⟨q0, q1, q2⟩ := bx.three
      go_wp2_with fail
      refine (way6_any K V _ i1 i2 i3 i4).mono ?_
      rintro e wy ⟨rfl, hby⟩
      have by1 := bx.keep hby
      have my := mx.keep hby
      have hbn := bStep hbx hby
      have HM : Hid (wayM 6 (K, V) = ((wayM 6 (K, V)).1, (wayM 6 (K, V)).2)) := rfl
      have HYES : Hid (wayP 6 (K, V) = true → eachT 6 (l.take (k + 1)) = eachT 6 (l.take k) ++ [(wayM 6 (K, V), D)]) := fun hp => eachT_yes HR.out hp
      have HNO : Hid (wayP 6 (K, V) = false → eachT 6 (l.take (k + 1)) = eachT 6 (l.take k)) := fun hp => eachT_no HR.out hp
      clear q0 q1 q2 bx mx hbx hby
      generalize (wayM 6 (K, V)).1 = K2 at *
      generalize (wayM 6 (K, V)).2 = V2 at *
      generalize hP : wayP 6 (K, V) = r at *
      clear hP
      have bt0 := Bk.new (w := wy) #[.int .i64 K2, .int .i64 V2] 69 rfl
      have hbt : Below wy.heap.size wy (wy.alloc (.cells #[.int .i64 K2, .int .i64 V2] 69)) := bAlloc (Below.refl _ _) _
      have bz := by1.keep hbt
      have mz := my.keep hbt
      have hbz := bStep hbn hbt
      have hmt := mz.lt
      go_upto_region 9 with fail
      clear by1 my hbn hbt
      generalize wy.heap.size = ub at *
      generalize World.alloc _ _ = wt at *
      cases r
      · have HZ : Hid (eachT 6 (l.take (k + 1)) = eachT 6 (l.take k)) := HNO.out rfl
        go_wp2_with fail
        go_roundw
        case rel => exact ⟨k + 1, M, by omega, by go_num, mz, (by rw [HZ.out]; exact HT.out), by omega, hbz⟩
        case measure => simp [intOf]; omega
      · have HZ : Hid (eachT 6 (l.take (k + 1)) = eachT 6 (l.take k) ++ [((K2, V2), D)]) := by show _ = _; rw [HYES.out rfl, HM.out]
        have hok : thOk (K2, V2) := by have := HIT.out; rw [HM.out] at this; exact this
        have hAk := HA.out (k + 1)
        rw [HZ.out, absum_append] at hAk
        obtain ⟨st, o1, o2, M', e1, e2, e3, hM', ht', hl2⟩ := MapIs.enter (mz.move (w1 := wt.drew) rfl) encT Try.underlying65 zeroI hok (tot M (K2, V2) + D)
        change (Instr.entryStore _ _ (.int .i64 (st : Int)) _).run _ _ = _ at e3
        have e0 := MapIs.look (mz.move (w1 := wt.drew) rfl) encT Try.underlying65 zeroI hok
        obtain ⟨y0, y1, y2⟩ := bz.three
        obtain ⟨t0, t1, _, _⟩ := bt0.two
        have hsum : -4611686018427387904 ≤ tot M (K2, V2) + D ∧ tot M (K2, V2) + D ≤ 4611686018427387904 := by
          have h1 := tot_abs (eachT 6 (l.take k)) (K2, V2)
          rw [← HT.out] at h1
          simp only [absum] at hAk
          have := absum_pos (eachT 6 (l.take k))
          omega
        have HN : Hid (∀ s, tot M' s = tot (eachT 6 (l.take (k + 1))) s) := fun s => by
          rw [ht', HZ.out, tot_snoc]
          by_cases e : (K2, V2) = s
          · rw [if_pos e, if_pos e, ← HT.out, e]
          · rw [if_neg e, if_neg e, HT.out]; omega
        clear ht' hAk
        obtain ⟨hs1', hs2'⟩ := hsum
        generalize hT : tot M (K2, V2) = T at *
        have hTT : Hid (tot M (K2, V2) = T) := hT
        clear hT
        have iw : IntKind.i64.wrap (T + D) = T + D := by rw [IntKind.wrap_i64]; omega
        go_upto_region 10 with fail
        go_region
        clear e0 e1 e2 e3
        have hb2 : Below w1.heap.size w1 (setBlock wt.drew w1.heap.size o2) := below_setBlock hbz.drew (Nat.le_refl _)
        generalize setBlock wt.drew w1.heap.size o2 = w7 at *
        go_wp2_with fail
        go_roundw
        case rel => exact ⟨k + 1, M', by omega, by go_num, hM', HN.out, by omega, hb2⟩
        case measure => simp [intOf]; omega
    · obtain rfl : k = l.length := by omega
      have HT2 : Hid (∀ s, tot M s = tot (eachT 6 l) s) := fun s => by rw [HT.out, List.take_length]
      have hbr := bStep hbw1 hb
      have hbrs := hbr.size
      clear HT
      go_wp2_with fail
      refine (itemsOf_k w1.heap.size wr hmap (by omega) HT2.out).mono ?_
      rintro e w8 ⟨o8, rfl, own8, hb8⟩
      have O8 : Hid (OwnI w8 wr.heap.size o8 (sumL ltT (eachT 6 l))) := own8
      clear own8
      go_wp2_with fail
      go_ret
      refine ⟨_, rfl, ?_, bStep hbr hb8⟩
      rw [HF.out]
      exact own_less O8.out hbrs
set_option maxHeartbeats 2000000 in
theorem wayOf_7 (w : World) : Calls Try.prog 65 #[.int .i64 7] w fun e w' => e = .returned (.tuple #[.func (.func 108) #[] #[], .bool true]) ∧ Below w.heap.size w w' := by
  go_enter Try.func65, Try.ntmps65
  go_wp2_with fail
  refine bodyPost_ret (by simp [results, Try.results65, go_sem]; try rfl) rfl ?_
  exact ⟨rfl, bAlloc (Below.refl _ _) _⟩
set_option maxRecDepth 100000 in
set_option maxHeartbeats 8000000 in
theorem implSetEach_7 (v : Value) (l : List It) (w : World) (h : Is w v l) :
    Calls Try.prog 30 #[v, .int .i64 7] w fun e w' => ∃ o : Value, e = .returned o ∧ OwnI w' w.heap.size o (eachS l 7) ∧ Below w.heap.size w w' := by
  cases hk : sokB l
  · have HF : Hid (eachS l 7 = []) := each_no1 hk
    go_enter Try.func30, Try.ntmps30
    go_wp2_with fail
    refine (wayOf_7 _).mono ?_
    rintro e w1 ⟨rfl, hb1⟩
    go_wp2_with fail
    refine (implSetOk_eq hk (h.keep hb1)).mono ?_
    rintro e w2 ⟨rfl, hb2⟩
    go_wp2_with fail
    go_ret
    refine ⟨_, rfl, ?_, bStep hb1 hb2⟩
    rw [HF.out]
    exact ownK_nil _ _ _ _ _
  have HF : Hid (eachS l 7 = sumL ltT (eachT 7 l)) := each_yes hk (by decide)
  have hl := sok_len hk
  have HK : Hid (∀ (k : Nat) (s : Int × Int) (d : Int), l[k]? = some (s, d) → itK s) := fun k s d hr => sok_k hk _ (List.mem_of_getElem? hr)
  have HA : Hid (∀ k : Nat, absum (eachT 7 (l.take k)) ≤ 439804651110400) := fun k => by have h1 := each_abs 7 (l.take k); have h2 := sok_take hk k; omega
  have hmm := @run_makeMap Try.prog
  go_enter Try.func30, Try.ntmps30
  go_wp2_with fail
  refine (wayOf_7 _).mono ?_
  rintro e w0 ⟨rfl, hb0⟩
  go_wp2_with fail
  refine (implSetOk_eq hk (h.keep hb0)).mono ?_
  rintro e w1 ⟨rfl, hb1⟩
  have hbw1 := bStep hb0 hb1
  have hs1 := hbw1.size
  obtain ⟨a, cap, rfl, hc, hm, hn, hcells⟩ := Is.open (h.keep hbw1)
  unfold maxLen at hm
  have HC := (show Hid _ from hcells)
  clear hcells h hk hb0 hb1
  have m0 : MapIs thV thOk (w1.alloc (.map #[] 0)) w1.heap.size [] := MapIs.new w1 rfl
  have hbm : Below w1.heap.size w1 (w1.alloc (.map #[] 0)) := bAlloc (Below.refl _ _) _
  go_wp2_with fail
  clear hmm
  go_loopw [27] (fun i wr => ∃ (k : Nat) (M : List It), k ≤ l.length ∧ i = .int .i64 k ∧ MapIs thV thOk wr w1.heap.size M ∧ (∀ s, tot M s = tot (eachT 7 (l.take k)) s) ∧ M.length ≤ k ∧ Below w1.heap.size w1 wr) (fun i _ => l.length - (intOf i).toNat)
  case atStart => exact ⟨0, [], by omega, rfl, m0, fun s => by simp [eachT], by simp, hbm⟩
  case round =>
    clear m0 hbm
    obtain ⟨k, M, hkl, rfl, hmap, htot, hML, hb⟩ := hrel
    have HT := (show Hid _ from htot)
    clear htot
    by_cases hlt : k < l.length
    · obtain ⟨g, off, K, V, D, rfl, hg, hr, c0, c1, c2⟩ := HC.out k hlt
      have hit := HK.out k _ _ hr
      have d0 := cell_below hb c0
      have d1 := cell_below hb c1
      have d2 := cell_below hb c2
      have HR := (show Hid _ from hr)
      have ik : ((k : Int) < (l.length : Int)) := by omega
      have bx := Bk.new (w := wr) #[.int .i64 K, .int .i64 V, .int .i64 D] 34 rfl
      have hbx0 : Below wr.heap.size wr (wr.alloc (.cells #[.int .i64 K, .int .i64 V, .int .i64 D] 34)) := bAlloc (Below.refl _ _) _
      have hbx := bStep hb hbx0
      have mx := hmap.keep hbx0
      obtain ⟨i1, i2, i3, i4⟩ := hit
      have HIT : Hid (thOk (wayM 7 (K, V))) := it_th (way_k ⟨i1, i2, i3, i4⟩)
      simp only at i1 i2 i3 i4
      clear c0 c1 c2 hr hmap hbx0 hb
      go_upto_region 8 with fail
      clear d0 d1 d2
      generalize wr.heap.size = tb at *
      generalize World.alloc _ _ = wx at *
      obtain ⟨q0, q1, q2⟩ := bx.three
      go_wp2_with fail
      refine (way7_any K V _ i1 i2 i3 i4).mono ?_
      rintro e wy ⟨rfl, hby⟩
      have by1 := bx.keep hby
      have my := mx.keep hby
      have hbn := bStep hbx hby
      have HM : Hid (wayM 7 (K, V) = ((wayM 7 (K, V)).1, (wayM 7 (K, V)).2)) := rfl
      have HYES : Hid (wayP 7 (K, V) = true → eachT 7 (l.take (k + 1)) = eachT 7 (l.take k) ++ [(wayM 7 (K, V), D)]) := fun hp => eachT_yes HR.out hp
      have HNO : Hid (wayP 7 (K, V) = false → eachT 7 (l.take (k + 1)) = eachT 7 (l.take k)) := fun hp => eachT_no HR.out hp
      clear q0 q1 q2 bx mx hbx hby
      generalize (wayM 7 (K, V)).1 = K2 at *
      generalize (wayM 7 (K, V)).2 = V2 at *
      generalize hP : wayP 7 (K, V) = r at *
      clear hP
      have bt0 := Bk.new (w := wy) #[.int .i64 K2, .int .i64 V2] 69 rfl
      have hbt : Below wy.heap.size wy (wy.alloc (.cells #[.int .i64 K2, .int .i64 V2] 69)) := bAlloc (Below.refl _ _) _
      have bz := by1.keep hbt
      have mz := my.keep hbt
      have hbz := bStep hbn hbt
      have hmt := mz.lt
      go_upto_region 9 with fail
      clear by1 my hbn hbt
      generalize wy.heap.size = ub at *
      generalize World.alloc _ _ = wt at *
      cases r
      · have HZ : Hid (eachT 7 (l.take (k + 1)) = eachT 7 (l.take k)) := HNO.out rfl
        go_wp2_with fail
        go_roundw
        case rel => exact ⟨k + 1, M, by omega, by go_num, mz, (by rw [HZ.out]; exact HT.out), by omega, hbz⟩
        case measure => simp [intOf]; omega
      · have HZ : Hid (eachT 7 (l.take (k + 1)) = eachT 7 (l.take k) ++ [((K2, V2), D)]) := by show _ = _; rw [HYES.out rfl, HM.out]
        have hok : thOk (K2, V2) := by have := HIT.out; rw [HM.out] at this; exact this
        have hAk := HA.out (k + 1)
        rw [HZ.out, absum_append] at hAk
        obtain ⟨st, o1, o2, M', e1, e2, e3, hM', ht', hl2⟩ := MapIs.enter (mz.move (w1 := wt.drew) rfl) encT Try.underlying65 zeroI hok (tot M (K2, V2) + D)
        change (Instr.entryStore _ _ (.int .i64 (st : Int)) _).run _ _ = _ at e3
        have e0 := MapIs.look (mz.move (w1 := wt.drew) rfl) encT Try.underlying65 zeroI hok
        obtain ⟨y0, y1, y2⟩ := bz.three
        obtain ⟨t0, t1, _, _⟩ := bt0.two
        have hsum : -4611686018427387904 ≤ tot M (K2, V2) + D ∧ tot M (K2, V2) + D ≤ 4611686018427387904 := by
          have h1 := tot_abs (eachT 7 (l.take k)) (K2, V2)
          rw [← HT.out] at h1
          simp only [absum] at hAk
          have := absum_pos (eachT 7 (l.take k))
          omega
        have HN : Hid (∀ s, tot M' s = tot (eachT 7 (l.take (k + 1))) s) := fun s => by
          rw [ht', HZ.out, tot_snoc]
          by_cases e : (K2, V2) = s
          · rw [if_pos e, if_pos e, ← HT.out, e]
          · rw [if_neg e, if_neg e, HT.out]; omega
        clear ht' hAk
        obtain ⟨hs1', hs2'⟩ := hsum
        generalize hT : tot M (K2, V2) = T at *
        have hTT : Hid (tot M (K2, V2) = T) := hT
        clear hT
        have iw : IntKind.i64.wrap (T + D) = T + D := by rw [IntKind.wrap_i64]; omega
        go_upto_region 10 with fail
        go_region
        clear e0 e1 e2 e3
        have hb2 : Below w1.heap.size w1 (setBlock wt.drew w1.heap.size o2) := below_setBlock hbz.drew (Nat.le_refl _)
        generalize setBlock wt.drew w1.heap.size o2 = w7 at *
        go_wp2_with fail
        go_roundw
        case rel => exact ⟨k + 1, M', by omega, by go_num, hM', HN.out, by omega, hb2⟩
        case measure => simp [intOf]; omega
    · obtain rfl : k = l.length := by omega
      have HT2 : Hid (∀ s, tot M s = tot (eachT 7 l) s) := fun s => by rw [HT.out, List.take_length]
      have hbr := bStep hbw1 hb
      have hbrs := hbr.size
      clear HT
      go_wp2_with fail
      refine (itemsOf_k w1.heap.size wr hmap (by omega) HT2.out).mono ?_
      rintro e w8 ⟨o8, rfl, own8, hb8⟩
      have O8 : Hid (OwnI w8 wr.heap.size o8 (sumL ltT (eachT 7 l))) := own8
      clear own8
      go_wp2_with fail
      go_ret
      refine ⟨_, rfl, ?_, bStep hbr hb8⟩
      rw [HF.out]
      exact own_less O8.out hbrs
set_option maxHeartbeats 2000000 in
theorem wayOf_no (how : Int) (h : how < 1 ∨ 8 ≤ how) (w : World) : Calls Try.prog 65 #[.int .i64 how] w fun e w' => (∃ z, e = .returned (.tuple #[z, .bool false])) ∧ Below w.heap.size w w' := by
  by_cases h1 : how < 1
  · go_enter Try.func65, Try.ntmps65
    go_wp2_with fail
    refine bodyPost_ret (by simp [results, Try.results65, go_sem]; try rfl) rfl ?_
    exact ⟨⟨_, rfl⟩, bAlloc (Below.refl _ _) _⟩
  · have h2 : 8 ≤ how := by omega
    go_enter Try.func65, Try.ntmps65
    go_wp2_with fail
    refine bodyPost_ret (by simp [results, Try.results65, go_sem]; try rfl) rfl ?_
    exact ⟨⟨_, rfl⟩, bAlloc (Below.refl _ _) _⟩
set_option maxHeartbeats 2000000 in
theorem implSetEach_any (v : Value) (l : List It) (how : Int) (w : World) (h : Is w v l) :
    Calls Try.prog 30 #[v, .int .i64 how] w fun e w' => ∃ o : Value, e = .returned o ∧ OwnI w' w.heap.size o (eachS l how) ∧ Below w.heap.size w w' := by
  by_cases hw : how < 1 ∨ 8 ≤ how
  · have HF : Hid (eachS l how = []) := each_no2 (by simp [inB]; omega)
    go_enter Try.func30, Try.ntmps30
    go_wp2_with fail
    refine (wayOf_no how hw _).mono ?_
    rintro e w1 ⟨⟨z, rfl⟩, hb1⟩
    go_wp2_with fail
    go_ret
    refine ⟨_, rfl, ?_, hb1⟩
    rw [HF.out]
    exact ownK_nil _ _ _ _ _
  · obtain rfl | rfl | rfl | rfl | rfl | rfl | rfl : how = 1 ∨ how = 2 ∨ how = 3 ∨ how = 4 ∨ how = 5 ∨ how = 6 ∨ how = 7 := by omega
    · exact implSetEach_1 v l w h
    · exact implSetEach_2 v l w h
    · exact implSetEach_3 v l w h
    · exact implSetEach_4 v l w h
    · exact implSetEach_5 v l w h
    · exact implSetEach_6 v l w h
    · exact implSetEach_7 v l w h
end Go.Proofs.Ytlddhfimiignaaa
