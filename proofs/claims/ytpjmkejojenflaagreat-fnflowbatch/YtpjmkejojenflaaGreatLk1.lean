/- What lacks at a time of all that was told: the contract. -/
import Derived.Test.YtpjmkejojenflaaGreatLk0
import Derived.Test.YtpjmkejojenflaaGreatGs7
import Derived.Test.YtpjmkejojenflaaGreatGtX
import Derived.BigRegionIn
import Derived.Sort.CutIn
namespace Go.Proofs.YtpjmkejojenflaaGreat
open Go.RowKit Go.Shelf
open Go.ChangeMaps (setBlock)
attribute [local go_sem] Oper.semAt_some

/-- What lacks: what is there, less all that was told by then. -/
def lackL (C : List Rw) (X Y : Int) (I : List It) : List It := sumL ltT (I ++ negI (atL C X Y))
set_option maxRecDepth 100000 in
set_option maxHeartbeats 16000000 in
theorem lacking_in (a : Option Addr) (cap : Nat) (C : List Rw) (X Y : Int) (u : Value) (I : List It) (w : World) (h : Rs w (.slice a C.length cap) C) (hC : ∀ r ∈ C, rwOkB r = true) (hCl : C.length ≤ 110000) (hI : Is w u I) (hIl : I.length ≤ 400) (hIa : absum I ≤ 1000000) (hIk : ∀ r ∈ I, itK r.1) :
    CallsIn Fence.wide 4 Tryz.prog 126 #[.slice a C.length cap, tv X Y, u] w fun e w' => ∃ o : Value, e = .returned o ∧ OwnR w' w.heap.size o (stamp (X, Y) (lackL C X Y I)) ∧ Below w.heap.size w w' := by
  have HH : Hid (Rs w (.slice a C.length cap) C) := h
  have HIA : Hid (absum I ≤ 1000000) := hIa
  have HIK : Hid (∀ r ∈ I, itK r.1) := hIk
  obtain ⟨aI, cI, rfl, hcI, hmI, hnI, hcellI⟩ := Is.open hI
  unfold maxLen at hmI
  have HCI := (show Hid _ from hcellI)
  have hal := atL_len C X Y
  have hmm := @run_makeMap Tryz.prog
  clear h hI hIa hIk hcellI
  have m0 : MapIs thV thOk (((w.alloc (.cells #[.int .i64 X, .int .i64 Y] 35)).alloc (.map #[] 0)).alloc (.cells #[.map (some (w.heap.size + 1))] 71)) (w.heap.size + 1) [] := (MapIs.new (w.alloc _) (by simp)).keep (bAlloc (Below.refl _ _) _)
  have bc0 : Bk (((w.alloc (.cells #[.int .i64 X, .int .i64 Y] 35)).alloc (.map #[] 0)).alloc (.cells #[.map (some (w.heap.size + 1))] 71)) (w.heap.size + 1 + 1) #[.map (some (w.heap.size + 1))] 71 := Bk.new (w := (w.alloc _).alloc _) _ _ (by simp)
  have bt0 : Bk (((w.alloc (.cells #[.int .i64 X, .int .i64 Y] 35)).alloc (.map #[] 0)).alloc (.cells #[.map (some (w.heap.size + 1))] 71)) w.heap.size #[.int .i64 X, .int .i64 Y] 35 := ((Bk.new (w := w) _ _ rfl).alloc _).alloc _
  have hb0 : Below w.heap.size w (((w.alloc (.cells #[.int .i64 X, .int .i64 Y] 35)).alloc (.map #[] 0)).alloc (.cells #[.map (some (w.heap.size + 1))] 71)) := bAlloc (bAlloc (bAlloc (Below.refl _ _) _) _) _
  refine callsIn_of_wp_marks Tryz.func126 rfl trivial ?_ rfl
  simp only [Tryz.ntmps126, List.size_toArray, List.length_cons, List.length_nil, Nat.reduceAdd, Nat.reduceSub, Array.replicate_succ, Array.replicate_zero, List.push_toArray, List.append_toArray, List.nil_append, List.cons_append]
  gi_wp2
  clear hmm
  gi_loopw [18] (fun i wr => ∃ (k : Nat) (M : List It), k ≤ I.length ∧ i = .int .i64 k ∧ MapIs thV thOk wr (w.heap.size + 1) M ∧ (∀ s, tot M s = tot (I.take k) s) ∧ M.length ≤ k ∧ Bk wr (w.heap.size + 1 + 1) #[.map (some (w.heap.size + 1))] 71 ∧ Bk wr w.heap.size #[.int .i64 X, .int .i64 Y] 35 ∧ Below w.heap.size w wr) (fun i _ => I.length - (intOf i).toNat)
  case atStart => exact ⟨0, [], by omega, rfl, m0, fun s => rfl, by simp, bc0, bt0, hb0⟩
  case round =>
    clear m0 bc0 bt0 hb0
    obtain ⟨k, M, hkl, rfl, hmap, htot, hML, bc, bt, hb⟩ := hrel
    have HT := (show Hid (∀ s, tot M s = tot (I.take k) s) from htot)
    clear htot
    by_cases hlt : k < I.length
    · obtain ⟨g, off, K, V, D, rfl, hg, hr, c0, c1, c2⟩ := HCI.out k hlt
      have d0 := cell_below hb c0
      have d1 := cell_below hb c1
      have d2 := cell_below hb c2
      have HR := (show Hid (I[k]? = some ((K, V), D)) from hr)
      have hok : thOk (K, V) := it_th (HIK.out _ (List.mem_of_getElem? hr))
      have ik : ((k : Int) < (I.length : Int)) := by omega
      have bx := Bk.new (w := wr) #[.int .i64 K, .int .i64 V, .int .i64 D] 69 rfl
      have hbx : Below wr.heap.size wr (wr.alloc (.cells #[.int .i64 K, .int .i64 V, .int .i64 D] 69)) := bAlloc (Below.refl _ _) _
      have hmap' := hmap.keep hbx
      have bc' := bc.keep hbx
      have bt' := bt.keep hbx
      have hb' := bStep hb hbx
      have cM := bc'.cell (i := 0) (v := .map (some (w.heap.size + 1))) rfl
      have hmt := hmap.lt
      clear c0 c1 c2 hr
      gi_upto_region 5 with fail
      clear d0 d1 d2 hmap hb hbx bc bt
      generalize wr.heap.size = tb at *
      generalize (wr.alloc (.cells #[.int .i64 K, .int .i64 V, .int .i64 D] 69)) = wt at *
      obtain ⟨st, o1, o2, M', e1, e2, e3, hM', ht', hl2⟩ := MapIs.enter (hmap'.move (w1 := wt.drew) rfl) encT Tryz.underlying71 zeroI hok (tot M (K, V) + D)
      change (Instr.entryStore _ _ (.int .i64 (st : Int)) _).run _ _ = _ at e3
      have e0 := MapIs.look (hmap'.move (w1 := wt.drew) rfl) encT Tryz.underlying71 zeroI hok
      obtain ⟨y0, y1, y2⟩ := bx.three
      have hsum : -4611686018427387904 ≤ tot M (K, V) + D ∧ tot M (K, V) + D ≤ 4611686018427387904 := by
        have h1 := tot_abs (I.take (k + 1)) (K, V)
        rw [take_snoc HR.out, tot_snoc, if_pos rfl, ← HT.out] at h1
        have h2 := absum_take I (k + 1)
        rw [take_snoc HR.out] at h2
        have := HIA.out
        omega
      have HN : Hid (∀ s, tot M' s = tot (I.take (k + 1)) s) := fun s => by
        rw [ht', take_snoc HR.out, tot_snoc]
        by_cases e : (K, V) = s
        · rw [if_pos e, if_pos e, ← HT.out, e]
        · rw [if_neg e, if_neg e, HT.out]; omega
      clear ht'
      obtain ⟨hs1, hs2'⟩ := hsum
      generalize hTT : tot M (K, V) = T at *
      clear hTT
      have iw : IntKind.i64.wrap (T + D) = T + D := by rw [IntKind.wrap_i64]; omega
      have hb2 : Below w.heap.size w (setBlock wt.drew (w.heap.size + 1) o2) := below_setBlock hb'.drew (by omega)
      have bc2 : Bk (setBlock wt.drew (w.heap.size + 1) o2) (w.heap.size + 1 + 1) #[.map (some (w.heap.size + 1))] 71 := by unfold Bk; rw [setBlock_at (by omega)]; exact bc'
      have bt2 : Bk (setBlock wt.drew (w.heap.size + 1) o2) w.heap.size #[.int .i64 X, .int .i64 Y] 35 := by unfold Bk; rw [setBlock_at (by omega)]; exact bt'
      have FIN := (show Hid (MapIs thV thOk (setBlock wt.drew (w.heap.size + 1) o2) (w.heap.size + 1) M' ∧ M'.length ≤ k + 1 ∧ Bk (setBlock wt.drew (w.heap.size + 1) o2) (w.heap.size + 1 + 1) #[.map (some (w.heap.size + 1))] 71 ∧ Bk (setBlock wt.drew (w.heap.size + 1) o2) w.heap.size #[.int .i64 X, .int .i64 Y] 35 ∧ Below w.heap.size w (setBlock wt.drew (w.heap.size + 1) o2)) from ⟨hM', by omega, bc2, bt2, hb2⟩)
      clear hM' hmap' hl2 bx bc' bt' hb' hb2 bc2 bt2
      have hmix : Tryz.prog.follows .mixedOrders = true := by kernel_rfl
      gi_region
      all_goals
        clear e0 e1 e2 e3
        generalize setBlock wt.drew (w.heap.size + 1) o2 = w2 at *
        gi_wp2
        exact ⟨⟨k + 1, M', by omega, by go_num, FIN.out.1, HN.out, FIN.out.2.1, FIN.out.2.2.1, FIN.out.2.2.2.1, FIN.out.2.2.2.2⟩, by simp [intOf]; omega⟩
    · obtain rfl : k = I.length := by omega
      rw [List.take_length] at HT
      obtain ⟨x0, x1, _, _⟩ := bt.two
      have hbs := hb.size
      have hcl := bc.lt
      have ik : ¬ ((I.length : Int) < (I.length : Int)) := by omega
      gi_wp2
      refine ⟨trivial, ?_⟩
      refine CallsIn.mono (callsIn_wide.2 (there_any _ _ _ _ _ _)) ?_
      rintro e W0 ⟨rfl, hW0⟩
      have hBW : Below wr.heap.size wr W0 := by rw [hW0]; exact bAlloc (bAlloc (Below.refl _ _) _) _
      have hsz : W0.heap.size = wr.heap.size + 1 + 1 := by rw [hW0]; simp
      have b10 : Bk W0 wr.heap.size #[.slice a C.length cap] 23 := by rw [hW0]; exact (Bk.new _ _ rfl).alloc _
      have b20 : Bk W0 (wr.heap.size + 1) #[.int .i64 X, .int .i64 Y] 35 := by rw [hW0]; exact Bk.new (w := wr.alloc _) _ _ (by simp)
      have m1 := hmap.keep hBW
      have bc1 := bc.keep hBW
      have bt1 := bt.keep hBW
      have hB0 := bStep hb hBW
      clear hW0 x0 x1 hmap bc bt hb hBW
      gi_wp2
      refine wpIn_rangeFunc_ownH (n := 4) (w0 := W0) rfl (by omega) (gf := 86) (lb := #[.pointer (some ⟨wr.heap.size, 0, none⟩), .pointer (some ⟨wr.heap.size + 1, 0, none⟩)]) rfl trivial (enters_of Tryz.func86 (by kernel_rfl) rfl)
        (there_stops wr.heap.size (wr.heap.size + 1) (w.heap.size + 1) a cap C X Y w W0 (by omega) hC HH.out (fun g hg => ⟨by omega, by omega⟩) (fun k hk => hB0.block k (by omega)) b10 b20 (by omega))
        (fun h k => h.trans k) (fun W lq o o' hN ho _ _ => Kx.put W lq o o' hN ho) (Below.refl _ _) (fun _ => rfl)
        (fun pre W => (∃ M2 : List It, MapIs thV thOk W (w.heap.size + 1) M2 ∧ (∀ s, tot M2 s = tot I s - tot (pre.map (·.1)) s) ∧ M2.length ≤ I.length + pre.length) ∧ Bk W (w.heap.size + 1 + 1) #[.map (some (w.heap.size + 1))] 71 ∧ Bk W w.heap.size #[.int .i64 X, .int .i64 Y] 35 ∧ Below w.heap.size w W ∧ W0.heap.size ≤ W.heap.size)
        (fun _ _ _ => False)
        (fun pre A B row hs hg hr => by
          obtain ⟨⟨M2, h1, h2, h3⟩, h4, h7, h5, h6⟩ := hs
          exact ⟨⟨M2, h1.grown hg (fun r e => by have := (hr r e).1; omega), h2, h3⟩, Bk.grew h4 hg (fun r e => by have := (hr r e).1; omega), Bk.grew h7 hg (fun r e => by have := (hr r e).1; omega), Below.grew h5 hg (by have := h4.lt; omega) (fun r e => by have := (hr r e).1; omega), Nat.le_trans h6 hg.size⟩)
        (fun _ _ _ _ _ hs _ _ => hs)
        ⟨⟨M, m1, fun s => by rw [HT.out]; simp [tot], by simp; omega⟩, bc1, bt1, hB0, Nat.le_refl _⟩
        (fun z a' W => ∃ Bq, W0.heap.size ≤ Bq ∧ Bk W Bq #[.int .i64 z.1.1.1, .int .i64 z.1.1.2] 76 ∧ a' = { tmps := #[.slice a C.length cap, tv X Y, .slice aI I.length cI, undef, .pointer (some ⟨w.heap.size, 0, none⟩), undef, .slice none 0 0, .pointer (some ⟨w.heap.size + 1 + 1, 0, none⟩), undef, u9, .pointer (some ⟨Bq, 0, none⟩), .int .i64 z.1.2, undef, undef, undef, .map (some (w.heap.size + 1)), .slice aI I.length cI, .int .i64 (I.length : Nat), .int .i64 (I.length : Nat), .bool false, u20, u21, u22, u23, u24, u25, u26, u27, u28, u29, u30, u31, u32, u33, u34, .slice a C.length cap, tv X Y, .func (.func 86) #[] #[.pointer (some ⟨wr.heap.size, 0, none⟩), .pointer (some ⟨wr.heap.size + 1, 0, none⟩)], thV z.1.1, .int .i64 z.1.2, undef, undef, undef, undef, undef, undef, undef, undef, undef, undef, undef, undef, undef, undef, undef, undef, undef, undef, undef, undef, undef, undef, undef, undef, undef, undef, undef], defers := [] })
        (fun z a' _ A B row hs hg hr => by
          obtain ⟨Bq, h1, h2, h3⟩ := hs
          exact ⟨Bq, h1, Bk.grew h2 hg (fun r e => by
            obtain ⟨_, o, h4, h5⟩ := hr r e
            rintro rfl
            unfold Bk at h2
            rw [h2] at h4
            cases h4
            cases h5), h3⟩)
        ?assign ?body ?done ?stop
      case assign =>
        rintro lq pre z W K ⟨⟨M2, h1, h2, h3⟩, h4, h7, h5, h6⟩ hK
        gi_wp2
        refine hK _ _ ((KeepsOthers.alloc _ _).from _) ⟨by simp, fun k hk _ => Below.heap_alloc _ _ _ (by omega)⟩ ⟨⟨M2, h1.keep (bAlloc (Below.refl _ _) _), h2, h3⟩, h4.alloc _, h7.alloc _, bAllocT h5 (by omega) _, by simp; omega⟩ ⟨W.heap.size, h6, Bk.new _ _ rfl, rfl⟩
      case body =>
        rintro lq pre z a' W hlq - ⟨⟨M2, h1, h2, h3⟩, h4, h7, h5, h6⟩ ⟨Bq, hBq, hq, rfl⟩ hltp
        obtain ⟨⟨⟨K, V⟩, D⟩, hth, hD1, hD2⟩ := z
        have H2 := (show Hid _ from h2)
        clear h2
        obtain ⟨st, o1, o2, M', e1, e2, e3, hM', ht', hl'⟩ := MapIs.enter (h1.move (w1 := W.drew) rfl) encT Tryz.underlying71 zeroI hth (tot M2 (K, V) - D)
        change (Instr.entryStore _ _ (.int .i64 (st : Int)) _).run _ _ = _ at e3
        have e0 := MapIs.look (h1.move (w1 := W.drew) rfl) encT Tryz.underlying71 zeroI hth
        have HN : Hid (∀ s, tot M' s = tot I s - tot ((pre ++ [⟨((K, V), D), hth, hD1, hD2⟩] : List XI).map (·.1)) s) := fun s => by
          rw [ht', List.map_append]
          show _ = tot I s - tot (pre.map (·.1) ++ [((K, V), D)]) s
          rw [tot_snoc]
          by_cases e : (K, V) = s
          · rw [if_pos e, if_pos e, e, H2.out]; omega
          · rw [if_neg e, if_neg e, H2.out]; omega
        have hsum : -4611686018427387904 ≤ tot M2 (K, V) - D ∧ tot M2 (K, V) - D ≤ 4611686018427387904 := by
          have h1 := tot_abs (pre.map (·.1)) (K, V)
          have h2 := xi_abs pre
          have h3 := tot_abs I (K, V)
          have h4 := HIA.out
          have h5 := H2.out (K, V)
          omega
        clear ht'
        obtain ⟨hs1, hs2'⟩ := hsum
        generalize hT : tot M2 (K, V) = T at *
        clear hT
        have iw : IntKind.i64.wrap (T - D) = T - D := by rw [IntKind.wrap_i64]; omega
        have c0 := h4.cell (i := 0) (v := .map (some (w.heap.size + 1))) rfl
        obtain ⟨q0, q1, _, _⟩ := hq.two
        dsimp only at q0 q1
        have hmix : Tryz.prog.follows .mixedOrders = true := by kernel_rfl
        have FIN : Hid (KeepsFrom W0.heap.size W (setBlock W.drew (w.heap.size + 1) o2) ∧ Kx W0.heap.size (w.heap.size + 1) W (setBlock W.drew (w.heap.size + 1) o2) ∧
            ((∃ M2 : List It, MapIs thV thOk (setBlock W.drew (w.heap.size + 1) o2) (w.heap.size + 1) M2 ∧ (∀ s, tot M2 s = tot I s - tot ((pre ++ [⟨((K, V), D), hth, hD1, hD2⟩] : List XI).map (·.1)) s) ∧ M2.length ≤ I.length + (pre ++ [⟨((K, V), D), hth, hD1, hD2⟩] : List XI).length) ∧ Bk (setBlock W.drew (w.heap.size + 1) o2) (w.heap.size + 1 + 1) #[.map (some (w.heap.size + 1))] 71 ∧ Bk (setBlock W.drew (w.heap.size + 1) o2) w.heap.size #[.int .i64 X, .int .i64 Y] 35 ∧ Below w.heap.size w (setBlock W.drew (w.heap.size + 1) o2) ∧ W0.heap.size ≤ (setBlock W.drew (w.heap.size + 1) o2).heap.size)) := by
          have hz : (setBlock W.drew (w.heap.size + 1) o2).heap.size = W.heap.size := size_setBlock W.drew (w.heap.size + 1) o2
          refine ⟨⟨by rw [hz]; exact Nat.le_refl _, fun k o hB hk _ => ?_⟩, ⟨by rw [hz]; exact Nat.le_refl _, fun k _ hm => ?_⟩, ⟨M', hM', HN.out, by simp; omega⟩, ?_, ?_, below_setBlock h5.drew (by omega), by rw [hz]; exact h6⟩
          · rw [setBlock_at (by omega)]; exact hk
          · rw [setBlock_at hm]; rfl
          · unfold Bk; rw [setBlock_at (by omega)]; exact h4
          · unfold Bk; rw [setBlock_at (by omega)]; exact h7
        clear HN hM' h1 h4 h7 hq
        gi_wp2
        gi_region_with_o (fail)
        all_goals gi_wp2
        all_goals exact FIN.out
      case stop =>
        rintro D c pre W _ _ h _
        exact h.elim
      case done =>
        rintro D xs W hD hS ⟨⟨M2, h1, h2, h3⟩, h4, h7, h5, h6⟩ hK
        have c0 := h4.cell (i := 0) (v := .map (some (w.heap.size + 1))) rfl
        have hlt2 := (Array.getElem?_eq_some_iff.1 hK).1
        have hxl : xs.length ≤ 110000 := by
          have h1 := congrArg List.length hS
          simp at h1
          omega
        have HE : Hid (sumL ltT M2 = lackL C X Y I) := by
          show _ = _
          refine sumL_congr ltT_ord fun s => ?_
          rw [h2 s, hS, tot_append, negAt_tot]
          omega
        have hll : (lackL C X Y I).length ≤ 120000 := by
          have := sumL_len ltT (I ++ negI (atL C X Y))
          unfold lackL
          rw [List.length_append, negI_len] at this
          omega
        clear h2 hS h4
        gi_wp2
        refine ⟨trivial, ?_⟩
        refine CallsIn.mono (callsIn_wide.2 (itemsOf_any (w.heap.size + 1) M2 W h1 (by omega))) ?_
        rintro e W3 ⟨o3, rfl, own3, hb3⟩
        rw [HE.out] at own3
        have hK3 : W3.heap[D]? = some (.deferred (some [])) := by rw [hb3.block D hlt2]; exact hK
        have hb5 : Below w.heap.size w W3 := h5.trans (hb3.mono (by omega))
        have I3 := OwnI.is own3 (by omega)
        obtain ⟨a3, c3, rfl, hc3, hm3, hn3, hcell3⟩ := Is.open I3
        unfold maxLen at hm3
        have HC3 := (show Hid _ from hcell3)
        have bt3 := h7.keep hb3
        have hs3 := hb3.size
        have hsz3 : W0.heap.size ≤ W3.heap.size := Nat.le_trans h6 hb3.size
        clear own3 I3 hcell3 h1 h7 h5 h6 hb3 hK hlt2 c0
        gi_wp2
        gi_loopw [12, 50] (fun o i wq => ∃ k : Nat, k ≤ (lackL C X Y I).length ∧ i = .int .i64 k ∧ OwnR wq W3.heap.size o (stamp (X, Y) ((lackL C X Y I).take k)) ∧ Below W3.heap.size W3 wq) (fun _ i _ => (lackL C X Y I).length - (intOf i).toNat)
        case atStart => exact ⟨0, by omega, rfl, ownK_nil _ _ _ _ _, Below.refl _ _⟩
        case round =>
          obtain ⟨k, hkD, rfl, hown, hb⟩ := hrel
          by_cases hlk : k < (lackL C X Y I).length
          · obtain ⟨g, off, K, V, D', rfl, hgl, hr, d0, d1, d2⟩ := HC3.out k hlk
            have ik : ((k : Int) < ((lackL C X Y I).length : Int)) := by omega
            have g0 := cell_below hb d0
            have g1 := cell_below hb d1
            have g2 := cell_below hb d2
            have bI := Bk.new (w := wr) #[.int .i64 K, .int .i64 V, .int .i64 D'] 69 rfl
            have hbA : Below wr.heap.size wr (wr.alloc (.cells #[.int .i64 K, .int .i64 V, .int .i64 D'] 69)) := bAlloc (Below.refl _ _) _
            have hbB : Below wr.heap.size wr ((wr.alloc (.cells #[.int .i64 K, .int .i64 V, .int .i64 D'] 69)).alloc (.cells #[.int .i64 K, .int .i64 V, .int .i64 X, .int .i64 Y, .int .i64 D'] 41)) := bAlloc hbA _
            have bR : Bk ((wr.alloc (.cells #[.int .i64 K, .int .i64 V, .int .i64 D'] 69)).alloc (.cells #[.int .i64 K, .int .i64 V, .int .i64 X, .int .i64 Y, .int .i64 D'] 41)) (wr.heap.size + 1) #[.int .i64 K, .int .i64 V, .int .i64 X, .int .i64 Y, .int .i64 D'] 41 := Bk.new _ _ (by simp)
            obtain ⟨y0, y1, y2⟩ := bI.three
            obtain ⟨x0, x1, _, _⟩ := ((bt3.keep hb).keep hbA).two
            have hbs := hb.size
            have own1 := own_keep hown hbB
            have hln : (stamp (X, Y) ((lackL C X Y I).take k)).length ≤ 2000000 := by rw [stamp_len, List.length_take]; omega
            obtain ⟨gq, capq, W9, hrun, own9, hg9, -, -⟩ := appR_run 23 own1 (wr.heap.size + 1) K V X Y D' bR hln (by have := hbB.size; omega)
            have HO9 := (show Hid _ from own9)
            have HZ := (show Hid _ from stamp_snoc (t := (X, Y)) hr)
            have hb9 : Below W3.heap.size W3 W9 := Below.grew (bStep hb hbB) hg9 (by have := hbB.size; omega) (fun q e => by have := ownK_base hown q e; omega)
            clear d0 d1 d2 hr bI hbA hbB bR hown own1 own9
            gi_wp2_with (gi_at_builtin; refine wpListIn_app0 rfl _ _ _ rfl rfl rfl hrun ?_)
            exact ⟨⟨k + 1, by omega, by go_num, by rw [HZ.out]; exact HO9.out, hb9⟩, by simp [intOf]; omega⟩
          · obtain rfl : k = (lackL C X Y I).length := by omega
            rw [List.take_length] at hown
            have O3 : Hid (OwnR wr W3.heap.size u12 (stamp (X, Y) (lackL C X Y I))) := hown
            have ik : ¬ (((lackL C X Y I).length : Int) < ((lackL C X Y I).length : Int)) := by omega
            have hK4 : wr.heap[D]? = some (.deferred (some [])) := by rw [hb.block D (Array.getElem?_eq_some_iff.1 hK3).1]; exact hK3
            have hD3 : D < W3.heap.size := (Array.getElem?_eq_some_iff.1 hK3).1
            have hb6 : Below w.heap.size w wr := hb5.trans (hb.mono (by omega))
            clear hown
            gi_wp2
            refine ⟨by simp, .inl ⟨_, _, rfl, run_takeDeferred hK4, ?_⟩⟩
            refine ⟨_, results_tmp rfl _ _ _, u12, rfl, ?_, ?_⟩
            · refine own_less (B := W3.heap.size) ?_ (by omega)
              refine ownK_at O3.out fun q e => ?_
              have := ownK_base O3.out q e
              exact (grownBy_putObj' wr D (.deferred none)).block q (ownK_lt O3.out q e) (fun e => by cases e; omega)
            · exact hb6.trans (belowK_b (w := W0) (by omega) wr D _ _ hD hK4 rfl rfl)
theorem lacking_any (v : Value) (C : List Rw) (X Y : Int) (u : Value) (I : List It) (w : World) (h : Rs w v C) (hC : ∀ r ∈ C, rwOkB r = true) (hCl : C.length ≤ 110000) (hI : Is w u I) (hIl : I.length ≤ 400) (hIa : absum I ≤ 1000000) (hIk : ∀ r ∈ I, itK r.1) :
    Calls Tryz.prog 126 #[v, tv X Y, u] w fun e w' => ∃ o : Value, e = .returned o ∧ OwnR w' w.heap.size o (stamp (X, Y) (lackL C X Y I)) ∧ Below w.heap.size w w' := by
  obtain ⟨a, cap, rfl, -, -, -, -⟩ := Rs.open h
  exact callsIn_wide.1 (lacking_in a cap C X Y u I w h hC hCl hI hIl hIa hIk)
end Go.Proofs.YtpjmkejojenflaaGreat
