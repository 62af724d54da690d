/- What the program's summing up of rows answers: the contract. -/
import Derived.Test.YtlddhfimiignaaaGs1
import Derived.Test.YtlddhfimiignaaaGm1
import Derived.Test.YtlddhfimiignaaaGb4
import Derived.Deep.Cut
/-! What the program's summing up of rows answers: the contract. -/
namespace Go.Proofs.Ytlddhfimiignaaa
open Go.RowKit
open Go.ChangeMaps (setBlock)

theorem zeroI : ∀ w : World, (zeroValue 3).run Try.prog w = .ok (.int .i64 0) w := Try.zeroValue3
set_option maxRecDepth 100000 in
set_option maxHeartbeats 8000000 in
theorem sumUp_any (v : Value) (l : List Rw) (w : World) (h : Rs w v l) (hl : l.length ≤ 1000000) (ha : absum l ≤ 2305843009213693952) (hk : ∀ r ∈ l, spOk r.1) :
    Calls Try.prog 110 #[v] w fun e w' => ∃ o : Value, e = .returned o ∧ OwnR w' w.heap.size o (sumL ltS l) ∧ Below w.heap.size w w' := by
  have HA : Hid _ := ha
  have HK : Hid _ := hk
  obtain ⟨a, cap, rfl, hc, hm, hn, hcells⟩ := Rs.open h
  unfold maxLen at hm
  have HC := (show Hid _ from hcells)
  clear hcells h ha hk
  have hmm := @run_makeMap Try.prog
  go_enter Try.func110, Try.ntmps110
  go_wp2_with fail
  have m0 : MapIs spV spOk (w.alloc (.map #[] 0)) w.heap.size [] := MapIs.new w rfl
  have hb0 : Below w.heap.size w (w.alloc (.map #[] 0)) := bAlloc (Below.refl _ _) _
  clear hmm
  go_loopw [12] (fun i wr => ∃ (k : Nat) (M : List (Sp × Int)), k ≤ l.length ∧ i = .int .i64 k ∧ MapIs spV spOk wr w.heap.size M ∧ (∀ s, tot M s = tot (l.take k) s) ∧ M.length ≤ k ∧ Below w.heap.size w wr) (fun i _ => l.length - (intOf i).toNat)
  case atStart => exact ⟨0, [], by omega, rfl, m0, fun s => by simp, by simp, hb0⟩
  case round =>
    clear m0 hb0
    obtain ⟨k, M, hkl, rfl, hmap, htot, hML, hb⟩ := hrel
    have HT := (show Hid _ from htot)
    clear htot
    by_cases hlt : k < l.length
    · obtain ⟨g, off, K, V, A, B, D, rfl, hg, hr, c0, c1, c2, c3, c4⟩ := HC.out k hlt
      have d0 := cell_below hb c0
      have d1 := cell_below hb c1
      have d2 := cell_below hb c2
      have d3 := cell_below hb c3
      have d4 := cell_below hb c4
      have HR := (show Hid _ from hr)
      have hok := HK.out _ (List.mem_of_getElem? hr)
      dsimp only at hok
      clear c0 c1 c2 c3 c4 hr
      have ik : ((k : Int) < (l.length : Int)) := by omega
      have bt0 := Bk.new (w := wr) #[.int .i64 K, .int .i64 V, .int .i64 A, .int .i64 B, .int .i64 D] 55 rfl
      have hbt : Below wr.heap.size wr (wr.alloc (.cells #[.int .i64 K, .int .i64 V, .int .i64 A, .int .i64 B, .int .i64 D] 55)) := bAlloc (Below.refl _ _) _
      have hmap' := hmap.keep hbt
      have hb' := bStep hb hbt
      have hmt := hmap.lt
      go_upto_region 5 with fail
      clear d0 d1 d2 d3 d4 hmap hb hbt
      generalize wr.heap.size = tb at *
      generalize World.alloc _ _ = wt at *
      obtain ⟨st, o1, o2, M', e1, e2, e3, hM', ht', hl'⟩ := MapIs.enter (hmap'.move (w1 := wt.drew) rfl) encS Try.underlying152 zeroI hok (tot M ((K, V), (A, B)) + D)
      change (Instr.entryStore _ _ (.int .i64 (st : Int)) _).run _ _ = _ at e3
      have e0 := MapIs.look (hmap'.move (w1 := wt.drew) rfl) encS Try.underlying152 zeroI hok
      obtain ⟨y0, y1, y2, y3, y4⟩ := bt0.five
      have hsum : -4611686018427387904 ≤ tot M ((K, V), (A, B)) + D ∧ tot M ((K, V), (A, B)) + D ≤ 4611686018427387904 := by
        have h1 := tot_abs (l.take (k + 1)) ((K, V), (A, B))
        rw [take_snoc HR.out, tot_snoc, if_pos rfl, ← HT.out] at h1
        have h2 := absum_take l (k + 1)
        rw [take_snoc HR.out] at h2
        have := HA.out
        omega
      have HN : Hid (∀ s, tot M' s = tot (l.take (k + 1)) s) := fun s => by
        rw [ht', take_snoc HR.out, tot_snoc]
        by_cases e : ((K, V), (A, B)) = s
        · rw [if_pos e, if_pos e, ← HT.out, e]
        · rw [if_neg e, if_neg e, HT.out]; omega
      clear ht'
      obtain ⟨hs1, hs2⟩ := hsum
      generalize hT : tot M ((K, V), (A, B)) = T at *
      have hTT : Hid (tot M ((K, V), (A, B)) = T) := hT
      clear hT
      have iw : IntKind.i64.wrap (T + D) = T + D := by rw [IntKind.wrap_i64]; omega
      go_region
      clear e0 e1 e2 e3
      have hb2 : Below w.heap.size w (setBlock wt.drew w.heap.size o2) := below_setBlock hb'.drew (Nat.le_refl _)
      generalize setBlock wt.drew w.heap.size o2 = w2 at *
      go_wp2_with fail
      go_roundw
      case rel => exact ⟨k + 1, M', by omega, by go_num, hM', HN.out, by omega, hb2⟩
      case measure => simp [intOf]; omega
    · obtain rfl : k = l.length := by omega
      have HT2 : Hid (∀ s, tot M s = tot l s) := fun s => by rw [HT.out, List.take_length]
      clear HT HC HK
      obtain ⟨W, hW⟩ : ∃ W, W = wr := ⟨_, rfl⟩
      subst hW
      have hmt := hmap.lt
      have hbs := hb.size
      go_wp2_with (at_range; refine wp_range _ rfl _ _ rfl _ _ Try.underlying152 _ M rfl hmap ?_; intro w0 hrg hb0 hs0)
      go_frame
      have hbw0 := bStep hb hb0
      clear hmap hb hb0
      go_loopw [6] (fun o wr => ∃ (done left L : List (Sp × Int)), Ranging spV spOk wr w.heap.size W.heap.size M left ∧ M.Perm (done ++ left) ∧ L.Perm (done.filter fun r => decide (r.2 ≠ 0)) ∧ OwnR wr (W.heap.size + 1) o L ∧ W.heap.size + 1 ≤ wr.heap.size ∧ Below w.heap.size w wr) (fun _ wr => leftN wr w.heap.size W.heap.size)
      case atStart => exact ⟨[], M, [], hrg, by simp, by simp, ownK_nil _ _ _ _ _, by omega, hbw0⟩
      case round =>
        clear hrg hbw0 hs0
        obtain ⟨done, left, L, hrg, hpm, hpl, hown, hsz, hb⟩ := hrel
        have HPM := (show Hid _ from hpm)
        have HPL := (show Hid _ from hpl)
        have HO : Hid (OwnR wr (W.heap.size + 1) u6 L) := hown
        have hcnt := hrg.count
        have hLM : L.length ≤ M.length := by
          have h1 := hpl.length_eq
          have h2 := List.length_filter_le (fun r : Sp × Int => decide (r.2 ≠ 0)) done
          have h3 := hpm.length_eq
          simp at h3
          omega
        have hM := (show Hid _ from hrg.nodup)
        clear hpm hpl hown
        go_wp2_with (at_next; refine wp_next _ rfl _ rfl _ _ M left rfl hrg ?_ ?_)
        · intro hz
          subst hz
          have O1 : OwnR wr (W.heap.size + 1) u6 L := HO.out
          have hdone : L.Perm (M.filter fun r => decide (r.2 ≠ 0)) := by
            have h1 := HPM.out
            rw [List.append_nil] at h1
            exact HPL.out.trans (h1.filter _).symm
          have HD := (show Hid _ from hdone)
          clear hdone HO HPM HPL hcnt
          have hll : L.length ≤ 2097152 := by omega
          go_wp2_with fail
          refine (sortR_any O1 hll hsz).mono ?_
          rintro e w2 ⟨rfl, l', hp, hsrt, own2, hb2⟩
          have hfin : l' = sumL ltS l := collected ltS_ord hM.out HT2.out HD.out hp hsrt
          have hbw : Below w.heap.size w w2 := hb.trans (hb2.mono (by omega))
          have O2 : Hid (OwnR w2 (W.heap.size + 1) u6 l') := own2
          clear own2 hp hsrt O1
          go_wp2_with fail
          go_ret
          refine ⟨_, rfl, ?_, hbw⟩
          rw [← hfin]
          exact own_less O2.out (by omega)
        · intro K V A B D left' w1 hp hrg1 hen hx hs1 hl1
          have O1 : OwnR w1 (W.heap.size + 1) u6 L := ownK_beside HO.out hx (fun q e => by have := ownK_base HO.out q e; omega)
          have hb1 : Below w.heap.size w w1 := hx.below hb hb.size (by omega)
          have hsz1 : W.heap.size + 1 ≤ w1.heap.size := by omega
          have hcnt1 := hrg1.count
          clear hx hrg hb HO hs1
          by_cases hD : D = 0
          · subst hD
            have HZ := (show Hid _ from collect_no HPM.out hp HPL.out rfl)
            have hrg2 := hrg1.keep (bAlloc (Below.refl _ w1) (.cells #[.int .i64 K, .int .i64 V, .int .i64 A, .int .i64 B] 154))
            have O2 : Hid (OwnR (w1.alloc (.cells #[.int .i64 K, .int .i64 V, .int .i64 A, .int .i64 B] 154)) (W.heap.size + 1) u6 L) := O1.alloc _
            clear O1 HPM HPL hp
            go_wp2_with fail
            go_roundw
            case rel => exact ⟨_, left', L, hrg2, HZ.out.1, HZ.out.2, O2.out, by simp; omega, bAlloc hb1 _⟩
            case measure => rw [hrg2.count]; omega
          · have nD : (D == 0) = false := by simpa using hD
            have HZ := (show Hid _ from collect_yes HPM.out hp HPL.out hD)
            clear HPM HPL hp
            go_wp2_with (at_builtin; refine appR _ rfl _ _ rfl (W.heap.size + 1) _ _ rfl ((O1.alloc _).alloc _) _ _ _ _ _ _ rfl (Bk.new _ _ (by simp)) (by omega) (by simp; omega) ?_; intro g3 cap3 w3 own3 hgrow hlg)
            have hrg3 := (hrg1.keep (bAlloc (bAlloc (Below.refl _ w1) (.cells #[.int .i64 K, .int .i64 V, .int .i64 A, .int .i64 B] 154)) (.cells #[.int .i64 K, .int .i64 V, .int .i64 A, .int .i64 B, .int .i64 D] 55))).grew hgrow (fun q e => by have := ownK_base O1 q e; omega)
            have hb3 : Below w.heap.size w w3 := Below.grew (bAlloc (bAlloc hb1 _) _) hgrow (by simp; omega) (fun q e => by have := ownK_base O1 q e; omega)
            have hs3 : W.heap.size + 1 ≤ w3.heap.size := by have := hgrow.size; simp at this; omega
            go_roundw
            case rel => exact ⟨_, left', L ++ [(((K, V), (A, B)), D)], hrg3, HZ.out.1, HZ.out.2, own3, hs3, hb3⟩
            case measure => rw [hrg3.count]; omega
end Go.Proofs.Ytlddhfimiignaaa

/-! What the program's BatchOf answers: contracts. -/
namespace Go.Proofs.Ytlddhfimiignaaa
open Go.RowKit

theorem rw_sp {r : Rw} (h : rwOkB r = true) : spOk r.1 := by
  simp only [rwOkB, inB, okB, Bool.and_eq_true, decide_eq_true_eq] at h
  unfold spOk fit63
  omega
set_option maxHeartbeats 2000000 in
theorem batchOf_any (v : Value) (l : List Rw) (w : World) (h : Rs w v l) (hl : l.length ≤ 1000000) (ha : absum l ≤ 2305843009213693952) (hk : ∀ r ∈ l, spOk r.1) :
    Calls Try.prog 67 #[v] w fun e w' => ∃ o : Value, e = .returned o ∧ OwnR w' w.heap.size o (sumF l) ∧ Below w.heap.size w w' := by
  have hsl := sumL_len ltS l
  have H := sumUp_any v l w h hl ha hk
  clear h hk ha
  go_enter Try.func67, Try.ntmps67
  go_wp2_with fail
  refine H.mono ?_
  rintro e w1 ⟨o1, rfl, own1, hb1⟩
  have R1 := OwnR.rs own1 (by omega)
  have O1 : Hid (OwnR w1 w.heap.size o1 (sumL ltS l)) := own1
  clear own1 H
  cases hro : rokB (sumL ltS l)
  · have HF : Hid (sumF l = []) := sumF_no hro
    go_wp2_with fail
    refine (implRowsOk_eq hro R1).mono ?_
    rintro e w2 ⟨rfl, hb2⟩
    go_wp2_with fail
    go_ret
    refine ⟨_, rfl, ?_, bStep hb1 hb2⟩
    rw [HF.out]
    exact ownK_nil _ _ _ _ _
  · have HF : Hid (sumF l = sumL ltS l) := sumF_ok hro
    go_wp2_with fail
    refine (implRowsOk_eq hro R1).mono ?_
    rintro e w2 ⟨rfl, hb2⟩
    have O2 : Hid (OwnR w2 w.heap.size o1 (sumL ltS l)) := own_keep O1.out hb2
    go_wp2_with fail
    go_ret
    refine ⟨_, rfl, ?_, bStep hb1 hb2⟩
    rw [HF.out]
    exact O2.out
end Go.Proofs.Ytlddhfimiignaaa
