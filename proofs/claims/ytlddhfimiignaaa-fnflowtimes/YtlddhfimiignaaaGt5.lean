/- Grow and Concat of items, and SetBoth of the program and of its model: contracts. -/
import Derived.Test.YtlddhfimiignaaaGt4
import Derived.Test.YtlddhfimiignaaaGs7
import Derived.Test.YtlddhfimiignaaaGs8
import Derived.Test.YtlddhfimiignaaaGs2
namespace Go.Proofs.Ytlddhfimiignaaa
open Go.RowKit Go.Shelf
open Go.ChangeMaps (setBlock)

theorem growI_any (n : Nat) (hn : n ≤ 2000000) (w : World) :
    Calls Try.prog 99 #[.slice none 0 0, .int .i64 n] w fun e w' => ∃ v : Value, e = .returned v ∧ OwnI w' w.heap.size v [] ∧ Below w.heap.size w w' := by
  obtain ⟨i0, hi, hz0, hz1, hz2⟩ := info_parts infoI
  by_cases h0 : n = 0
  · subst h0
    refine (Any8.slices_Grow_room growI none 0 0 0 w (by omega) (by omega) (by omega) (by omega)).mono ?_
    rintro e w' ⟨rfl, rfl⟩
    exact ⟨_, rfl, ownK_nil _ _ _ _ _, Below.refl _ _⟩
  · refine (Any8.slices_Grow_grow growI i0 _ hi hz0 (by omega) none 0 0 n [] w (by omega) (by omega) (by rw [hz2]; omega) (by omega) (by simp) (fun _ => rfl) (fun a ha => by cases ha)).mono ?_
    rintro e w' ⟨rfl, rfl⟩
    have hge := grownCap_ge w (0 + n) 0 (growI_ren.t 25)
    have hle := grownCap_le_maxLen w (0 + n) 0 (growI_ren.t 25) (by unfold maxLen; omega)
    generalize grownCap w (0 + n) 0 (growI_ren.t 25) = G at hge hle ⊢
    have e1 : (Value.agg #[.int .i64 0, .int .i64 0, .int .i64 0]).cells.size = 3 := by simp [Value.cells]
    refine ⟨_, rfl, ⟨by simp, .inr ⟨w.heap.size, G, _, rfl, Nat.le_refl _, heap_alloc_new w.drew _, Nat.zero_le _, hle, ?_, by simp⟩⟩, bAlloc (Below.refl _ w).drew _⟩
    simp only [Array.size_append, Builtin.zeroCells, Array.size_map, Array.size_range, e1]
    simp
    omega
theorem growI_eq {k : Int} {n : Nat} (h : k = (n : Int)) (hn : n ≤ 2000000) (w : World) :
    Calls Try.prog 99 #[.slice none 0 0, .int .i64 k] w fun e w' => ∃ v : Value, e = .returned v ∧ OwnI w' w.heap.size v [] ∧ Below w.heap.size w w' := by
  subst h; exact growI_any n hn w
set_option maxHeartbeats 4000000 in
theorem concatI_any (g0 : Nat) (v1 v2 : Value) (l1 l2 : List It) (w : World) (hb : Bk w g0 #[v1, v2] 23) (h1 : Is w v1 l1) (h2 : Is w v2 l2) (hl : l1.length + l2.length ≤ 2000000) :
    Calls Try.prog 61 #[.slice (some ⟨g0, 0, none⟩) 2 2] w fun e w' => ∃ o : Value, e = .returned o ∧ OwnI w' w.heap.size o (l1 ++ l2) ∧ Below w.heap.size w w' := by
  have H1 : Hid (Is w v1 l1) := h1
  have H2 : Hid (Is w v2 l2) := h2
  obtain ⟨a1, cap1, rfl, _, _, _, _⟩ := h1
  obtain ⟨a2, cap2, rfl, _, _, _, _⟩ := h2
  obtain ⟨c0, c1, _, _⟩ := hb.two
  go_enter Try.func61, Try.ntmps61
  generalize hn1 : l1.length = n1 at *
  generalize hn2 : l2.length = n2 at *
  have q1 : (0 : Int) ≤ (n1 : Int) := by omega
  have q2 : (n1 : Int) ≤ 2000000 := by omega
  have q3 : (0 : Int) ≤ (n1 : Int) + (n2 : Int) := by omega
  have q4 : (n1 : Int) + (n2 : Int) ≤ 2000000 := by omega
  have q5 : ¬ ((n1 : Int) < 0) := by omega
  have q6 : ¬ ((n1 : Int) + (n2 : Int) < 0) := by omega
  have E1 : Hid (l1.length = n1) := hn1
  have E2 : Hid (l2.length = n2) := hn2
  clear hn1 hn2
  go_wp2_with fail
  refine wp_loop_rounds 3 ?_
  rw [rounds_succ]
  go_wp2_with fail
  rw [rounds_succ]
  go_wp2_with fail
  rw [rounds_succ]
  go_wp2_with fail
  refine (growI_eq (n := n1 + n2) (by omega) (by omega) _).mono ?_
  rintro e w1 ⟨o1, rfl, own1, hb1⟩
  have hbk := hb.keep hb1
  have R1 := H1.out.keep hb1
  obtain ⟨d0, d1, _, _⟩ := hbk.two
  have hs1 := hb1.size
  have O1 : Hid (OwnI w1 w.heap.size o1 []) := own1
  clear own1 H1 c0 c1
  go_wp2_with fail
  refine wp_loop_rounds 3 ?_
  rw [rounds_succ]
  go_wp2_with (at_builtin; refine appIs _ rfl _ _ rfl w.heap.size _ [] rfl O1.out _ l1 rfl R1 (by have := E1.out; simp; omega) (by omega) ?_; intro v3 w3 own3 hg3)
  have hb3 : Below w.heap.size w w3 := Below.grew hb1 hg3 (by omega) (ownK_base O1.out)
  have hs3 := hb3.size
  have R2 := H2.out.keep hb3
  have O3 : Hid (OwnI w3 w.heap.size v3 l1) := by show OwnI _ _ _ _; simpa using own3
  obtain ⟨f0, f1, _, _⟩ := (hb.keep hb3).two
  clear own3 hg3 hbk d0 d1 R1 O1 hb1 H2 hb
  rw [rounds_succ]
  go_wp2_with (at_builtin; refine appIs _ rfl _ _ rfl w.heap.size _ l1 rfl O3.out _ l2 rfl R2 (by have := E1.out; have := E2.out; omega) (by omega) ?_; intro v5 w5 own5 hg5)
  have hb5 : Below w.heap.size w w5 := Below.grew hb3 hg5 (by omega) (ownK_base O3.out)
  have O5 : Hid (OwnI w5 w.heap.size v5 (l1 ++ l2)) := own5
  clear own5 hg5 f0 f1 R2 O3 hb3
  rw [rounds_succ]
  go_wp2_with fail
  go_returns
  exact ⟨_, rfl, O5.out, hb5⟩
theorem Bx.putMap {g : Nat} {a w : World} (h : Bx g a w) (o : Obj) : Bx g a (setBlock w g o) :=
  h.trans ⟨rfl, rfl, rfl, by rw [size_setBlock]; exact Nat.le_refl _, fun _ _ hg => setBlock_at hg⟩
theorem it_th {s : Int × Int} (h : itK s) : thOk s := by
  obtain ⟨h1, h2, h3, h4⟩ := h
  exact ⟨by unfold fit63; omega, by unfold fit63; omega⟩
theorem itemsOf_k {M L : List It} (b : Nat) (w : World) (hmap : MapIs thV thOk w b M) (hMl : M.length ≤ 1000000) (ht : ∀ s, tot M s = tot L s) :
    Calls Try.prog 55 #[.map (some b)] w fun e w' => ∃ o : Value, e = .returned o ∧ OwnI w' w.heap.size o (sumL ltT L) ∧ Below w.heap.size w w' := by
  rw [← sumL_congr ltT_ord ht]; exact itemsOf_any b M w hmap hMl
set_option maxRecDepth 100000 in
set_option maxHeartbeats 8000000 in
theorem implSetBoth_any (v v' : Value) (l l' : List It) (w : World) (h : Is w v l) (h' : Is w v' l') :
    Calls Try.prog 20 #[v, v'] w fun e w' => ∃ o : Value, e = .returned o ∧ OwnI w' w.heap.size o (bothS l l') ∧ Below w.heap.size w w' := by
  cases hk : sokB l
  · have HF : Hid (bothS l l' = []) := bothS_no1 hk
    go_enter Try.func20, Try.ntmps20
    go_wp2_with fail
    refine (implSetOk_eq hk h).mono ?_
    rintro e w1 ⟨rfl, hb1⟩
    go_wp2_with fail
    go_ret
    refine ⟨_, rfl, ?_, hb1⟩
    rw [HF.out]
    exact ownK_nil _ _ _ _ _
  cases hk' : sokB l'
  · have HF : Hid (bothS l l' = []) := bothS_no2 hk'
    go_enter Try.func20, Try.ntmps20
    go_wp2_with fail
    refine (implSetOk_eq hk h).mono ?_
    rintro e w1 ⟨rfl, hb1⟩
    have h1' := h'.keep hb1
    go_wp2_with fail
    refine (implSetOk_eq hk' h1').mono ?_
    rintro e w2 ⟨rfl, hb2⟩
    go_wp2_with fail
    go_ret
    refine ⟨_, rfl, ?_, bStep hb1 hb2⟩
    rw [HF.out]
    exact ownK_nil _ _ _ _ _
  have HF : Hid (bothS l l' = sumL ltT (l ++ l')) := bothS_yes hk hk'
  have ha : absum (l ++ l') ≤ 879609302220800 := by rw [absum_append]; have := sok_abs hk; have := sok_abs hk'; omega
  have HA : Hid (absum (l ++ l') ≤ 879609302220800) := ha
  have HTH : Hid (∀ r ∈ l ++ l', thOk r.1) := fun r hr => it_th (app_k (sok_k hk) (sok_k hk') r hr)
  have hl := sok_len hk
  have hl' := sok_len hk'
  have HH : Hid (Is w v l) := h
  have HH' : Hid (Is w v' l') := h'
  obtain ⟨a1, cap1, rfl, -, -, -, -⟩ := h
  obtain ⟨a2, cap2, rfl, -, -, -, -⟩ := h'
  clear ha
  have hmm := @run_makeMap Try.prog
  go_enter Try.func20, Try.ntmps20
  go_wp2_with fail
  refine (implSetOk_eq hk HH.out).mono ?_
  rintro e w1 ⟨rfl, hb1⟩
  have h1 := HH.out.keep hb1
  have h1' := HH'.out.keep hb1
  clear HH HH'
  go_wp2_with fail
  refine (implSetOk_eq hk' h1').mono ?_
  rintro e w2 ⟨rfl, hb2⟩
  have hbw2 := bStep hb1 hb2
  have hs2 := hbw2.size
  have m2 : MapIs thV thOk (w2.alloc (.map #[] 0)) w2.heap.size [] := MapIs.new w2 rfl
  have hbm : Below w2.heap.size w2 (w2.alloc (.map #[] 0)) := bAlloc (Below.refl _ _) _
  have h3 := (h1.keep hb2).keep hbm
  have h3' := (h1'.keep hb2).keep hbm
  have hsm : (w2.alloc (.map #[] 0)).heap.size = w2.heap.size + 1 := by simp
  clear h1 h1' hb1 hb2 hk hk'
  go_upto_region 4 with fail
  clear hmm
  generalize hMB : w2.heap.size = mb at *
  generalize (w2.alloc (.map #[] 0)) = w3 at *
  have hb4 : Below w3.heap.size w3 (w3.alloc (.cells #[.slice a1 l.length cap1, .slice a2 l'.length cap2] 23)) := bAlloc (Below.refl _ _) _
  have h4 := h3.keep hb4
  have h4' := h3'.keep hb4
  have hbk := Bk.new (w := w3) #[.slice a1 l.length cap1, .slice a2 l'.length cap2] 23 rfl
  have m4 := m2.keep hb4
  have HSM : Hid (w3.heap.size = mb + 1) := hsm
  clear hsm
  go_wp2_with fail
  refine (concatI_any _ _ _ l l' _ hbk h4 h4' (by omega)).mono ?_
  rintro e w5 ⟨o5, rfl, own5, hb5⟩
  have m5 := m4.keep hb5
  have hb35 := bStep hb4 hb5
  have hs35 := hb35.size
  have hsm := HSM.out
  have O5 : OwnI w5 (mb + 1) o5 (l ++ l') := own_less own5 (by have := hb4.size; omega)
  have hbw5 : Below w.heap.size w w5 := hbw2.trans ((hbm.trans (hb35.mono (by omega))).mono (by omega))
  have hmb : w.heap.size ≤ mb := hs2
  have hmb5 : mb < w5.heap.size := by omega
  have R5 : Is w5 o5 (l ++ l') := OwnI.is own5 (by simp; omega)
  obtain ⟨a5, cap5, rfl, -, hm5, -, -⟩ := R5
  unfold maxLen at hm5
  have HO5 : Hid (OwnI w5 (mb + 1) (.slice a5 (l ++ l').length cap5) (l ++ l')) := O5
  have hLn : (l ++ l').length ≤ 800 := by simp; omega
  clear own5 O5 h3 h3' h4 h4' hbk m2 m4 hb4 hb5 hb35 hs35 hsm hbm
  generalize l ++ l' = L at *
  go_wp2_with fail
  go_loopw [22] (fun i wr => ∃ (k : Nat) (M : List It), k ≤ L.length ∧ i = .int .i64 k ∧ MapIs thV thOk wr mb M ∧ (∀ s, tot M s = tot (L.take k) s) ∧ M.length ≤ k ∧ Bx mb w5 wr) (fun i _ => L.length - (intOf i).toNat)
  case atStart => exact ⟨0, [], by omega, rfl, m5, fun s => by simp, by simp, Bx.refl _ _⟩
  case round =>
    clear m5
    obtain ⟨k, M, hkl, rfl, hmap, htot, hML, hx⟩ := hrel
    have HT := (show Hid _ from htot)
    clear htot
    have hxs := hx.size
    by_cases hlt : k < L.length
    · have Rr : Is wr (.slice a5 L.length cap5) L := OwnI.is (own_keepx HO5.out hx (by omega)) (by omega)
      obtain ⟨a5', cap5', ee, -, -, -, hcells⟩ := Is.open Rr
      simp only [Value.slice.injEq, true_and] at ee
      obtain ⟨rfl, rfl⟩ := ee
      obtain ⟨g, off, K, V, D, rfl, hg, hr, d0, d1, d2⟩ := hcells k hlt
      have HR := (show Hid _ from hr)
      have hok := HTH.out _ (List.mem_of_getElem? hr)
      dsimp only at hok
      clear hr hcells Rr
      have ik : ((k : Int) < (L.length : Int)) := by omega
      have bt0 := Bk.new (w := wr) #[.int .i64 K, .int .i64 V, .int .i64 D] 34 rfl
      have hbt : Below wr.heap.size wr (wr.alloc (.cells #[.int .i64 K, .int .i64 V, .int .i64 D] 34)) := bAlloc (Below.refl _ _) _
      have hmap' := hmap.keep hbt
      have hx' := hx.trans (Bx.of_below hbt)
      have hmt := hmap.lt
      go_upto_region 7 with fail
      clear d0 d1 d2 hmap hx hbt
      generalize wr.heap.size = tb at *
      generalize World.alloc _ _ = wt at *
      obtain ⟨st, o1, o2, M', e1, e2, e3, hM', ht', hl2⟩ := MapIs.enter (hmap'.move (w1 := wt.drew) rfl) encT Try.underlying65 zeroI hok (tot M (K, V) + D)
      change (Instr.entryStore _ _ (.int .i64 (st : Int)) _).run _ _ = _ at e3
      have e0 := MapIs.look (hmap'.move (w1 := wt.drew) rfl) encT Try.underlying65 zeroI hok
      obtain ⟨y0, y1, y2⟩ := bt0.three
      have hsum : -4611686018427387904 ≤ tot M (K, V) + D ∧ tot M (K, V) + D ≤ 4611686018427387904 := by
        have h1 := tot_abs (L.take (k + 1)) (K, V)
        rw [take_snoc HR.out, tot_snoc, if_pos rfl, ← HT.out] at h1
        have h2 := absum_take L (k + 1)
        rw [take_snoc HR.out] at h2
        have := HA.out
        omega
      have HN : Hid (∀ s, tot M' s = tot (L.take (k + 1)) s) := fun s => by
        rw [ht', take_snoc HR.out, tot_snoc]
        by_cases e : (K, V) = s
        · rw [if_pos e, if_pos e, ← HT.out, e]
        · rw [if_neg e, if_neg e, HT.out]; omega
      clear ht'
      obtain ⟨hs1, hs2'⟩ := hsum
      generalize hT : tot M (K, V) = T at *
      have hTT : Hid (tot M (K, V) = T) := hT
      clear hT
      have iw : IntKind.i64.wrap (T + D) = T + D := by rw [IntKind.wrap_i64]; omega
      go_region
      clear e0 e1 e2 e3
      have hx2 : Bx mb w5 (setBlock wt.drew mb o2) := hx'.drew.putMap o2
      generalize setBlock wt.drew mb o2 = w7 at *
      go_wp2_with fail
      go_roundw
      case rel => exact ⟨k + 1, M', by omega, by go_num, hM', HN.out, by omega, hx2⟩
      case measure => simp [intOf]; omega
    · obtain rfl : k = L.length := by omega
      have HT2 : Hid (∀ s, tot M s = tot L s) := fun s => by rw [HT.out, List.take_length]
      have hbr : Below w.heap.size w wr := hx.below hbw5 (by omega) hmb
      have hbrs := hbr.size
      clear HT HTH
      go_wp2_with fail
      refine (itemsOf_k mb wr hmap (by omega) HT2.out).mono ?_
      rintro e w8 ⟨o8, rfl, own8, hb8⟩
      have O8 : Hid (OwnI w8 wr.heap.size o8 (sumL ltT L)) := own8
      clear own8
      go_wp2_with fail
      go_ret
      refine ⟨_, rfl, ?_, bStep hbr hb8⟩
      rw [HF.out]
      exact own_less O8.out hbrs
end Go.Proofs.Ytlddhfimiignaaa
