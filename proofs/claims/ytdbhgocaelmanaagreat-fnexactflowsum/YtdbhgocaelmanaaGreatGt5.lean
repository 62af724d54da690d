/- Grow and Concat of items, and SetBoth of the program and of its model: contracts. -/
import Derived.Test.YtdbhgocaelmanaaGreatGt2
import Derived.Test.YtdbhgocaelmanaaGreatGs7
import Derived.Test.YtdbhgocaelmanaaGreatGs2
/-! Grow and Concat of items, and SetBoth of the program and of its model: contracts. -/
namespace Go.Proofs.YtdbhgocaelmanaaGreat
open Go.RowKit Go.Shelf
open Go.ChangeMaps (setBlock)

theorem growI_any (n : Nat) (hn : n ≤ 2000000) (w : World) :
    Calls Tryz.prog 186 #[.slice none 0 0, .int .i64 n] w fun e w' => ∃ v : Value, e = .returned v ∧ OwnI w' w.heap.size v [] ∧ Below w.heap.size w w' := by
  obtain ⟨i0, hi, hz0, hz1, hz2⟩ := info_parts infoI
  by_cases h0 : n = 0
  · subst h0
    refine (Any8.slices_Grow_room growI none 0 0 0 w (by omega) (by omega) (by omega) (by omega)).mono ?_
    rintro e w' ⟨rfl, rfl⟩
    exact ⟨_, rfl, ownK_nil _ _ _ _ _, Below.refl _ _⟩
  · refine (Any8.slices_Grow_grow growI i0 _ hi hz0 (by omega) none 0 0 n [] w (by omega) (by omega) (by rw [hz2]; omega) (by omega) (by simp) (fun _ => rfl) (fun a ha => by cases ha)).mono ?_
    rintro e w' ⟨rfl, rfl⟩
    have hge := grownCap_ge w (0 + n) 0 (growI_ren.t 25)
    have hle := grownCap_le_maxLen w (0 + n) 0 (growI_ren.t 25) (by unfold maxLen; omega)
    generalize grownCap w (0 + n) 0 (growI_ren.t 25) = G at hge hle ⊢
    have e1 : (Value.agg #[.int .i64 0, .int .i64 0, .int .i64 0]).cells.size = 3 := by simp [Value.cells]
    refine ⟨_, rfl, ⟨by simp, .inr ⟨w.heap.size, G, _, rfl, Nat.le_refl _, heap_alloc_new w.drew _, Nat.zero_le _, hle, ?_, by simp⟩⟩, bAlloc (Below.refl _ w).drew _⟩
    simp only [Array.size_append, Builtin.zeroCells, Array.size_map, Array.size_range, e1]
    simp
    omega
theorem growI_eq {k : Int} {n : Nat} (h : k = (n : Int)) (hn : n ≤ 2000000) (w : World) :
    Calls Tryz.prog 186 #[.slice none 0 0, .int .i64 k] w fun e w' => ∃ v : Value, e = .returned v ∧ OwnI w' w.heap.size v [] ∧ Below w.heap.size w w' := by
  subst h; exact growI_any n hn w
set_option maxHeartbeats 4000000 in
theorem concatI_any (g0 : Nat) (v1 v2 : Value) (l1 l2 : List It) (w : World) (hb : Bk w g0 #[v1, v2] 32) (h1 : Is w v1 l1) (h2 : Is w v2 l2) (hl : l1.length + l2.length ≤ 2000000) :
    Calls Tryz.prog 122 #[.slice (some ⟨g0, 0, none⟩) 2 2] w fun e w' => ∃ o : Value, e = .returned o ∧ OwnI w' w.heap.size o (l1 ++ l2) ∧ Below w.heap.size w w' := by
  have H1 : Hid (Is w v1 l1) := h1
  have H2 : Hid (Is w v2 l2) := h2
  obtain ⟨a1, cap1, rfl, _, _, _, _⟩ := h1
  obtain ⟨a2, cap2, rfl, _, _, _, _⟩ := h2
  obtain ⟨c0, c1, _, _⟩ := hb.two
  go_enter Tryz.func122, Tryz.ntmps122
  generalize hn1 : l1.length = n1 at *
  generalize hn2 : l2.length = n2 at *
  have q1 : (0 : Int) ≤ (n1 : Int) := by omega
  have q2 : (n1 : Int) ≤ 2000000 := by omega
  have q3 : (0 : Int) ≤ (n1 : Int) + (n2 : Int) := by omega
  have q4 : (n1 : Int) + (n2 : Int) ≤ 2000000 := by omega
  have q5 : ¬ ((n1 : Int) < 0) := by omega
  have q6 : ¬ ((n1 : Int) + (n2 : Int) < 0) := by omega
  have E1 : Hid (l1.length = n1) := hn1
  have E2 : Hid (l2.length = n2) := hn2
  clear hn1 hn2
  go_wp2_with fail
  refine wp_loop_rounds 3 ?_
  rw [rounds_succ]
  go_wp2_with fail
  rw [rounds_succ]
  go_wp2_with fail
  rw [rounds_succ]
  go_wp2_with fail
  refine (growI_eq (n := n1 + n2) (by omega) (by omega) _).mono ?_
  rintro e w1 ⟨o1, rfl, own1, hb1⟩
  have hbk := hb.keep hb1
  have R1 := H1.out.keep hb1
  obtain ⟨d0, d1, _, _⟩ := hbk.two
  have hs1 := hb1.size
  have O1 : Hid (OwnI w1 w.heap.size o1 []) := own1
  clear own1 H1 c0 c1
  go_wp2_with fail
  refine wp_loop_rounds 3 ?_
  rw [rounds_succ]
  go_wp2_with (at_builtin; refine appIs _ rfl _ _ rfl w.heap.size _ [] rfl O1.out _ l1 rfl R1 (by have := E1.out; simp; omega) (by omega) ?_; intro v3 w3 own3 hg3)
  have hb3 : Below w.heap.size w w3 := Below.grew hb1 hg3 (by omega) (ownK_base O1.out)
  have hs3 := hb3.size
  have R2 := H2.out.keep hb3
  have O3 : Hid (OwnI w3 w.heap.size v3 l1) := by show OwnI _ _ _ _; simpa using own3
  obtain ⟨f0, f1, _, _⟩ := (hb.keep hb3).two
  clear own3 hg3 hbk d0 d1 R1 O1 hb1 H2 hb
  rw [rounds_succ]
  go_wp2_with (at_builtin; refine appIs _ rfl _ _ rfl w.heap.size _ l1 rfl O3.out _ l2 rfl R2 (by have := E1.out; have := E2.out; omega) (by omega) ?_; intro v5 w5 own5 hg5)
  have hb5 : Below w.heap.size w w5 := Below.grew hb3 hg5 (by omega) (ownK_base O3.out)
  have O5 : Hid (OwnI w5 w.heap.size v5 (l1 ++ l2)) := own5
  clear own5 hg5 f0 f1 R2 O3 hb3
  rw [rounds_succ]
  go_wp2_with fail
  go_returns
  exact ⟨_, rfl, O5.out, hb5⟩
theorem Bx.putMap {g : Nat} {a w : World} (h : Bx g a w) (o : Obj) : Bx g a (setBlock w g o) :=
  h.trans ⟨rfl, rfl, rfl, by rw [size_setBlock]; exact Nat.le_refl _, fun _ _ hg => setBlock_at hg⟩
theorem it_th {s : Int × Int} (h : itK s) : thOk s := by
  obtain ⟨h1, h2, h3, h4⟩ := h
  exact ⟨by unfold fit63; omega, by unfold fit63; omega⟩
theorem itemsOf_k {M L : List It} (b : Nat) (w : World) (hmap : MapIs thV thOk w b M) (hMl : M.length ≤ 1000000) (ht : ∀ s, tot M s = tot L s) :
    Calls Tryz.prog 85 #[.map (some b)] w fun e w' => ∃ o : Value, e = .returned o ∧ OwnI w' w.heap.size o (sumL ltT L) ∧ Below w.heap.size w w' := by
  rw [← sumL_congr ltT_ord ht]; exact itemsOf_any b M w hmap hMl
set_option maxRecDepth 100000 in
set_option maxHeartbeats 8000000 in
theorem implSetBoth_any (v v' : Value) (l l' : List It) (w : World) (h : Is w v l) (h' : Is w v' l') :
    Calls Tryz.prog 48 #[v, v'] w fun e w' => ∃ o : Value, e = .returned o ∧ OwnI w' w.heap.size o (bothS l l') ∧ Below w.heap.size w w' := by
  cases hk : sokB l
  · have HF : Hid (bothS l l' = []) := bothS_no1 hk
    go_enter Tryz.func48, Tryz.ntmps48
    go_wp2_with fail
    refine (implSetOk_eq hk h).mono ?_
    rintro e w1 ⟨rfl, hb1⟩
    go_wp2_with fail
    go_ret
    refine ⟨_, rfl, ?_, hb1⟩
    rw [HF.out]
    exact ownK_nil _ _ _ _ _
  cases hk' : sokB l'
  · have HF : Hid (bothS l l' = []) := bothS_no2 hk'
    go_enter Tryz.func48, Tryz.ntmps48
    go_wp2_with fail
    refine (implSetOk_eq hk h).mono ?_
    rintro e w1 ⟨rfl, hb1⟩
    have h1' := h'.keep hb1
    go_wp2_with fail
    refine (implSetOk_eq hk' h1').mono ?_
    rintro e w2 ⟨rfl, hb2⟩
    go_wp2_with fail
    go_ret
    refine ⟨_, rfl, ?_, bStep hb1 hb2⟩
    rw [HF.out]
    exact ownK_nil _ _ _ _ _
  have HF : Hid (bothS l l' = sumL ltT (l ++ l')) := bothS_yes hk hk'
  have ha : absum (l ++ l') ≤ 879609302220800 := by rw [absum_append]; have := sok_abs hk; have := sok_abs hk'; omega
  have HA : Hid (absum (l ++ l') ≤ 879609302220800) := ha
  have HTH : Hid (∀ r ∈ l ++ l', thOk r.1) := fun r hr => it_th (app_k (sok_k hk) (sok_k hk') r hr)
  have hl := sok_len hk
  have hl' := sok_len hk'
  have HH : Hid (Is w v l) := h
  have HH' : Hid (Is w v' l') := h'
  obtain ⟨a1, cap1, rfl, -, -, -, -⟩ := h
  obtain ⟨a2, cap2, rfl, -, -, -, -⟩ := h'
  clear ha
  have hmm := @run_makeMap Tryz.prog
  go_enter Tryz.func48, Tryz.ntmps48
  go_wp2_with fail
  refine (implSetOk_eq hk HH.out).mono ?_
  rintro e w1 ⟨rfl, hb1⟩
  have h1 := HH.out.keep hb1
  have h1' := HH'.out.keep hb1
  clear HH HH'
  go_wp2_with fail
  refine (implSetOk_eq hk' h1').mono ?_
  rintro e w2 ⟨rfl, hb2⟩
  have hbw2 := bStep hb1 hb2
  have hs2 := hbw2.size
  have m2 : MapIs thV thOk (w2.alloc (.map #[] 0)) w2.heap.size [] := MapIs.new w2 rfl
  have hbm : Below w2.heap.size w2 (w2.alloc (.map #[] 0)) := bAlloc (Below.refl _ _) _
  have h3 := (h1.keep hb2).keep hbm
  have h3' := (h1'.keep hb2).keep hbm
  have hsm : (w2.alloc (.map #[] 0)).heap.size = w2.heap.size + 1 := by simp
  clear h1 h1' hb1 hb2 hk hk'
  go_upto_region 4 with fail
  clear hmm
  generalize hMB : w2.heap.size = mb at *
  generalize (w2.alloc (.map #[] 0)) = w3 at *
  have hb4 : Below w3.heap.size w3 (w3.alloc (.cells #[.slice a1 l.length cap1, .slice a2 l'.length cap2] 32)) := bAlloc (Below.refl _ _) _
  have h4 := h3.keep hb4
  have h4' := h3'.keep hb4
  have hbk := Bk.new (w := w3) #[.slice a1 l.length cap1, .slice a2 l'.length cap2] 32 rfl
  have m4 := m2.keep hb4
  have HSM : Hid (w3.heap.size = mb + 1) := hsm
  clear hsm
  go_wp2_with fail
  refine (concatI_any _ _ _ l l' _ hbk h4 h4' (by omega)).mono ?_
  rintro e w5 ⟨o5, rfl, own5, hb5⟩
  have m5 := m4.keep hb5
  have hb35 := bStep hb4 hb5
  have hs35 := hb35.size
  have hsm := HSM.out
  have O5 : OwnI w5 (mb + 1) o5 (l ++ l') := own_less own5 (by have := hb4.size; omega)
  have hbw5 : Below w.heap.size w w5 := hbw2.trans ((hbm.trans (hb35.mono (by omega))).mono (by omega))
  have hmb : w.heap.size ≤ mb := hs2
  have hmb5 : mb < w5.heap.size := by omega
  have R5 : Is w5 o5 (l ++ l') := OwnI.is own5 (by simp; omega)
  obtain ⟨a5, cap5, rfl, -, hm5, -, -⟩ := R5
  unfold maxLen at hm5
  have HO5 : Hid (OwnI w5 (mb + 1) (.slice a5 (l ++ l').length cap5) (l ++ l')) := O5
  have hLn : (l ++ l').length ≤ 800 := by simp; omega
  clear own5 O5 h3 h3' h4 h4' hbk m2 m4 hb4 hb5 hb35 hs35 hsm hbm
  generalize l ++ l' = L at *
  go_wp2_with fail
  go_loopw [22] (fun i wr => ∃ (k : Nat) (M : List It), k ≤ L.length ∧ i = .int .i64 k ∧ MapIs thV thOk wr mb M ∧ (∀ s, tot M s = tot (L.take k) s) ∧ M.length ≤ k ∧ Bx mb w5 wr) (fun i _ => L.length - (intOf i).toNat)
  case atStart => exact ⟨0, [], by omega, rfl, m5, fun s => by simp, by simp, Bx.refl _ _⟩
  case round =>
    clear m5
    obtain ⟨k, M, hkl, rfl, hmap, htot, hML, hx⟩ := hrel
    have HT := (show Hid _ from htot)
    clear htot
    have hxs := hx.size
    by_cases hlt : k < L.length
    · have Rr : Is wr (.slice a5 L.length cap5) L := OwnI.is (own_keepx HO5.out hx (by omega)) (by omega)
      obtain ⟨a5', cap5', ee, -, -, -, hcells⟩ := Is.open Rr
      simp only [Value.slice.injEq, true_and] at ee
      obtain ⟨rfl, rfl⟩ := ee
      obtain ⟨g, off, K, V, D, rfl, hg, hr, d0, d1, d2⟩ := hcells k hlt
      have HR := (show Hid _ from hr)
      have hok := HTH.out _ (List.mem_of_getElem? hr)
      dsimp only at hok
      clear hr hcells Rr
      have ik : ((k : Int) < (L.length : Int)) := by omega
      have bt0 := Bk.new (w := wr) #[.int .i64 K, .int .i64 V, .int .i64 D] 96 rfl
      have hbt : Below wr.heap.size wr (wr.alloc (.cells #[.int .i64 K, .int .i64 V, .int .i64 D] 96)) := bAlloc (Below.refl _ _) _
      have hmap' := hmap.keep hbt
      have hx' := hx.trans (Bx.of_below hbt)
      have hmt := hmap.lt
      go_upto_region 7 with fail
      clear d0 d1 d2 hmap hx hbt
      generalize wr.heap.size = tb at *
      generalize World.alloc _ _ = wt at *
      obtain ⟨st, o1, o2, M', e1, e2, e3, hM', ht', hl2⟩ := MapIs.enter (hmap'.move (w1 := wt.drew) rfl) encT Tryz.underlying98 zeroI hok (tot M (K, V) + D)
      change (Instr.entryStore _ _ (.int .i64 (st : Int)) _).run _ _ = _ at e3
      have e0 := MapIs.look (hmap'.move (w1 := wt.drew) rfl) encT Tryz.underlying98 zeroI hok
      obtain ⟨y0, y1, y2⟩ := bt0.three
      have hsum : -4611686018427387904 ≤ tot M (K, V) + D ∧ tot M (K, V) + D ≤ 4611686018427387904 := by
        have h1 := tot_abs (L.take (k + 1)) (K, V)
        rw [take_snoc HR.out, tot_snoc, if_pos rfl, ← HT.out] at h1
        have h2 := absum_take L (k + 1)
        rw [take_snoc HR.out] at h2
        have := HA.out
        omega
      have HN : Hid (∀ s, tot M' s = tot (L.take (k + 1)) s) := fun s => by
        rw [ht', take_snoc HR.out, tot_snoc]
        by_cases e : (K, V) = s
        · rw [if_pos e, if_pos e, ← HT.out, e]
        · rw [if_neg e, if_neg e, HT.out]; omega
      clear ht'
      obtain ⟨hs1, hs2'⟩ := hsum
      generalize hT : tot M (K, V) = T at *
      have hTT : Hid (tot M (K, V) = T) := hT
      clear hT
      have iw : IntKind.i64.wrap (T + D) = T + D := by rw [IntKind.wrap_i64]; omega
      go_region
      clear e0 e1 e2 e3
      have hx2 : Bx mb w5 (setBlock wt.drew mb o2) := hx'.drew.putMap o2
      generalize setBlock wt.drew mb o2 = w7 at *
      go_wp2_with fail
      go_roundw
      case rel => exact ⟨k + 1, M', by omega, by go_num, hM', HN.out, by omega, hx2⟩
      case measure => simp [intOf]; omega
    · obtain rfl : k = L.length := by omega
      have HT2 : Hid (∀ s, tot M s = tot L s) := fun s => by rw [HT.out, List.take_length]
      have hbr : Below w.heap.size w wr := hx.below hbw5 (by omega) hmb
      have hbrs := hbr.size
      clear HT HTH
      go_wp2_with fail
      refine (itemsOf_k mb wr hmap (by omega) HT2.out).mono ?_
      rintro e w8 ⟨o8, rfl, own8, hb8⟩
      have O8 : Hid (OwnI w8 wr.heap.size o8 (sumL ltT L)) := own8
      clear own8
      go_wp2_with fail
      go_ret
      refine ⟨_, rfl, ?_, bStep hbr hb8⟩
      rw [HF.out]
      exact own_less O8.out hbrs
end Go.Proofs.YtdbhgocaelmanaaGreat

/-! SetCount of the program: the contract. -/
namespace Go.Proofs.YtdbhgocaelmanaaGreat
open Go.RowKit

theorem Bk.quad {w : World} {k : Nat} {x0 x1 x2 x3 : Value} {t : TypeId} (h : Bk w k #[x0, x1, x2, x3] t) :
    w.cell? ⟨k, 0, none⟩ = some x0 ∧ w.cell? ⟨k, 1, none⟩ = some x1 ∧ w.cell? ⟨k, 2, none⟩ = some x2 ∧ w.cell? ⟨k, 3, none⟩ = some x3 := by
  unfold Bk at h; simp [World.cell?, h]
theorem idx4_0 (n0 n1 n2 n3 : Int) (u : World) : (Instr.index 161 (.agg #[.int .i64 n0, .int .i64 n1, .int .i64 n2, .int .i64 n3]) (.int .i64 0)).run Tryz.prog u = .ok (.int .i64 n0) u := by kernel_rfl
theorem idx4_1 (n0 n1 n2 n3 : Int) (u : World) : (Instr.index 161 (.agg #[.int .i64 n0, .int .i64 n1, .int .i64 n2, .int .i64 n3]) (.int .i64 1)).run Tryz.prog u = .ok (.int .i64 n1) u := by kernel_rfl
theorem idx4_2 (n0 n1 n2 n3 : Int) (u : World) : (Instr.index 161 (.agg #[.int .i64 n0, .int .i64 n1, .int .i64 n2, .int .i64 n3]) (.int .i64 2)).run Tryz.prog u = .ok (.int .i64 n2) u := by kernel_rfl
theorem idx4_3 (n0 n1 n2 n3 : Int) (u : World) : (Instr.index 161 (.agg #[.int .i64 n0, .int .i64 n1, .int .i64 n2, .int .i64 n3]) (.int .i64 3)).run Tryz.prog u = .ok (.int .i64 n3) u := by kernel_rfl
set_option maxRecDepth 100000 in
set_option maxHeartbeats 16000000 in
theorem implSetCount_any (v : Value) (l : List It) (w : World) (h : Is w v l) :
    Calls Tryz.prog 86 #[v] w fun e w' => ∃ o : Value, e = .returned o ∧ OwnI w' w.heap.size o (countS l) ∧ Below w.heap.size w w' := by
  cases hk : sokB l
  · have HF : Hid (countS l = []) := countS_no hk
    go_enter Tryz.func86, Tryz.ntmps86
    go_wp2_with fail
    refine (implSetOk_eq hk h).mono ?_
    rintro e w1 ⟨rfl, hb1⟩
    go_wp2_with fail
    go_ret
    refine ⟨_, rfl, ?_, hb1⟩
    rw [HF.out]
    exact ownK_nil _ _ _ _ _
  have HF : Hid (countS l = accF (countK l) 4) := by show _ = _; rw [accF_four]; exact countS_yes hk
  have hl := sok_len hk
  have HN : Hid (∀ (k : Nat) (key : Int), -(1099511627776 * 400) ≤ keyN (l.take k) key ∧ keyN (l.take k) key ≤ 1099511627776 * 400) := fun k key => by
    have h1 := keyN_abs (l.take k) key; have h2 := sok_take hk k; omega
  have HP : Hid (∀ (k : Nat) (K V D : Int), l[k]? = some ((K, V), D) → 0 ≤ K ∧ K ≤ 3 ∧ -1099511627776 ≤ D ∧ D ≤ 1099511627776) := fun k K V D hr => by
    have := it_parts (sok_at hk (List.mem_of_getElem? hr)); simp only at this; omega
  go_enter Tryz.func86, Tryz.ntmps86
  go_wp2_with fail
  refine (implSetOk_eq hk h).mono ?_
  rintro e w1 ⟨rfl, hb1⟩
  have hs1 := hb1.size
  obtain ⟨a, cap, rfl, hc, hm, hn, hcells⟩ := Is.open (h.keep hb1)
  unfold maxLen at hm
  have HC := (show Hid _ from hcells)
  clear hcells h hk
  have b0 : Bk (w1.alloc (.cells #[.int .i64 0, .int .i64 0, .int .i64 0, .int .i64 0] 161)) w1.heap.size #[.int .i64 0, .int .i64 0, .int .i64 0, .int .i64 0] 161 := Bk.new _ _ rfl
  have hb0 : Below w1.heap.size w1 (w1.alloc (.cells #[.int .i64 0, .int .i64 0, .int .i64 0, .int .i64 0] 161)) := bAlloc (Below.refl _ _) _
  go_wp2_with fail
  go_loopw [14] (fun i wr => ∃ k : Nat, k ≤ l.length ∧ i = .int .i64 k ∧ Bk wr w1.heap.size #[.int .i64 (keyN (l.take k) 0), .int .i64 (keyN (l.take k) 1), .int .i64 (keyN (l.take k) 2), .int .i64 (keyN (l.take k) 3)] 161 ∧ Below w1.heap.size w1 wr) (fun i _ => l.length - (intOf i).toNat)
  case atStart => exact ⟨0, by omega, rfl, b0, hb0⟩
  case round =>
    clear b0 hb0
    obtain ⟨k, hkl, rfl, hbk, hb⟩ := hrel
    obtain ⟨m0, m0'⟩ := HN.out k 0
    obtain ⟨m1, m1'⟩ := HN.out k 1
    obtain ⟨m2, m2'⟩ := HN.out k 2
    obtain ⟨m3, m3'⟩ := HN.out k 3
    have hsz := hb.size
    have hlw := hbk.lt
    by_cases hlt : k < l.length
    · obtain ⟨g, off, K, V, D, rfl, hg, hr, c0, c1, c2⟩ := HC.out k hlt
      obtain ⟨p0, p1, p2, p3⟩ := HP.out k _ _ _ hr
      have d0 := cell_below hb c0
      have d1 := cell_below hb c1
      have d2 := cell_below hb c2
      have ik : ((k : Int) < (l.length : Int)) := by omega
      have HK : Hid (keyN (l.take (k + 1)) 0 = keyN (l.take k) 0 + (if K = 0 then D else 0) ∧ keyN (l.take (k + 1)) 1 = keyN (l.take k) 1 + (if K = 1 then D else 0) ∧ keyN (l.take (k + 1)) 2 = keyN (l.take k) 2 + (if K = 2 then D else 0) ∧ keyN (l.take (k + 1)) 3 = keyN (l.take k) 3 + (if K = 3 then D else 0)) := by rw [take_snoc hr]; exact ⟨keyN_snoc _ _ _, keyN_snoc _ _ _, keyN_snoc _ _ _, keyN_snoc _ _ _⟩
      have bx := Bk.new (w := wr) #[.int .i64 K, .int .i64 V, .int .i64 D] 96 rfl
      have hbx : Below w1.heap.size w1 (wr.alloc (.cells #[.int .i64 K, .int .i64 V, .int .i64 D] 96)) := bAlloc hb _
      have bs := hbk.alloc (.cells #[.int .i64 K, .int .i64 V, .int .i64 D] 96)
      clear c0 c1 c2 hr hbk
      generalize keyN (l.take k) 0 = n0 at *
      generalize keyN (l.take k) 1 = n1 at *
      generalize keyN (l.take k) 2 = n2 at *
      generalize keyN (l.take k) 3 = n3 at *
      go_upto_region 7 with fail
      clear d0 d1 d2
      generalize wr.heap.size = tb at *
      generalize World.alloc _ _ = wx at *
      obtain ⟨q0, q1, q2⟩ := bx.three
      obtain ⟨s0, s1, s2, s3⟩ := bs.quad
      obtain rfl | rfl | rfl | rfl : K = 0 ∨ K = 1 ∨ K = 2 ∨ K = 3 := by omega
      · have iw : IntKind.i64.wrap (n0 + D) = n0 + D := by rw [IntKind.wrap_i64]; omega
        have fj := bs.free 0
        go_region
        have bs2 := (bs.set 0 (.int .i64 (n0 + D))).drew
        have hb2 : Below w1.heap.size w1 (wx.setCell ⟨w1.heap.size, 0, none⟩ (.int .i64 (n0 + D))).drew := (hbx.setCell (by simp) _).drew
        generalize (wx.setCell ⟨w1.heap.size, 0, none⟩ (.int .i64 (n0 + D))).drew = w7 at *
        obtain ⟨e0, e1, e2, e3⟩ := HK.out
        have HE : Hid (keyN (l.take (k + 1)) 0 = n0 + D ∧ keyN (l.take (k + 1)) 1 = n1 ∧ keyN (l.take (k + 1)) 2 = n2 ∧ keyN (l.take (k + 1)) 3 = n3) := ⟨by rw [e0]; simp, by rw [e1]; simp, by rw [e2]; simp, by rw [e3]; simp⟩
        clear e0 e1 e2 e3 q0 q1 q2 s0 s1 s2 s3 fj
        go_wp2_with fail
        go_roundw
        case rel =>
          refine ⟨k + 1, by omega, by go_num, ?_, hb2⟩
          rw [HE.out.1, HE.out.2.1, HE.out.2.2.1, HE.out.2.2.2]
          exact bs2
        case measure => simp [intOf]; omega
      · have iw : IntKind.i64.wrap (n1 + D) = n1 + D := by rw [IntKind.wrap_i64]; omega
        have fj := bs.free 1
        go_region
        have bs2 := (bs.set 1 (.int .i64 (n1 + D))).drew
        have hb2 : Below w1.heap.size w1 (wx.setCell ⟨w1.heap.size, 1, none⟩ (.int .i64 (n1 + D))).drew := (hbx.setCell (by simp) _).drew
        generalize (wx.setCell ⟨w1.heap.size, 1, none⟩ (.int .i64 (n1 + D))).drew = w7 at *
        obtain ⟨e0, e1, e2, e3⟩ := HK.out
        have HE : Hid (keyN (l.take (k + 1)) 0 = n0 ∧ keyN (l.take (k + 1)) 1 = n1 + D ∧ keyN (l.take (k + 1)) 2 = n2 ∧ keyN (l.take (k + 1)) 3 = n3) := ⟨by rw [e0]; simp, by rw [e1]; simp, by rw [e2]; simp, by rw [e3]; simp⟩
        clear e0 e1 e2 e3 q0 q1 q2 s0 s1 s2 s3 fj
        go_wp2_with fail
        go_roundw
        case rel =>
          refine ⟨k + 1, by omega, by go_num, ?_, hb2⟩
          rw [HE.out.1, HE.out.2.1, HE.out.2.2.1, HE.out.2.2.2]
          exact bs2
        case measure => simp [intOf]; omega
      · have iw : IntKind.i64.wrap (n2 + D) = n2 + D := by rw [IntKind.wrap_i64]; omega
        have fj := bs.free 2
        go_region
        have bs2 := (bs.set 2 (.int .i64 (n2 + D))).drew
        have hb2 : Below w1.heap.size w1 (wx.setCell ⟨w1.heap.size, 2, none⟩ (.int .i64 (n2 + D))).drew := (hbx.setCell (by simp) _).drew
        generalize (wx.setCell ⟨w1.heap.size, 2, none⟩ (.int .i64 (n2 + D))).drew = w7 at *
        obtain ⟨e0, e1, e2, e3⟩ := HK.out
        have HE : Hid (keyN (l.take (k + 1)) 0 = n0 ∧ keyN (l.take (k + 1)) 1 = n1 ∧ keyN (l.take (k + 1)) 2 = n2 + D ∧ keyN (l.take (k + 1)) 3 = n3) := ⟨by rw [e0]; simp, by rw [e1]; simp, by rw [e2]; simp, by rw [e3]; simp⟩
        clear e0 e1 e2 e3 q0 q1 q2 s0 s1 s2 s3 fj
        go_wp2_with fail
        go_roundw
        case rel =>
          refine ⟨k + 1, by omega, by go_num, ?_, hb2⟩
          rw [HE.out.1, HE.out.2.1, HE.out.2.2.1, HE.out.2.2.2]
          exact bs2
        case measure => simp [intOf]; omega
      · have iw : IntKind.i64.wrap (n3 + D) = n3 + D := by rw [IntKind.wrap_i64]; omega
        have fj := bs.free 3
        go_region
        have bs2 := (bs.set 3 (.int .i64 (n3 + D))).drew
        have hb2 : Below w1.heap.size w1 (wx.setCell ⟨w1.heap.size, 3, none⟩ (.int .i64 (n3 + D))).drew := (hbx.setCell (by simp) _).drew
        generalize (wx.setCell ⟨w1.heap.size, 3, none⟩ (.int .i64 (n3 + D))).drew = w7 at *
        obtain ⟨e0, e1, e2, e3⟩ := HK.out
        have HE : Hid (keyN (l.take (k + 1)) 0 = n0 ∧ keyN (l.take (k + 1)) 1 = n1 ∧ keyN (l.take (k + 1)) 2 = n2 ∧ keyN (l.take (k + 1)) 3 = n3 + D) := ⟨by rw [e0]; simp, by rw [e1]; simp, by rw [e2]; simp, by rw [e3]; simp⟩
        clear e0 e1 e2 e3 q0 q1 q2 s0 s1 s2 s3 fj
        go_wp2_with fail
        go_roundw
        case rel =>
          refine ⟨k + 1, by omega, by go_num, ?_, hb2⟩
          rw [HE.out.1, HE.out.2.1, HE.out.2.2.1, HE.out.2.2.2]
          exact bs2
        case measure => simp [intOf]; omega
    · obtain rfl : k = l.length := by omega
      rw [List.take_length] at hbk m0 m0' m1 m1' m2 m2' m3 m3'
      obtain ⟨s0, s1, s2, s3⟩ := hbk.quad
      have HK : Hid (countK l 0 = (if keyN l 0 = 0 then [] else [((0, keyN l 0 % 100), 1)]) ∧ countK l 1 = (if keyN l 1 = 0 then [] else [((1, keyN l 1 % 100), 1)]) ∧ countK l 2 = (if keyN l 2 = 0 then [] else [((2, keyN l 2 % 100), 1)]) ∧ countK l 3 = (if keyN l 3 = 0 then [] else [((3, keyN l 3 % 100), 1)])) := ⟨rfl, rfl, rfl, rfl⟩
      have hbw := bStep hb1 hb
      have hsw := hbw.size
      clear hbk HC HP HN
      generalize keyN l 0 = n0 at *
      generalize keyN l 1 = n1 at *
      generalize keyN l 2 = n2 at *
      generalize keyN l 3 = n3 at *
      have HL : Hid (∀ k : Nat, (accF (countK l) k).length ≤ k * 1) := accF_len (fun k => countK_len l k)
      have HZ : Hid (accF (countK l) 1 = accF (countK l) 0 ++ countK l 0 ∧ accF (countK l) 2 = accF (countK l) 1 ++ countK l 1 ∧ accF (countK l) 3 = accF (countK l) 2 ++ countK l 2 ∧ accF (countK l) 4 = accF (countK l) 3 ++ countK l 3) := ⟨rfl, rfl, rfl, rfl⟩
      obtain ⟨W, hW⟩ : ∃ W, W = wr := ⟨_, rfl⟩
      subst hW
      go_wp2_with fail
      go_loopw [6, 28] (fun o i wz => ∃ k : Nat, k ≤ 4 ∧ i = .int .i64 k ∧ OwnI wz W.heap.size o (accF (countK l) k) ∧ Below W.heap.size W wz) (fun _ i _ => 4 - (intOf i).toNat)
      case atStart => exact ⟨0, by omega, rfl, ownK_nil _ _ _ _ _, Below.refl _ _⟩
      case round =>
        clear s0 s1 s2 s3
        obtain ⟨k, hk4, rfl, hown, hbz⟩ := hrel
        have HO : Hid (OwnI wr W.heap.size u6 (accF (countK l) k)) := hown
        have h1 := HL.out k
        have hzs := hbz.size
        clear hown
        by_cases hlt : k < 4
        · obtain rfl | rfl | rfl | rfl : k = 0 ∨ k = 1 ∨ k = 2 ∨ k = 3 := by omega
          · by_cases hz : n0 = 0
            · subst hz
              have ix := idx4_0 0 n1 n2 n3
              have HQ : Hid (accF (countK l) (0 + 1) = accF (countK l) 0) := by show _ = _; rw [HZ.out.1, HK.out.1, if_pos rfl, List.append_nil]
              generalize accF (countK l) 0 = LL at *
              go_wp2_with fail
              go_roundw
              case rel => exact ⟨0 + 1, by omega, by go_num, by rw [HQ.out]; exact HO.out, hbz⟩
              case measure => simp [intOf]
            · have nz : (n0 == 0) = false := by simpa using hz
              have ix := idx4_0 n0 n1 n2 n3
              have HQ : Hid (accF (countK l) (0 + 1) = accF (countK l) 0 ++ [((0, n0 % 100), 1)]) := by show _ = _; rw [HZ.out.1, HK.out.1, if_neg hz]
              go_wp2_with fail
              refine (valOf_any n0 _).mono ?_
              rintro e w8 ⟨rfl, hb8⟩
              have hbn := bStep hbz hb8
              have hsn := hbn.size
              have O2 : OwnI w8 W.heap.size u6 (accF (countK l) 0) := own_keep HO.out hb8
              generalize accF (countK l) 0 = LL at *
              go_wp2_with (at_builtin; refine appI _ rfl _ _ rfl W.heap.size _ LL rfl (O2.alloc _) _ 0 (n0 % 100) 1 rfl (Bk.new _ _ rfl) (by omega) (by simp; omega) ?_; intro g9 cap9 w9 own9 hgrow hlg)
              have hb9 : Below W.heap.size W w9 := Below.grew (bAlloc hbn _) hgrow (by simp; omega) (ownK_base O2)
              exact ⟨⟨0 + 1, by omega, by go_num, by rw [HQ.out]; exact own9, hb9⟩, by simp [intOf]⟩
          · by_cases hz : n1 = 0
            · subst hz
              have ix := idx4_1 n0 0 n2 n3
              have HQ : Hid (accF (countK l) (1 + 1) = accF (countK l) 1) := by show _ = _; rw [HZ.out.2.1, HK.out.2.1, if_pos rfl, List.append_nil]
              generalize accF (countK l) 1 = LL at *
              go_wp2_with fail
              go_roundw
              case rel => exact ⟨1 + 1, by omega, by go_num, by rw [HQ.out]; exact HO.out, hbz⟩
              case measure => simp [intOf]
            · have nz : (n1 == 0) = false := by simpa using hz
              have ix := idx4_1 n0 n1 n2 n3
              have HQ : Hid (accF (countK l) (1 + 1) = accF (countK l) 1 ++ [((1, n1 % 100), 1)]) := by show _ = _; rw [HZ.out.2.1, HK.out.2.1, if_neg hz]
              go_wp2_with fail
              refine (valOf_any n1 _).mono ?_
              rintro e w8 ⟨rfl, hb8⟩
              have hbn := bStep hbz hb8
              have hsn := hbn.size
              have O2 : OwnI w8 W.heap.size u6 (accF (countK l) 1) := own_keep HO.out hb8
              generalize accF (countK l) 1 = LL at *
              go_wp2_with (at_builtin; refine appI _ rfl _ _ rfl W.heap.size _ LL rfl (O2.alloc _) _ 1 (n1 % 100) 1 rfl (Bk.new _ _ rfl) (by omega) (by simp; omega) ?_; intro g9 cap9 w9 own9 hgrow hlg)
              have hb9 : Below W.heap.size W w9 := Below.grew (bAlloc hbn _) hgrow (by simp; omega) (ownK_base O2)
              exact ⟨⟨1 + 1, by omega, by go_num, by rw [HQ.out]; exact own9, hb9⟩, by simp [intOf]⟩
          · by_cases hz : n2 = 0
            · subst hz
              have ix := idx4_2 n0 n1 0 n3
              have HQ : Hid (accF (countK l) (2 + 1) = accF (countK l) 2) := by show _ = _; rw [HZ.out.2.2.1, HK.out.2.2.1, if_pos rfl, List.append_nil]
              generalize accF (countK l) 2 = LL at *
              go_wp2_with fail
              go_roundw
              case rel => exact ⟨2 + 1, by omega, by go_num, by rw [HQ.out]; exact HO.out, hbz⟩
              case measure => simp [intOf]
            · have nz : (n2 == 0) = false := by simpa using hz
              have ix := idx4_2 n0 n1 n2 n3
              have HQ : Hid (accF (countK l) (2 + 1) = accF (countK l) 2 ++ [((2, n2 % 100), 1)]) := by show _ = _; rw [HZ.out.2.2.1, HK.out.2.2.1, if_neg hz]
              go_wp2_with fail
              refine (valOf_any n2 _).mono ?_
              rintro e w8 ⟨rfl, hb8⟩
              have hbn := bStep hbz hb8
              have hsn := hbn.size
              have O2 : OwnI w8 W.heap.size u6 (accF (countK l) 2) := own_keep HO.out hb8
              generalize accF (countK l) 2 = LL at *
              go_wp2_with (at_builtin; refine appI _ rfl _ _ rfl W.heap.size _ LL rfl (O2.alloc _) _ 2 (n2 % 100) 1 rfl (Bk.new _ _ rfl) (by omega) (by simp; omega) ?_; intro g9 cap9 w9 own9 hgrow hlg)
              have hb9 : Below W.heap.size W w9 := Below.grew (bAlloc hbn _) hgrow (by simp; omega) (ownK_base O2)
              exact ⟨⟨2 + 1, by omega, by go_num, by rw [HQ.out]; exact own9, hb9⟩, by simp [intOf]⟩
          · by_cases hz : n3 = 0
            · subst hz
              have ix := idx4_3 n0 n1 n2 0
              have HQ : Hid (accF (countK l) (3 + 1) = accF (countK l) 3) := by show _ = _; rw [HZ.out.2.2.2, HK.out.2.2.2, if_pos rfl, List.append_nil]
              generalize accF (countK l) 3 = LL at *
              go_wp2_with fail
              go_roundw
              case rel => exact ⟨3 + 1, by omega, by go_num, by rw [HQ.out]; exact HO.out, hbz⟩
              case measure => simp [intOf]
            · have nz : (n3 == 0) = false := by simpa using hz
              have ix := idx4_3 n0 n1 n2 n3
              have HQ : Hid (accF (countK l) (3 + 1) = accF (countK l) 3 ++ [((3, n3 % 100), 1)]) := by show _ = _; rw [HZ.out.2.2.2, HK.out.2.2.2, if_neg hz]
              go_wp2_with fail
              refine (valOf_any n3 _).mono ?_
              rintro e w8 ⟨rfl, hb8⟩
              have hbn := bStep hbz hb8
              have hsn := hbn.size
              have O2 : OwnI w8 W.heap.size u6 (accF (countK l) 3) := own_keep HO.out hb8
              generalize accF (countK l) 3 = LL at *
              go_wp2_with (at_builtin; refine appI _ rfl _ _ rfl W.heap.size _ LL rfl (O2.alloc _) _ 3 (n3 % 100) 1 rfl (Bk.new _ _ rfl) (by omega) (by simp; omega) ?_; intro g9 cap9 w9 own9 hgrow hlg)
              have hb9 : Below W.heap.size W w9 := Below.grew (bAlloc hbn _) hgrow (by simp; omega) (ownK_base O2)
              exact ⟨⟨3 + 1, by omega, by go_num, by rw [HQ.out]; exact own9, hb9⟩, by simp [intOf]⟩
        · obtain rfl : k = 4 := by omega
          go_wp2_with fail
          go_ret
          refine ⟨_, rfl, ?_, bStep hbw hbz⟩
          rw [HF.out]
          exact own_less HO.out hsw
end Go.Proofs.YtdbhgocaelmanaaGreat
