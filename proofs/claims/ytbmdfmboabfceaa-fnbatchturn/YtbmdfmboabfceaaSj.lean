/- BatchAt of the program: the contract. -/
import Derived.Test.YtbmdfmboabfceaaSi
namespace Go.Proofs.Ytbmdfmboabfceaa
open Go.RowKit Go.Shelf
open Go.ChangeMaps (setBlock)
attribute [local go_sem] Oper.semAt_some

theorem implTimeOk_eq {a b : Int} {r : Bool} (h : okB a b = r) (w : World) : Calls Try.prog 112 #[tv a b] w fun e w' => e = .returned (.bool r) ∧ Below w.heap.size w w' := by
  rw [← h]; exact implOk_any a b w
theorem Kx.put {N mb : Nat} (W : World) (l : Nat) (o o' : Obj) (hN : N ≤ l) (h : W.heap[l]? = some o) : Kx N mb W (W.putObj l o') := by
  have hg := grownBy_putObj' W l o'
  exact ⟨hg.size, fun k hk _ => hg.block k (by have := (Array.getElem?_eq_some_iff.1 h).1; omega) (fun e => by cases e; omega)⟩
theorem MapIs.grown {κ : Type} {ek : κ → Value} {ok : κ → Prop} {w w1 : World} {b : Nat} {M : List (κ × Int)} {row : Option Nat} (h : MapIs ek ok w b M) (hg : w.grownBy w1 row) (hr : ∀ r, row = some r → b < r) : MapIs ek ok w1 b M :=
  h.move (hg.block b h.lt (fun e => by have := hr b e.symm; omega))
theorem setBlock_at {W : World} {b k : Nat} {o : Obj} (h : k ≠ b) : (setBlock W b o).heap[k]? = W.heap[k]? := by
  simp only [setBlock, Array.getElem?_setIfInBounds]; rw [if_neg (Ne.symm h)]
theorem xi_abs (pre : List XI) : absum (pre.map (·.1)) ≤ 99999 * (pre.length : Int) := by
  have := absum_le (l := pre.map (·.1)) (c := 99999) (fun r hr => by
    obtain ⟨z, _, rfl⟩ := List.mem_map.1 hr
    exact z.2.2)
  simpa using this
set_option maxRecDepth 100000 in
set_option maxHeartbeats 8000000 in
theorem implAt_in (a : Option Addr) (cap : Nat) (l : List Rw) (x y : Int) (w : World) (h : Rs w (.slice a l.length cap) l) (hk : rokB l = true) (hk' : okB x y = true) :
    CallsIn Fence.wide 4 Try.prog 49 #[.slice a l.length cap, tv x y] w fun e w' => ∃ o : Value, e = .returned o ∧ OwnI w' w.heap.size o (itemsL l x y) ∧ Below w.heap.size w w' := by
  have bt0 : Bk (w.alloc (.cells #[.int .i64 x, .int .i64 y] 31)) w.heap.size #[.int .i64 x, .int .i64 y] 31 := Bk.new _ _ rfl
  have hb0 := bAlloc (Below.refl w.heap.size w) (.cells #[.int .i64 x, .int .i64 y] 31)
  have h0 := h.keep hb0
  have HF : Hid (itemsL l x y = sumL ltT (atL l x y)) := items_yes hk hk'
  have hl := rok_len hk
  have hal := atL_len l x y
  have hmm := @run_makeMap Try.prog
  have HH : Hid (Rs w (.slice a l.length cap) l) := h
  clear h
  refine callsIn_of_wp_marks Try.func49 rfl trivial ?_ rfl
  simp only [Try.ntmps49, List.size_toArray, List.length_cons, List.length_nil, Nat.reduceAdd, Nat.reduceSub, Array.replicate_succ, Array.replicate_zero, List.push_toArray, List.append_toArray, List.nil_append, List.cons_append]
  gi_wp2
  refine ⟨trivial, ?_⟩
  refine CallsIn.mono (callsIn_wide.2 (implRowsOk_eq hk h0)) ?_
  rintro e w1 ⟨rfl, hb1⟩
  have hbw1 := bStep hb0 hb1
  have bt1 := bt0.keep hb1
  obtain ⟨t0, t1, _, _⟩ := bt1.two
  clear h0 bt0 hb0 hb1
  gi_wp2
  refine ⟨trivial, ?_⟩
  refine CallsIn.mono (callsIn_wide.2 (implTimeOk_eq hk' _)) ?_
  rintro e w2 ⟨rfl, hb2⟩
  have hbw2 := bStep hbw1 hb2
  have bt2 := bt1.keep hb2
  obtain ⟨t2, t3, _, _⟩ := bt2.two
  have hs2 := hbw2.size
  clear t0 t1 bt1 hbw1 hb2
  have ltb := bt2.lt
  generalize htb : w.heap.size = tb at *
  gi_wp2
  refine ⟨trivial, ?_⟩
  refine CallsIn.mono (callsIn_wide.2 (there_any _ _ _ _ _ _)) ?_
  rintro e W0 ⟨rfl, hW0⟩
  have m0 : MapIs thV thOk W0 w2.heap.size [] := by
    rw [hW0]
    exact (((MapIs.new w2 rfl).keep (bAlloc (Below.refl _ _) _)).keep (bAlloc (Below.refl _ _) _)).keep (bAlloc (Below.refl _ _) _)
  have bc0 : Bk W0 (w2.heap.size + 1) #[.map (some w2.heap.size)] 85 := by
    rw [hW0]
    exact ((Bk.new (w := w2.alloc (.map #[] 0)) _ _ (by simp)).alloc _).alloc _
  have b10 : Bk W0 (w2.heap.size + 1 + 1) #[.slice a l.length cap] 23 := by
    rw [hW0]
    exact (Bk.new (w := (w2.alloc (.map #[] 0)).alloc _) _ _ (by simp)).alloc _
  have b20 : Bk W0 (w2.heap.size + 1 + 1 + 1) #[.int .i64 x, .int .i64 y] 31 := by
    rw [hW0]
    exact Bk.new (w := ((w2.alloc (.map #[] 0)).alloc _).alloc _) _ _ (by simp)
  have hsz : W0.heap.size = w2.heap.size + 1 + 1 + 1 + 1 := by rw [hW0]; simp
  have hBW : Below w2.heap.size w2 W0 := by
    rw [hW0]
    exact bAlloc (bAlloc (bAlloc (bAlloc (Below.refl _ _) _) _) _) _
  clear hW0 hmm
  have hB0 : Below tb w W0 := hbw2.trans (hBW.mono hs2)
  gi_wp2
  clear hBW hbw2 bt2 t2 t3
  generalize w2.heap.size = mb at *
  refine wpIn_rangeFunc_ownH (n := 4) (w0 := W0) rfl (by omega) (gf := 159) (lb := #[.pointer (some ⟨mb + 1 + 1, 0, none⟩), .pointer (some ⟨mb + 1 + 1 + 1, 0, none⟩)]) rfl trivial (enters_of Try.func159 (by kernel_rfl) rfl)
    (there_stops (mb + 1 + 1) (mb + 1 + 1 + 1) mb a cap l x y w W0 hk HH.out (fun g hg => ⟨by omega, by omega⟩) (fun k hk => hB0.block k (by omega)) b10 b20 (by omega))
    (fun h k => h.trans k) (fun W lq o o' hN ho _ _ => Kx.put W lq o o' hN ho) (Below.refl _ _) (fun _ => rfl)
    (fun pre W => (∃ M : List It, MapIs thV thOk W mb M ∧ (∀ s, tot M s = tot (pre.map (·.1)) s) ∧ M.length ≤ pre.length) ∧ Bk W (mb + 1) #[.map (some mb)] 85 ∧ Below tb w W ∧ W0.heap.size ≤ W.heap.size)
    (fun _ _ _ => False)
    (fun pre A B row hs hg hr => by
      obtain ⟨⟨M, h1, h2, h3⟩, h4, h5, h6⟩ := hs
      refine ⟨⟨M, h1.grown hg (fun r e => by have := (hr r e).1; omega), h2, h3⟩, Bk.grew h4 hg (fun r e => by have := (hr r e).1; omega), Below.grew h5 hg (by have := h4.lt; omega) (fun r e => by have := (hr r e).1; omega), Nat.le_trans h6 hg.size⟩)
    (fun _ _ _ _ _ hs _ _ => hs)
    ⟨⟨[], m0, fun s => rfl, by simp⟩, bc0, hB0, Nat.le_refl _⟩
    (fun z a' W => ∃ Bq, W0.heap.size ≤ Bq ∧ Bk W Bq #[.int .i64 z.1.1.1, .int .i64 z.1.1.2] 90 ∧ a' = { tmps := #[.slice a l.length cap, tv x y, undef, .pointer (some ⟨tb, 0, none⟩), .slice none 0 0, .pointer (some ⟨mb + 1, 0, none⟩), .pointer (some ⟨Bq, 0, none⟩), .int .i64 z.1.2, .slice a l.length cap, .bool true, .bool false, .bool false, tv x y, .bool true, .bool false, .bool false, .map (some mb), .slice a l.length cap, tv x y, .func (.func 159) #[] #[.pointer (some ⟨mb + 1 + 1, 0, none⟩), .pointer (some ⟨mb + 1 + 1 + 1, 0, none⟩)], thV z.1.1, .int .i64 z.1.2, undef, undef, undef, undef, undef, undef, undef, undef, undef], defers := [] })
    (fun z a' _ A B row hs hg hr => by
      obtain ⟨Bq, h1, h2, h3⟩ := hs
      exact ⟨Bq, h1, Bk.grew h2 hg (fun r e => by
        obtain ⟨_, o, h4, h5⟩ := hr r e
        rintro rfl
        unfold Bk at h2
        rw [h2] at h4
        cases h4
        cases h5), h3⟩)
    ?assign ?body ?done ?stop
  case assign =>
    rintro lq pre z W K ⟨⟨M, h1, h2, h3⟩, h4, h5, h6⟩ hK
    gi_wp2
    refine hK _ _ ((KeepsOthers.alloc _ _).from _) ⟨by simp, fun k hk _ => Below.heap_alloc _ _ _ (by omega)⟩ ⟨⟨M, h1.keep (bAlloc (Below.refl _ _) _), h2, h3⟩, h4.alloc _, bAllocT h5 (by omega) _, by simp; omega⟩ ⟨W.heap.size, h6, Bk.new _ _ rfl, rfl⟩
  case body =>
    rintro lq pre z a' W hlq - ⟨⟨M, h1, h2, h3⟩, h4, h5, h6⟩ ⟨Bq, hBq, hq, rfl⟩ hlt
    obtain ⟨⟨⟨K, V⟩, D⟩, hth, hD1, hD2⟩ := z
    have H2 := (show Hid _ from h2)
    clear h2
    obtain ⟨st, o1, o2, M', e1, e2, e3, hM', ht', hl'⟩ := MapIs.enter (h1.move (w1 := W.drew) rfl) encT Try.underlying85 zeroI hth (tot M (K, V) + D)
    change (Instr.entryStore _ _ (.int .i64 (st : Int)) _).run _ _ = _ at e3
    have e0 := MapIs.look (h1.move (w1 := W.drew) rfl) encT Try.underlying85 zeroI hth
    have HN : Hid (∀ s, tot M' s = tot ((pre ++ [⟨((K, V), D), hth, hD1, hD2⟩] : List XI).map (·.1)) s) := fun s => by
      rw [ht', List.map_append]
      show _ = tot (pre.map (·.1) ++ [((K, V), D)]) s
      rw [tot_snoc]
      by_cases e : (K, V) = s
      · rw [if_pos e, if_pos e, ← H2.out, e]
      · rw [if_neg e, if_neg e, H2.out]; omega
    have hsum : -4611686018427387904 ≤ tot M (K, V) + D ∧ tot M (K, V) + D ≤ 4611686018427387904 := by
      have h1 := tot_abs (pre.map (·.1)) (K, V)
      have h2 := xi_abs pre
      rw [← H2.out] at h1
      omega
    clear ht'
    obtain ⟨hs1, hs2'⟩ := hsum
    generalize hT : tot M (K, V) = T at *
    clear hT
    have iw : IntKind.i64.wrap (T + D) = T + D := by rw [IntKind.wrap_i64]; omega
    have c0 := h4.cell (i := 0) (v := .map (some mb)) rfl
    obtain ⟨q0, q1, _, _⟩ := hq.two
    dsimp only at q0 q1
    have hmix : Try.prog.follows .mixedOrders = true := by kernel_rfl
    have FIN : Hid (KeepsFrom W0.heap.size W (setBlock W.drew mb o2) ∧ Kx W0.heap.size mb W (setBlock W.drew mb o2) ∧
        ((∃ M : List It, MapIs thV thOk (setBlock W.drew mb o2) mb M ∧ (∀ s, tot M s = tot ((pre ++ [⟨((K, V), D), hth, hD1, hD2⟩] : List XI).map (·.1)) s) ∧ M.length ≤ (pre ++ [⟨((K, V), D), hth, hD1, hD2⟩] : List XI).length) ∧ Bk (setBlock W.drew mb o2) (mb + 1) #[.map (some mb)] 85 ∧ Below tb w (setBlock W.drew mb o2) ∧ W0.heap.size ≤ (setBlock W.drew mb o2).heap.size)) := by
      have hz : (setBlock W.drew mb o2).heap.size = W.heap.size := size_setBlock W.drew mb o2
      refine ⟨⟨by rw [hz]; exact Nat.le_refl _, fun k o hB hk _ => ?_⟩, ⟨by rw [hz]; exact Nat.le_refl _, fun k _ hm => ?_⟩, ⟨M', hM', HN.out, by simp; omega⟩, ?_, below_setBlock h5.drew (by omega), by rw [hz]; exact h6⟩
      · rw [setBlock_at (by omega)]; exact hk
      · rw [setBlock_at hm]; rfl
      · unfold Bk; rw [setBlock_at (by omega)]; exact h4
    clear HN hM' h1 h4 hq
    gi_wp2
    gi_region_with_o (fail)
    all_goals gi_wp2
    all_goals exact FIN.out
  case done =>
    rintro D xs W hD hS ⟨⟨M, h1, h2, h3⟩, h4, h5, h6⟩ hK
    have c0 := h4.cell (i := 0) (v := .map (some mb)) rfl
    have hlt := (Array.getElem?_eq_some_iff.1 hK).1
    have hxl : xs.length ≤ 400 := by
      have h1 := congrArg List.length hS
      simp at h1
      omega
    have HE : Hid (sumL ltT M = sumL ltT (atL l x y)) := by
      show _ = _
      refine sumL_congr ltT_ord fun s => ?_
      rw [h2 s, hS]
    clear h2 hS
    gi_wp2
    refine ⟨trivial, ?_⟩
    refine CallsIn.mono (callsIn_wide.2 (itemsOf_any mb M W h1 (by omega))) ?_
    rintro e W3 ⟨o3, rfl, own3, hb3⟩
    have O3 : Hid (OwnI W3 W.heap.size o3 (sumL ltT M)) := own3
    have hK3 : W3.heap[D]? = some (.deferred (some [])) := by rw [hb3.block D hlt]; exact hK
    have hb5 : Below tb w W3 := h5.trans (hb3.mono (by omega))
    clear own3
    gi_wp2
    refine ⟨by simp, .inl ⟨_, _, rfl, run_takeDeferred hK3, ?_⟩⟩
    refine ⟨_, results_tmp rfl _ _ _, o3, rfl, ?_, ?_⟩
    · rw [HF.out, ← HE.out]
      refine own_less (B := W.heap.size) ?_ (by omega)
      refine ownK_at O3.out fun q e => ?_
      have := ownK_base O3.out q e
      exact (grownBy_putObj' W3 D (.deferred none)).block q (ownK_lt O3.out q e) (fun e => by cases e; omega)
    · rw [htb]
      exact hb5.trans (belowK_b (w := W0) (by omega) W3 D _ _ hD hK3 rfl rfl)
  case stop =>
    rintro D c pre W _ _ h _
    exact h.elim
end Go.Proofs.Ytbmdfmboabfceaa
