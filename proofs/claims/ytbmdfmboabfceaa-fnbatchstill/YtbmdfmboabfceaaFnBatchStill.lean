/- For all bytes: BatchAt of the program makes of the rows and the time that they draw what the model makes of them, it is as at the join of the times of all rows that are not later, and what is told is ok items; the argument reads afterwards as before. No condition. -/
import Derived.Test.YtbmdfmboabfceaaPf
import Derived.Test.YtbmdfmboabfceaaP3
namespace Go.Proofs.Ytbmdfmboabfceaa
open Go.ChangeShapes Go.WideShapes Go.ChangeAt Go.RowKit Go.Joins

namespace FnBatchStill
set_option maxRecDepth 100000 in
set_option maxHeartbeats 8000000 in
theorem walk (x0 : Option Addr) (len0 cap0 : Nat) (w : World) (h0 : Src w (.slice x0 len0 cap0) len0) :
    Calls Try.prog 13 #[.slice x0 len0 cap0] w fun e w' => e = .returned (.bool true) ∧ Below w.heap.size w w' := by
  by_cases g0 : (1048576 : Int) < (len0 : Int)
  · go_enter Try.func13, Try.ntmps13
    go_wp2_with fail
    go_ret
    exact ⟨rfl, Below.refl _ _⟩
  go_enter Try.func13, Try.ntmps13
  go_wp2_with fail
  refine (drawBatchAt_any _ _ _ _ h0).mono ?_
  rintro e w1 ⟨oa, a, x, y, rfl, hd, R_1, hb1⟩
  have hbw1 := hb1
  clear h0 hb1
  have BT : Bk (w1.alloc (.cells #[.int .i64 x, .int .i64 y] 31)) w1.heap.size #[.int .i64 x, .int .i64 y] 31 := Bk.new _ _ rfl
  have hbT : Below w1.heap.size w1 (w1.alloc (.cells #[.int .i64 x, .int .i64 y] 31)) := bAlloc (Below.refl _ _) _
  have RT := R_1.keep hbT
  have hbwT := bStep hbw1 hbT
  have HTB : Hid (w1.heap.size ≥ w.heap.size) := hbw1.size
  go_upto_region 4 with fail
  generalize w1.heap.size = tb at *
  generalize World.alloc _ _ = wt at *
  clear R_1 hbT hbw1
  obtain ⟨L, hL_L⟩ : ∃ zz, itemsL a x y = zz := ⟨_, rfl⟩
  have HL : Hid (itemsL a x y = L) := hL_L
  clear hL_L
  obtain ⟨t0, t1, _, _⟩ := BT.two
  go_wp2_with fail
  refine (implAt_k HL.out RT).mono ?_
  rintro e w2 ⟨oh, rfl, H_2, hb2⟩
  have R_2 := RT.keep hb2
  have B_2 := BT.keep hb2
  have hbw2 := bStep hbwT hb2
  clear RT BT hbwT hb2
  obtain ⟨t0, t1, _, _⟩ := B_2.two
  go_wp2_with fail
  refine (specAt_k HL.out R_2).mono ?_
  rintro e w3 ⟨oz, rfl, S_3, hb3⟩
  have R_3 := R_2.keep hb3
  have B_3 := B_2.keep hb3
  have H_3 := H_2.keep hb3
  have hbw3 := bStep hbw2 hb3
  clear R_2 B_2 H_2 hbw2 hb3
  obtain ⟨t0, t1, _, _⟩ := B_3.two
  go_wp2_with fail
  refine (lwItems_eq (selfI _) H_3 S_3).mono ?_
  rintro e w4 ⟨rfl, hb4⟩
  have R_4 := R_3.keep hb4
  have B_4 := B_3.keep hb4
  have H_4 := H_3.keep hb4
  have hbw4 := bStep hbw3 hb4
  clear R_3 B_3 H_3 S_3 hbw3 hb4
  obtain ⟨t0, t1, _, _⟩ := B_4.two
  cases hk : rokB a
  · go_wp2_with fail
    refine (specRowsOk_eq hk R_4).mono ?_
    rintro e w5 ⟨rfl, hb5⟩
    have R_5 := R_4.keep hb5
    have B_5 := B_4.keep hb5
    have H_5 := H_4.keep hb5
    have hbw5 := bStep hbw4 hb5
    clear R_4 B_4 H_4 hbw4 hb5
    obtain ⟨t0, t1, _, _⟩ := B_5.two
    go_wp2_with fail
    refine (specAt_k HL.out R_5).mono ?_
    rintro e w6 ⟨oz, rfl, S_6, hb6⟩
    have R_6 := R_5.keep hb6
    have B_6 := B_5.keep hb6
    have H_6 := H_5.keep hb6
    have hbw6 := bStep hbw5 hb6
    clear R_5 B_5 H_5 hbw5 hb6
    obtain ⟨t0, t1, _, _⟩ := B_6.two
    go_wp2_with fail
    refine (lwItems_eq (selfI _) H_6 S_6).mono ?_
    rintro e w7 ⟨rfl, hb7⟩
    have R_7 := R_6.keep hb7
    have B_7 := B_6.keep hb7
    have H_7 := H_6.keep hb7
    have S_7 := S_6.keep hb7
    have hbw7 := bStep hbw6 hb7
    clear R_6 B_6 H_6 S_6 hbw6 hb7
    obtain ⟨t0, t1, _, _⟩ := B_7.two
    go_wp2_with fail
    go_ret
    exact ⟨rfl, hbw7⟩
  · cases hx : okB x y
    · go_wp2_with fail
      refine (specRowsOk_eq hk R_4).mono ?_
      rintro e w5 ⟨rfl, hb5⟩
      have R_5 := R_4.keep hb5
      have B_5 := B_4.keep hb5
      have H_5 := H_4.keep hb5
      have hbw5 := bStep hbw4 hb5
      clear R_4 B_4 H_4 hbw4 hb5
      obtain ⟨t0, t1, _, _⟩ := B_5.two
      go_wp2_with fail
      refine (specTimeOk_eq hx _).mono ?_
      rintro e w6 ⟨rfl, hb6⟩
      have R_6 := R_5.keep hb6
      have B_6 := B_5.keep hb6
      have H_6 := H_5.keep hb6
      have hbw6 := bStep hbw5 hb6
      clear R_5 B_5 H_5 hbw5 hb6
      obtain ⟨t0, t1, _, _⟩ := B_6.two
      go_wp2_with fail
      refine (specAt_k HL.out R_6).mono ?_
      rintro e w7 ⟨oz, rfl, S_7, hb7⟩
      have R_7 := R_6.keep hb7
      have B_7 := B_6.keep hb7
      have H_7 := H_6.keep hb7
      have hbw7 := bStep hbw6 hb7
      clear R_6 B_6 H_6 hbw6 hb7
      obtain ⟨t0, t1, _, _⟩ := B_7.two
      go_wp2_with fail
      refine (lwItems_eq (selfI _) H_7 S_7).mono ?_
      rintro e w8 ⟨rfl, hb8⟩
      have R_8 := R_7.keep hb8
      have B_8 := B_7.keep hb8
      have H_8 := H_7.keep hb8
      have S_8 := S_7.keep hb8
      have hbw8 := bStep hbw7 hb8
      clear R_7 B_7 H_7 S_7 hbw7 hb8
      obtain ⟨t0, t1, _, _⟩ := B_8.two
      go_wp2_with fail
      go_ret
      exact ⟨rfl, hbw8⟩
    · go_wp2_with fail
      refine (specRowsOk_eq hk R_4).mono ?_
      rintro e w5 ⟨rfl, hb5⟩
      have R_5 := R_4.keep hb5
      have B_5 := B_4.keep hb5
      have H_5 := H_4.keep hb5
      have hbw5 := bStep hbw4 hb5
      clear R_4 B_4 H_4 hbw4 hb5
      obtain ⟨t0, t1, _, _⟩ := B_5.two
      go_wp2_with fail
      refine (specTimeOk_eq hx _).mono ?_
      rintro e w6 ⟨rfl, hb6⟩
      have R_6 := R_5.keep hb6
      have B_6 := B_5.keep hb6
      have H_6 := H_5.keep hb6
      have hbw6 := bStep hbw5 hb6
      clear R_5 B_5 H_5 hbw5 hb6
      obtain ⟨t0, t1, _, _⟩ := B_6.two
      have HO : Hid (sokB L = true) := by have := HL.out; subst this; exact items_sok hk hx
      have hl11 := hd.1
      have hLl : L.length ≤ 400 := by have := HL.out; subst this; exact items_len a x y
      have BJ : Bk (w6.alloc (.cells #[.int .i64 0, .int .i64 0] 31)) w6.heap.size #[.int .i64 0, .int .i64 0] 31 := Bk.new _ _ rfl
      have hbJ : Below w6.heap.size w6 (w6.alloc (.cells #[.int .i64 0, .int .i64 0] 31)) := bAlloc (Below.refl _ _) _
      have RJ := R_6.keep hbJ
      have HJ := H_6.keep hbJ
      have BTJ := B_6.keep hbJ
      have htb : tb < w6.heap.size := B_6.lt
      have hbwJ := bStep hbw6 hbJ
      have HWS : Hid (w.heap.size ≤ w6.heap.size) := (hbw6).size
      have HK : Hid (∀ W, Bx w6.heap.size (w6.alloc (.cells #[.int .i64 0, .int .i64 0] 31)) W → Rs W oa a ∧ Is W oh L) := fun W hW => by
        have hb := hW.below hbJ hbJ.size (Nat.le_refl _)
        exact ⟨R_6.keep hb, H_6.keep hb⟩
      have HG : Hid (∀ i, i < a.length → ∃ g off cap, oa = .slice (some ⟨g, off, none⟩) a.length cap ∧ g < w6.heap.size) := fun i hi => by
        obtain ⟨a', cap', e, _, _, _, hc'⟩ := Rs.open R_6
        obtain ⟨g, off, K, V, A, B1, D, e1, hg, _⟩ := hc' i hi
        exact ⟨g, off, cap', by rw [e, e1], hg⟩
      go_upto_region 8 with fail
      generalize w6.heap.size = jb at *
      generalize World.alloc _ _ = wj at *
      obtain ⟨aa, capa, rfl, hca, hma, hna, hcells⟩ := Rs.open RJ
      unfold maxLen at hma
      have HC := (show Hid _ from hcells)
      clear hcells HJ R_6 H_6 B_6 hbJ t0 t1
      have hjlt := BJ.lt
      go_wp2_with fail
      go_loopw [7] (fun i wr => ∃ (k : Nat) (J1 J2 : Int), k ≤ a.length ∧ i = .int .i64 k ∧ leB J1 J2 x y = true ∧ (∀ q ∈ a.take k, leB q.1.2.1 q.1.2.2 x y = true → leB q.1.2.1 q.1.2.2 J1 J2 = true) ∧ Bk wr jb #[.int .i64 J1, .int .i64 J2] 31 ∧ Bx jb wj wr) (fun i _ => a.length - (intOf i).toNat)
      case atStart => exact ⟨0, 0, 0, by omega, rfl, still_start hx, fun q hq => by simp at hq, BJ, Bx.refl _ _⟩
      clear BJ
      obtain ⟨k, J1, J2, hks, rfl, hJ, hall, bj, hxb⟩ := hrel
      have HALL : Hid (∀ q ∈ a.take k, leB q.1.2.1 q.1.2.2 x y = true → leB q.1.2.1 q.1.2.2 J1 J2 = true) := hall
      have HJL : Hid (leB J1 J2 x y = true) := hJ
      clear hall hJ
      have bt := BTJ.keepx hxb (by omega)
      have hxs := hxb.size
      by_cases hlt : k < a.length
      · obtain ⟨g, off, K, V, A, B1, D, rfl, hg, hr, c0, c1, c2, c3, c4⟩ := HC.out k hlt
        have hgj' : g < jb := by
          obtain ⟨g', off', cap', e', hgj'⟩ := HG.out k hlt
          simp only [Value.slice.injEq, Option.some.injEq, Addr.mk.injEq] at e'
          obtain ⟨⟨e1, _⟩, _⟩ := e'
          omega
        have HR := (show Hid _ from hr)
        have ik : ((k : Int) < (a.length : Int)) := by omega
        have HX : Hid (∀ W, Bx jb wj W → W.cell? ⟨g, off + k * 5 + 2, none⟩ = some (.int .i64 A) ∧ W.cell? ⟨g, off + k * 5 + 3, none⟩ = some (.int .i64 B1) ∧ W.cell? ⟨tb, 0, none⟩ = some (.int .i64 x) ∧ W.cell? ⟨tb, 1, none⟩ = some (.int .i64 y)) := fun W hW => by
          have hb1 := (BTJ.keepx hW (by omega)).two
          refine ⟨?_, ?_, hb1.1, hb1.2.1⟩
          · rw [World.cell?_of_block (w := wj) (hW.block g (by omega) (by omega))]; exact c2
          · rw [World.cell?_of_block (w := wj) (hW.block g (by omega) (by omega))]; exact c3
        have hxD := hxb.drew
        obtain ⟨d2, d3, s0, s1⟩ := HX.out _ hxb
        obtain ⟨j0, j1, f0, f1⟩ := bj.two
        clear c0 c1 c2 c3 c4 hr
        cases hle : leB A B1 x y
        · have HZ := (show Hid _ from still_skip HR.out HALL.out hle)
          go_wp2_with fail
          go_region_held3 (fun W => W.cell? ⟨g, off + k * 5 + 2, none⟩ = some (.int .i64 A) ∧ W.cell? ⟨g, off + k * 5 + 3, none⟩ = some (.int .i64 B1) ∧ W.cell? ⟨tb, 0, none⟩ = some (.int .i64 x) ∧ W.cell? ⟨tb, 1, none⟩ = some (.int .i64 y))
            (first | exact HX.out _ hxD | exact HX.out _ hxa)
            (first
              | (go_at_call 68; with_reducible refine (implLess_eq hle _).mono ?_; rintro e wa ⟨rfl, hba⟩; have hxa : Bx jb wj wa := hxD.trans (Bx.of_below hba); have bja := bj.drew.keep hba))
          go_wp2_with fail
          go_roundw
          case rel => exact ⟨k + 1, J1, J2, by omega, by go_num, HJL.out, HZ.out, bja, hxa⟩
          case measure => simp [intOf]; omega
        · have HZ := (show Hid _ from still_step HR.out HJL.out HALL.out hle)
          go_wp2_with fail
          go_region_held3 (fun W => W.cell? ⟨g, off + k * 5 + 2, none⟩ = some (.int .i64 A) ∧ W.cell? ⟨g, off + k * 5 + 3, none⟩ = some (.int .i64 B1) ∧ W.cell? ⟨tb, 0, none⟩ = some (.int .i64 x) ∧ W.cell? ⟨tb, 1, none⟩ = some (.int .i64 y))
            (first | exact HX.out _ hxD | exact HX.out _ hxa)
            (first
              | (go_at_call 68; with_reducible refine (implLess_eq hle _).mono ?_; rintro e wa ⟨rfl, hba⟩; have hxa : Bx jb wj wa := hxD.trans (Bx.of_below hba); have bja := bj.drew.keep hba))
          clear d2 d3 s0 s1 j0 j1 f0 f1
          obtain ⟨d2, d3, s0, s1⟩ := HX.out _ hxa
          obtain ⟨j0, j1, f0, f1⟩ := bja.two
          have hxaD := hxa.drew
          have bjaD := bja.drew
          go_wp2_with fail
          go_region_with (first | (go_at_call 69; refine (implJoin_any J1 J2 A B1 _).mono ?_; rintro e wc ⟨rfl, hbc⟩; refine keep_k (k := jb) hbc (by with_reducible assumption) ?_; intro bjc u0 u1 v0 v1; have hxc : Hid (Bx jb wj wc) := hxaD.trans (Bx.of_below hbc)))
          all_goals
            have bjd := bjc.set01 (.int .i64 (jnA J1 J2 A B1)) (.int .i64 (jnB J1 J2 A B1))
            have hxd : Bx jb wj ((wc.setCell ⟨jb, 0, none⟩ (.int .i64 (jnA J1 J2 A B1))).setCell ⟨jb, 1, none⟩ (.int .i64 (jnB J1 J2 A B1))) := (hxc.out.setG rfl _).setG rfl _
            go_wp2_with fail
            go_roundw
            case rel => exact ⟨k + 1, _, _, by omega, by go_num, HZ.out.1, HZ.out.2, bjd, hxd⟩
            case measure => simp [intOf]; omega
      obtain rfl : k = a.length := by omega
      have HIE : Hid (itemsL a J1 J2 = L) := by
        have := HL.out
        rw [← this]
        refine still_items hk hx HJL.out fun r hr => HALL.out r ?_
        rw [List.take_length]; exact hr
      have hle := hxb.below hbwJ (by have := HWS.out; omega) HWS.out
      obtain ⟨RE, HE⟩ := HK.out _ hxb
      obtain ⟨j0, j1, _, _⟩ := bj.two
      go_wp2_with fail
      refine (implAt_k HIE.out RE).mono ?_
      rintro e wE ⟨oz, rfl, SE, hbE⟩
      have HE1 := HE.keep hbE
      have hbwE := bStep hle hbE
      go_wp2_with fail
      refine (lwItems_eq (selfI _) SE HE1).mono ?_
      rintro e wF ⟨rfl, hbF⟩
      have HF1 := HE1.keep hbF
      have hbwF := bStep hbwE hbF
      have HFH : Hid (Is wF oh L) := HF1
      obtain ⟨ah, caph, rfl, -, -, -, -⟩ := HF1
      have HO2 : Hid (Is wF (.slice ah L.length caph) L) := HFH
      by_cases hz : L.length = 0
      · have iz : (L.length : Int) = 0 := by omega
        go_wp2_with fail
        go_ret
        exact ⟨rfl, hbwF⟩
      · have iz : ¬ ((L.length : Int) = 0) := by omega
        have nz : ((L.length : Int) == 0) = false := beq_eq_false_iff_ne.2 iz
        go_wp2_with fail
        refine (implSetOk_eq HO.out HO2.out).mono ?_
        rintro e wG ⟨rfl, hbG⟩
        go_wp2_with fail
        go_ret
        exact ⟨rfl, bStep hbwF hbG⟩
end FnBatchStill
namespace RowFnBatchStill
theorem own : ownKnob Try.prog.godebug = none := by kernel_rfl
set_option maxRecDepth 100000 in
theorem lifted (os : Os) (started : os.Started) (H : Type) (enc : TypeId × Value → H) :
    ReturnsInHanded {} Try.checked os 13 .any (Rows.fnBatchStillSpec.pre6 enc Try.prog Try.f13 Rows.fnBatchStillRow.domain false) (Rows.fnBatchStillSpec.post enc Try.prog Try.f13 false true false false) := by
  refine returnsInHanded_of_change (C := Try.checked) own started (by kernel_rfl) Try.func13
    (ChangeSpec.witness6 (enc := enc) (C := Try.checked) false ⟨#[], #[.slice none 0 0], []⟩ 8 (by kernel_rfl) (by kernel_rfl) (by kernel_rfl) (by kernel_rfl)) ?_
  intro W base args ds gs before hval0 hW hcnd _
  have hval : ∀ (j : Nat) t v, Try.f13.params[j]? = some t → args[j]? = some v → Value.okWide Try.prog W .any base t v := hval0
  have hW' := hW
  obtain ⟨p, q, hA0, hV, rfl, hfz, hnd⟩ := hW
  have hA : DataW.TrodAll enc Try.prog W 0 (fun _ => true) true Try.f13.params.toList args.toList ds p := hA0
  rw [Try.params13] at hA hval
  obtain ⟨v0, vs0, d0, ds0, p0, q0, hargs, rfl, rfl, h0, r0⟩ := trodAll_cons hA
  obtain ⟨rfl, rfl, rfl⟩ := trodAll_nil r0
  obtain rfl : args = #[v0] := by cases args; simp_all
  obtain ⟨rfl, rfl⟩ := trodVars_none hV
  obtain ⟨a0, len0, cap0, rfl⟩ := okWide_slice Try.underlying22 (hval 0 22 v0 rfl rfl)
  have k0 := h0
  have lt0 : ∀ x ∈ p0, x.block < W.heap.size := by obtain ⟨m, hm⟩ := k0; exact DataW.trod_lt m _ _ _ hm
  have w0 : Src W (.slice a0 len0 cap0) len0 := by
    obtain ⟨fuel, hf⟩ := h0
    rcases open_ints Try.underlying22 Try.underlying5 (by kernel_rfl) hf with ⟨hcs, _⟩ | ⟨x, l, c, zs, hcs, _, hl, hm, hz, _, hcell, hwz⟩
    · simp [Value.cells] at hcs
      obtain ⟨rfl, rfl, rfl⟩ := hcs
      exact Src.nil _
    · simp [Value.cells] at hcs
      obtain ⟨rfl, rfl, rfl⟩ := hcs
      exact Src.of_row hl hm (by simpa using hz) hcell hwz
  clear hA0 hval0
  refine (FnBatchStill.walk a0 len0 cap0 W w0).mono fun e W' ⟨he, bel⟩ => ?_
  subst he
  exact ⟨_, rfl, _, _, _, [], _, [], hW', trodAll_mk1 (shut_bool Try.underlying4 _), (trodAll_cons_mk (Below.trod pfLaid (by kernel_rfl) (of_decide_eq_true (by kernel_rfl)) k0 bel lt0) trodAll_mk0), rfl, bel.frame _, fun h => by cases h⟩
set_option maxHeartbeats 4000000 in
theorem closed : joinedFacts Try.prog 13 Try.f13 Rows.fnBatchStillSpec Rows.fnBatchStillRow = true := by
  unfold joinedFacts
  exact (andB (andB (andB (andB (andB (andB (andB (andB (andB (andB (andB (andB (andB (andB (andB (andB (andB (andB (andB (andB (andB (andB (andB (andB (andB (andB (andB (andB (andB (andB (andB (by as_aux_lemma => kernel_rfl) pfLaid) pfRowed) (by as_aux_lemma => kernel_rfl)) (by as_aux_lemma => kernel_rfl)) (by as_aux_lemma => kernel_rfl)) (by as_aux_lemma => kernel_rfl)) (by as_aux_lemma => kernel_rfl)) (by as_aux_lemma => kernel_rfl)) (by as_aux_lemma => kernel_rfl)) (by as_aux_lemma => kernel_rfl)) (by as_aux_lemma => kernel_rfl)) (by as_aux_lemma => kernel_rfl)) (by as_aux_lemma => kernel_rfl)) (by as_aux_lemma => kernel_rfl)) (by as_aux_lemma => kernel_rfl)) (by as_aux_lemma => kernel_rfl)) (by as_aux_lemma => kernel_rfl)) (by as_aux_lemma => kernel_rfl)) (by as_aux_lemma => kernel_rfl)) (by as_aux_lemma => kernel_rfl)) (by as_aux_lemma => kernel_rfl)) (by as_aux_lemma => kernel_rfl)) (by as_aux_lemma => kernel_rfl)) pfHeard) pfEnter) (pfLiftB rfl)) (pfMakeB rfl)) (by as_aux_lemma => kernel_rfl)) (by as_aux_lemma => kernel_rfl)) (by as_aux_lemma => kernel_rfl)) (by as_aux_lemma => kernel_rfl))
theorem over : Rows.fnBatchStillRow.holds Try.pinned (OpenSpec.ofChange Rows.fnBatchStillSpec) :=
  OpenClaim.holds_of_wide 13 Try.f13 rfl rfl rfl rfl rfl rfl rfl ⟨rfl, rfl, rfl, rfl, rfl⟩ rfl rfl rfl rfl rfl (by kernel_rfl) Try.func13 closed
    (of_decide_eq_true (by kernel_rfl)) (by unfold Func.isWrapper; first | (rw [if_pos (by decide +kernel)]; kernel_rfl) | (rw [if_neg (by decide +kernel)]; exact ⟨rfl, rfl⟩))
    (fun os started H enc _ => lifted os started H enc)
end RowFnBatchStill
theorem fnBatchStill_holds : Rows.FnBatchStillSaid := RowFnBatchStill.over
end Go.Proofs.Ytbmdfmboabfceaa
