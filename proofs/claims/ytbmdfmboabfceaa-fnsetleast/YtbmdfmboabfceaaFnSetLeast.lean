/- For all bytes: SetLeast of the program makes of the items that they draw what the model makes of them: one of each Key that has any, none is less, each is among those that are there, in order; the least of those that are there, once, is the same, and of the least it is that; the argument reads afterwards as before. No condition. -/
import Derived.Test.YtbmdfmboabfceaaPf
import Derived.Test.YtbmdfmboabfceaaGk2
import Derived.Test.YtbmdfmboabfceaaGk4
import Derived.Test.YtbmdfmboabfceaaGd5
namespace Go.Proofs.Ytbmdfmboabfceaa
open Go.ChangeShapes Go.WideShapes Go.ChangeAt Go.RowKit Go.Joins

namespace FnSetLeast
set_option maxRecDepth 100000 in
set_option maxHeartbeats 8000000 in
theorem walk (x0 : Option Addr) (len0 cap0 : Nat) (w : World) (h0 : Src w (.slice x0 len0 cap0) len0) :
    Calls Try.prog 24 #[.slice x0 len0 cap0] w fun e w' => e = .returned (.bool true) ∧ Below w.heap.size w w' := by
  by_cases g0 : (1048576 : Int) < (len0 : Int)
  · go_enter Try.func24, Try.ntmps24
    go_wp2_with fail
    go_ret
    exact ⟨rfl, Below.refl _ _⟩
  go_enter Try.func24, Try.ntmps24
  go_wp2_with fail
  refine (drawSetLeast_any _ _ _ _ h0).mono ?_
  rintro e w1 ⟨oa, s, rfl, hds, R_1, hb1⟩
  have hbw1 := hb1
  clear h0 hb1
  obtain ⟨L, hL_L⟩ : ∃ zz, leastS s = zz := ⟨_, rfl⟩
  have HL : Hid (leastS s = L) := hL_L
  clear hL_L
  go_wp2_with fail
  refine (implSetLeast_k HL.out R_1).mono ?_
  rintro e w2 ⟨ox, rfl, X_2, hb2⟩
  have R_2 := R_1.keep hb2
  have hbw2 := bStep hbw1 hb2
  clear R_1 hbw1 hb2
  go_wp2_with fail
  refine (specSetLeast_k HL.out R_2).mono ?_
  rintro e w3 ⟨oz, rfl, S_3, hb3⟩
  have R_3 := R_2.keep hb3
  have X_3 := X_2.keep hb3
  have hbw3 := bStep hbw2 hb3
  clear R_2 X_2 hbw2 hb3
  go_wp2_with fail
  refine (lwItems_eq (selfI _) X_3 S_3).mono ?_
  rintro e w4 ⟨rfl, hb4⟩
  have R_4 := R_3.keep hb4
  have X_4 := X_3.keep hb4
  have hbw4 := bStep hbw3 hb4
  clear R_3 X_3 S_3 hbw3 hb4
  cases hk : sokB s
  · go_wp2_with fail
    refine (specSetOk_eq hk R_4).mono ?_
    rintro e w5 ⟨rfl, hb5⟩
    have R_5 := R_4.keep hb5
    have X_5 := X_4.keep hb5
    have hbw5 := bStep hbw4 hb5
    clear R_4 X_4 hbw4 hb5
    go_wp2_with fail
    refine (specSetLeast_k HL.out R_5).mono ?_
    rintro e w6 ⟨oz, rfl, S_6, hb6⟩
    have R_6 := R_5.keep hb6
    have X_6 := X_5.keep hb6
    have hbw6 := bStep hbw5 hb6
    clear R_5 X_5 hbw5 hb6
    go_wp2_with fail
    refine (lwItems_eq (selfI _) X_6 S_6).mono ?_
    rintro e w7 ⟨rfl, hb7⟩
    have R_7 := R_6.keep hb7
    have X_7 := X_6.keep hb7
    have S_7 := S_6.keep hb7
    have hbw7 := bStep hbw6 hb7
    clear R_6 X_6 S_6 hbw6 hb7
    go_wp2_with fail
    go_ret
    exact ⟨rfl, hbw7⟩
  · obtain ⟨O, hL_O⟩ : ∃ zz, onceS s = zz := ⟨_, rfl⟩
    have HO : Hid (onceS s = O) := hL_O
    clear hL_O
    have HT : Hid (leastS L = L) := by have := HL.out; subst this; exact least_twice hk
    have HU : Hid (leastS O = L) := by have e1 := HO.out; have e2 := HL.out; subst e1 e2; exact least_once hk
    have HE : Hid (onceT s = O) := by have := HO.out; rw [onceS_yes hk] at this; exact this
    have HIN : Hid (∀ r ∈ L, r ∈ O) := by have e1 := HE.out; have e2 := HL.out; subst e1 e2; exact fun r hr => ((leastS_mem hk r).1 hr).1
    have HTH : Hid (∀ r ∈ O, ∃ x ∈ L, x.1.1 = r.1.1 ∧ x.1.2 ≤ r.1.2) := by have e1 := HE.out; have e2 := HL.out; subst e1 e2; exact fun r hr => least_there hk hr
    have HUP : Hid (L.Pairwise fun p q => p.1.1 < q.1.1) := by have := HL.out; subst this; exact leastS_up s
    have hL4 : L.length ≤ 4 := by have := HL.out; subst this; exact leastS_len s
    have hO4 : O.length ≤ 400 := by have := HO.out; subst this; exact onceS_len s
    go_wp2_with fail
    refine (specSetOk_eq hk R_4).mono ?_
    rintro e w5 ⟨rfl, hb5⟩
    have R_5 := R_4.keep hb5
    have X_5 := X_4.keep hb5
    have hbw5 := bStep hbw4 hb5
    clear R_4 X_4 hbw4 hb5
    go_wp2_with fail
    refine (implSetOnce_k HO.out R_5).mono ?_
    rintro e w6 ⟨oo, rfl, O_6, hb6⟩
    have X_6 := X_5.keep hb6
    have hbw6 := bStep hbw5 hb6
    clear R_5 X_5 hbw5 hb6
    have HXS0 : Hid (Is w6 ox L) := X_6
    have HOS0 : Hid (Is w6 oo O) := O_6
    obtain ⟨ax, capx, rfl, hcx, hmx, hnx, hcells⟩ := Is.open X_6
    obtain ⟨ao, capo, rfl, hco, hmo, hno, hcello⟩ := Is.open O_6
    have HXS : Hid (Is w6 (.slice ax L.length capx) L) := HXS0
    have HOS : Hid (Is w6 (.slice ao O.length capo) O) := HOS0
    unfold maxLen at hmx hmo
    have HC := (show Hid _ from hcells)
    have HD := (show Hid _ from hcello)
    clear hcells hcello HXS0 HOS0 X_6 O_6
    go_wp2_with fail
    go_loopw [6] (fun i wr => ∃ a : Nat, a ≤ O.length ∧ i = .int .i64 a ∧ Below w6.heap.size w6 wr) (fun i _ => O.length - (intOf i).toNat)
    case atStart => exact ⟨0, by omega, rfl, Below.refl _ _⟩
    obtain ⟨a, has, rfl, hb⟩ := hrel
    by_cases hlt : a < O.length
    · obtain ⟨go, offo, K, V, D, rfl, hgo, hr, c0, c1, -⟩ := HD.out a hlt
      have ia : ((a : Int) < (O.length : Int)) := by omega
      obtain ⟨m, hmL, hm1, hm2⟩ : ∃ m, ∃ h : m < L.length, L[m].1.1 = K ∧ L[m].1.2 ≤ V := by
        obtain ⟨x, hx, e1, e2⟩ := HTH.out _ (List.mem_of_getElem? hr)
        obtain ⟨m, hm, rfl⟩ := List.getElem_of_mem hx
        exact ⟨m, hm, e1, e2⟩
      have HM : Hid (∃ h : m < L.length, L[m].1.1 = K ∧ L[m].1.2 ≤ V) := ⟨hmL, hm1, hm2⟩
      clear hr hm1 hm2
      go_wp2_with fail
      go_loopw [7, 8] (fun f i wr => ∃ (k : Nat) (b : Bool), k ≤ L.length ∧ f = .bool b ∧ i = .int .i64 k ∧ (m < k → b = true) ∧ Below w6.heap.size w6 wr) (fun _ i _ => L.length - (intOf i).toNat)
      case atStart => exact ⟨0, false, by omega, rfl, rfl, fun h => by omega, hb⟩
      case round =>
        clear hb
        obtain ⟨k, b, hkL, rfl, rfl, hmk, hb⟩ := hrel
        by_cases hlt2 : k < L.length
        · obtain ⟨gx, offx, K2, V2, D2, rfl, hgx, hr2, p0, p1, -⟩ := HC.out k hlt2
          have ik : ((k : Int) < (L.length : Int)) := by omega
          have d0 := cell_below hb c0
          have d1 := cell_below hb c1
          have q0 := cell_below hb p0
          have q1 := cell_below hb p1
          have HQ : Hid (m = k → K2 = K ∧ V2 ≤ V) := fun e => by
            subst e
            obtain ⟨h, e1, e2⟩ := HM.out
            rw [List.getElem?_eq_getElem h] at hr2
            have := Option.some.inj hr2
            rw [this] at e1 e2
            exact ⟨e1, e2⟩
          clear p0 p1 hr2
          cases b
          · have hmk' : ¬ m < k := fun h => by have := hmk h; cases this
            by_cases hK : K2 = K
            · subst hK
              by_cases hV : V2 ≤ V
              · have iV : (decide (V2 ≤ V)) = true := decide_eq_true hV
                go_wp2_with fail
                go_quiet (fail)
                go_wp2_with fail
                go_roundw
                case rel => exact ⟨k + 1, true, by omega, by first | rfl | simp [hV], by go_num, fun _ => rfl, bDrewN hb _⟩
                case measure => simp [intOf]; omega
              · have HZ : Hid (m ≠ k) := fun e => hV (HQ.out e).2
                have iV : (decide (V2 ≤ V)) = false := decide_eq_false hV
                go_wp2_with fail
                go_quiet (fail)
                go_wp2_with fail
                go_roundw
                case rel => exact ⟨k + 1, false, by omega, by first | rfl | simp [hV], by go_num, fun h => by have := HZ.out; omega, bDrewN hb _⟩
                case measure => simp [intOf]; omega
            · have HZ : Hid (m ≠ k) := fun e => hK (HQ.out e).1
              have nx : (K2 == K) = false := beq_eq_false_iff_ne.2 hK
              go_wp2_with fail
              go_quiet (fail)
              go_wp2_with fail
              go_roundw
              case rel => exact ⟨k + 1, false, by omega, by first | rfl | simp, by go_num, fun h => by have := HZ.out; omega, bDrewN hb _⟩
              case measure => simp [intOf]; omega
          · go_wp2_with fail
            go_quiet (fail)
            go_wp2_with fail
            go_roundw
            case rel => exact ⟨k + 1, true, by omega, by first | rfl | simp, by go_num, fun _ => rfl, bDrewN hb _⟩
            case measure => simp [intOf]; omega
        · have hb1 : b = true := hmk (by omega)
          subst hb1
          go_wp2_with fail
          go_roundw
          case rel => exact ⟨a + 1, by omega, by go_num, hb⟩
          case measure => simp [intOf]; omega
    go_wp2_with fail
    go_loopw [9] (fun i wr => ∃ k : Nat, k ≤ L.length ∧ i = .int .i64 k ∧ Below w6.heap.size w6 wr) (fun i _ => L.length - (intOf i).toNat)
    case atStart => exact ⟨0, by omega, rfl, hb⟩
    clear hb hlt
    obtain ⟨k, hkL, rfl, hb⟩ := hrel
    by_cases hlt : k < L.length
    · obtain ⟨g, off, K, V, D, rfl, hg, hr, c0, c1, c2⟩ := HC.out k hlt
      have ik : ((k : Int) < (L.length : Int)) := by omega
      have HI : Hid (((K, V), D) ∈ O) := HIN.out _ (List.mem_of_getElem? hr)
      have d0 : ∀ p : Bel wr, p.ww.cell? ⟨g, off + k * 3, none⟩ = some (.int .i64 K) := fun p => cell_below p.below (cell_below hb c0)
      have d1 : ∀ p : Bel wr, p.ww.cell? ⟨g, off + k * 3 + 1, none⟩ = some (.int .i64 V) := fun p => cell_below p.below (cell_below hb c1)
      have d2 : ∀ p : Bel wr, p.ww.cell? ⟨g, off + k * 3 + 2, none⟩ = some (.int .i64 D) := fun p => cell_below p.below (cell_below hb c2)
      have HOW : Hid (∀ p : Bel wr, Is p.ww (.slice ao O.length capo) O) := fun p => HOS.out.keep (bStep hb p.below)
      have hne := bel_some wr
      have HR := (show Hid _ from hr)
      clear c0 c1 c2 hr
      rcases k with _ | m
      · simp only [Nat.zero_mul, Nat.add_zero] at d0 d1 d2
        go_wp2_with fail
        (refine wp_region_bel (by kernel_rfl) (by kernel_rfl) ?_; (repeat (go_big_quiet_step ((first | (go_at_call 75; exact calls_bel (lwHas_in _ O K V D _ (HOW.out _) HI.out)))))); refine wpQuiet_nil ?_)
        intro w1 hw1
        replace hw1 := bel_out hw1
        have hb1 := bStep hb hw1
        go_wp2_with fail
        exact ⟨⟨1, by omega, rfl, hb1⟩, by simp [intOf]; omega⟩
      · obtain ⟨g', off', K', V', D', he, hg', hq, p0, -, -⟩ := HC.out m (by omega)
        simp at he
        obtain ⟨rfl, rfl⟩ := he
        have e0 : ∀ p : Bel wr, p.ww.cell? ⟨g, off + m * 3, none⟩ = some (.int .i64 K') := fun p => cell_below p.below (cell_below hb p0)
        have hKK : K' < K := by
          obtain ⟨h1, e1⟩ := List.getElem?_eq_some_iff.1 hq
          obtain ⟨h2, e2⟩ := List.getElem?_eq_some_iff.1 HR.out
          have := (List.pairwise_iff_getElem.1 HUP.out) m (m + 1) h1 h2 (by omega)
          rw [e1, e2] at this
          exact this
        clear p0 hq
        have im0 : (0 : Int) ≤ (m : Int) := by omega
        have im1 : (m : Int) < (L.length : Int) := by omega
        have iw : IntKind.i64.wrap (m : Int) = (m : Int) := by rw [IntKind.wrap_i64]; omega
        have nr : decide (K ≤ K') = false := by simp; omega
        go_wp2_with fail
        (refine wp_region_bel (by kernel_rfl) (by kernel_rfl) ?_; (repeat (go_big_quiet_step ((first | (go_at_call 75; exact calls_bel (lwHas_in _ O K V D _ (HOW.out _) HI.out)))))); refine wpQuiet_nil ?_)
        intro w1 hw1
        replace hw1 := bel_out hw1
        have hb1 := bStep hb hw1
        go_wp2_with fail
        exact ⟨⟨m + 1 + 1, by omega, by go_num, hb1⟩, by simp [intOf]; omega⟩
    have X_7 := HXS.out.keep hb
    have O_7 := HOS.out.keep hb
    have hbw7 := bStep hbw6 hb
    go_wp2_with fail
    refine (implSetLeast_k HU.out O_7).mono ?_
    rintro e w8 ⟨oz, rfl, S_8, hb8⟩
    have X_8 := X_7.keep hb8
    have hbw8 := bStep hbw7 hb8
    clear X_7 O_7 hbw7 hb8
    go_wp2_with fail
    refine (lwItems_eq (selfI _) S_8 X_8).mono ?_
    rintro e w9 ⟨rfl, hb9⟩
    have X_9 := X_8.keep hb9
    have hbw9 := bStep hbw8 hb9
    clear X_8 S_8 hbw8 hb9
    go_wp2_with fail
    refine (implSetLeast_k HT.out X_9).mono ?_
    rintro e w10 ⟨oz, rfl, S_10, hb10⟩
    have X_10 := X_9.keep hb10
    have hbw10 := bStep hbw9 hb10
    clear X_9 hbw9 hb10
    go_wp2_with fail
    refine (lwItems_eq (selfI _) S_10 X_10).mono ?_
    rintro e w11 ⟨rfl, hb11⟩
    have X_11 := X_10.keep hb11
    have S_11 := S_10.keep hb11
    have hbw11 := bStep hbw10 hb11
    clear X_10 S_10 hbw10 hb11
    go_wp2_with fail
    go_ret
    exact ⟨rfl, hbw11⟩
end FnSetLeast
namespace RowFnSetLeast
theorem own : ownKnob Try.prog.godebug = none := by kernel_rfl
set_option maxRecDepth 100000 in
theorem lifted (os : Os) (started : os.Started) (H : Type) (enc : TypeId × Value → H) :
    ReturnsInHanded {} Try.checked os 24 .any (Rows.fnSetLeastSpec.pre6 enc Try.prog Try.f24 Rows.fnSetLeastRow.domain false) (Rows.fnSetLeastSpec.post enc Try.prog Try.f24 false true false false) := by
  refine returnsInHanded_of_change (C := Try.checked) own started (by kernel_rfl) Try.func24
    (ChangeSpec.witness6 (enc := enc) (C := Try.checked) false ⟨#[], #[.slice none 0 0], []⟩ 8 (by kernel_rfl) (by kernel_rfl) (by kernel_rfl) (by kernel_rfl)) ?_
  intro W base args ds gs before hval0 hW hcnd _
  have hval : ∀ (j : Nat) t v, Try.f24.params[j]? = some t → args[j]? = some v → Value.okWide Try.prog W .any base t v := hval0
  have hW' := hW
  obtain ⟨p, q, hA0, hV, rfl, hfz, hnd⟩ := hW
  have hA : DataW.TrodAll enc Try.prog W 0 (fun _ => true) true Try.f24.params.toList args.toList ds p := hA0
  rw [Try.params24] at hA hval
  obtain ⟨v0, vs0, d0, ds0, p0, q0, hargs, rfl, rfl, h0, r0⟩ := trodAll_cons hA
  obtain ⟨rfl, rfl, rfl⟩ := trodAll_nil r0
  obtain rfl : args = #[v0] := by cases args; simp_all
  obtain ⟨rfl, rfl⟩ := trodVars_none hV
  obtain ⟨a0, len0, cap0, rfl⟩ := okWide_slice Try.underlying22 (hval 0 22 v0 rfl rfl)
  have k0 := h0
  have lt0 : ∀ x ∈ p0, x.block < W.heap.size := by obtain ⟨m, hm⟩ := k0; exact DataW.trod_lt m _ _ _ hm
  have w0 : Src W (.slice a0 len0 cap0) len0 := by
    obtain ⟨fuel, hf⟩ := h0
    rcases open_ints Try.underlying22 Try.underlying5 (by kernel_rfl) hf with ⟨hcs, _⟩ | ⟨x, l, c, zs, hcs, _, hl, hm, hz, _, hcell, hwz⟩
    · simp [Value.cells] at hcs
      obtain ⟨rfl, rfl, rfl⟩ := hcs
      exact Src.nil _
    · simp [Value.cells] at hcs
      obtain ⟨rfl, rfl, rfl⟩ := hcs
      exact Src.of_row hl hm (by simpa using hz) hcell hwz
  clear hA0 hval0
  refine (FnSetLeast.walk a0 len0 cap0 W w0).mono fun e W' ⟨he, bel⟩ => ?_
  subst he
  exact ⟨_, rfl, _, _, _, [], _, [], hW', trodAll_mk1 (shut_bool Try.underlying4 _), (trodAll_cons_mk (Below.trod pfLaid (by kernel_rfl) (of_decide_eq_true (by kernel_rfl)) k0 bel lt0) trodAll_mk0), rfl, bel.frame _, fun h => by cases h⟩
set_option maxHeartbeats 4000000 in
theorem closed : joinedFacts Try.prog 24 Try.f24 Rows.fnSetLeastSpec Rows.fnSetLeastRow = true := by
  unfold joinedFacts
  exact (andB (andB (andB (andB (andB (andB (andB (andB (andB (andB (andB (andB (andB (andB (andB (andB (andB (andB (andB (andB (andB (andB (andB (andB (andB (andB (andB (andB (andB (andB (andB (by as_aux_lemma => kernel_rfl) pfLaid) pfRowed) (by as_aux_lemma => kernel_rfl)) (by as_aux_lemma => kernel_rfl)) (by as_aux_lemma => kernel_rfl)) (by as_aux_lemma => kernel_rfl)) (by as_aux_lemma => kernel_rfl)) (by as_aux_lemma => kernel_rfl)) (by as_aux_lemma => kernel_rfl)) (by as_aux_lemma => kernel_rfl)) (by as_aux_lemma => kernel_rfl)) (by as_aux_lemma => kernel_rfl)) (by as_aux_lemma => kernel_rfl)) (by as_aux_lemma => kernel_rfl)) (by as_aux_lemma => kernel_rfl)) (by as_aux_lemma => kernel_rfl)) (by as_aux_lemma => kernel_rfl)) (by as_aux_lemma => kernel_rfl)) (by as_aux_lemma => kernel_rfl)) (by as_aux_lemma => kernel_rfl)) (by as_aux_lemma => kernel_rfl)) (by as_aux_lemma => kernel_rfl)) (by as_aux_lemma => kernel_rfl)) pfHeard) pfEnter) (pfLiftB rfl)) (pfMakeB rfl)) (by as_aux_lemma => kernel_rfl)) (by as_aux_lemma => kernel_rfl)) (by as_aux_lemma => kernel_rfl)) (by as_aux_lemma => kernel_rfl))
theorem over : Rows.fnSetLeastRow.holds Try.pinned (OpenSpec.ofChange Rows.fnSetLeastSpec) :=
  OpenClaim.holds_of_wide 24 Try.f24 rfl rfl rfl rfl rfl rfl rfl ⟨rfl, rfl, rfl, rfl, rfl⟩ rfl rfl rfl rfl rfl (by kernel_rfl) Try.func24 closed
    (of_decide_eq_true (by kernel_rfl)) (by unfold Func.isWrapper; first | (rw [if_pos (by decide +kernel)]; kernel_rfl) | (rw [if_neg (by decide +kernel)]; exact ⟨rfl, rfl⟩))
    (fun os started H enc _ => lifted os started H enc)
end RowFnSetLeast
theorem fnSetLeast_holds : Rows.FnSetLeastSaid := RowFnSetLeast.over
end Go.Proofs.Ytbmdfmboabfceaa
