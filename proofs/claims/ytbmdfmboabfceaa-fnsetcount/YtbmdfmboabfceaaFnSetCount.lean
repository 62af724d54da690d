/- For all bytes: SetCount of the program makes of the items that they draw what the model makes of them: one of each Key whose Counts are not nothing together, with what they come to, in order; the argument reads afterwards as before. No condition. -/
import Derived.Test.YtbmdfmboabfceaaPf
import Derived.Test.YtbmdfmboabfceaaGk3
namespace Go.Proofs.Ytbmdfmboabfceaa
open Go.ChangeShapes Go.WideShapes Go.ChangeAt Go.RowKit Go.Joins

namespace FnSetCount
set_option maxRecDepth 100000 in
set_option maxHeartbeats 8000000 in
theorem walk (x0 : Option Addr) (len0 cap0 : Nat) (w : World) (h0 : Src w (.slice x0 len0 cap0) len0) :
    Calls Try.prog 22 #[.slice x0 len0 cap0] w fun e w' => e = .returned (.bool true) ∧ Below w.heap.size w w' := by
  by_cases g0 : (1048576 : Int) < (len0 : Int)
  · go_enter Try.func22, Try.ntmps22
    go_wp2_with fail
    go_ret
    exact ⟨rfl, Below.refl _ _⟩
  go_enter Try.func22, Try.ntmps22
  go_wp2_with fail
  refine (drawSetCount_any _ _ _ _ h0).mono ?_
  rintro e w1 ⟨oa, s, rfl, hds, R_1, hb1⟩
  have hbw1 := hb1
  clear h0 hb1
  obtain ⟨hls, has⟩ := hds
  obtain ⟨L, hL_L⟩ : ∃ zz, countS s = zz := ⟨_, rfl⟩
  have HL : Hid (countS s = L) := hL_L
  clear hL_L
  go_wp2_with fail
  refine (implSetCount_k HL.out R_1).mono ?_
  rintro e w2 ⟨ox, rfl, X_2, hb2⟩
  have R_2 := R_1.keep hb2
  have hbw2 := bStep hbw1 hb2
  clear R_1 hbw1 hb2
  go_wp2_with fail
  refine (specSetCount_k HL.out R_2).mono ?_
  rintro e w3 ⟨oz, rfl, S_3, hb3⟩
  have R_3 := R_2.keep hb3
  have X_3 := X_2.keep hb3
  have hbw3 := bStep hbw2 hb3
  clear R_2 X_2 hbw2 hb3
  go_wp2_with fail
  refine (lwItems_eq (selfI _) X_3 S_3).mono ?_
  rintro e w4 ⟨rfl, hb4⟩
  have R_4 := R_3.keep hb4
  have X_4 := X_3.keep hb4
  have hbw4 := bStep hbw3 hb4
  clear R_3 X_3 S_3 hbw3 hb4
  cases hk : sokB s
  · go_wp2_with fail
    refine (specSetOk_eq hk R_4).mono ?_
    rintro e w5 ⟨rfl, hb5⟩
    have R_5 := R_4.keep hb5
    have X_5 := X_4.keep hb5
    have hbw5 := bStep hbw4 hb5
    clear R_4 X_4 hbw4 hb5
    go_wp2_with fail
    refine (specSetCount_k HL.out R_5).mono ?_
    rintro e w6 ⟨oz, rfl, S_6, hb6⟩
    have R_6 := R_5.keep hb6
    have X_6 := X_5.keep hb6
    have hbw6 := bStep hbw5 hb6
    clear R_5 X_5 hbw5 hb6
    go_wp2_with fail
    refine (lwItems_eq (selfI _) X_6 S_6).mono ?_
    rintro e w7 ⟨rfl, hb7⟩
    have R_7 := R_6.keep hb7
    have X_7 := X_6.keep hb7
    have S_7 := S_6.keep hb7
    have hbw7 := bStep hbw6 hb7
    clear R_6 X_6 S_6 hbw6 hb7
    go_wp2_with fail
    go_ret
    exact ⟨rfl, hbw7⟩
  · have HME : Hid (∀ r ∈ L, r.2 = 1 ∧ keyN s r.1.1 ≠ 0 ∧ r.1.2 = keyN s r.1.1 % 100) := by have e2 := HL.out; subst e2; exact fun r hr => ⟨(countS_mem hr).1, (countS_mem hr).2.1, (countS_mem hr).2.2.1⟩
    have HUP : Hid (L.Pairwise fun p q => p.1.1 < q.1.1) := by have := HL.out; subst this; exact countS_up s
    have HB : Hid (∀ (k : Nat) (K : Int), -25 ≤ keyN (s.take k) K ∧ keyN (s.take k) K ≤ 25) := fun k K => by have h1 := keyN_abs (s.take k) K; have h2 := absum_take s k; omega
    have hL4 : L.length ≤ 4 := by have := HL.out; subst this; exact countS_len s
    go_wp2_with fail
    refine (specSetOk_eq hk R_4).mono ?_
    rintro e w5 ⟨rfl, hb5⟩
    have R_5 := R_4.keep hb5
    have X_5 := X_4.keep hb5
    have hbw5 := bStep hbw4 hb5
    clear R_4 X_4 hbw4 hb5
    obtain ⟨ax, capx, rfl, hcx, hmx, hnx, hcells⟩ := Is.open X_5
    obtain ⟨ao, capo, rfl, hco, hmo, hno, hcello⟩ := Is.open R_5
    unfold maxLen at hmx hmo
    have HC := (show Hid _ from hcells)
    have HD := (show Hid _ from hcello)
    clear hcells hcello X_5 R_5
    go_wp2_with fail
    go_loopw [5] (fun i wr => ∃ a : Nat, a ≤ L.length ∧ i = .int .i64 a ∧ Below w5.heap.size w5 wr) (fun i _ => L.length - (intOf i).toNat)
    case atStart => exact ⟨0, by omega, rfl, Below.refl _ _⟩
    obtain ⟨a, has2, rfl, hb⟩ := hrel
    by_cases hlt : a < L.length
    · obtain ⟨g, off, K, V, D, rfl, hg, hr, c0, c1, c2⟩ := HC.out a hlt
      have ia : ((a : Int) < (L.length : Int)) := by omega
      obtain ⟨hD, hN0, hVN⟩ := HME.out _ (List.mem_of_getElem? hr)
      simp only at hD hN0 hVN
      subst hD
      have HR := (show Hid _ from hr)
      have HN0 : Hid (keyN s K ≠ 0 ∧ V = keyN s K % 100) := ⟨hN0, hVN⟩
      clear hr hN0 hVN
      go_wp2_with fail
      go_loopw [6, 7] (fun n i wr => ∃ k : Nat, k ≤ s.length ∧ n = .int .i64 (keyN (s.take k) K) ∧ i = .int .i64 k ∧ Below w5.heap.size w5 wr) (fun _ i _ => s.length - (intOf i).toNat)
      case atStart => exact ⟨0, by omega, rfl, rfl, hb⟩
      case round =>
        clear hb
        obtain ⟨k, hks, rfl, rfl, hb⟩ := hrel
        have hbn := HB.out k K
        by_cases hlt2 : k < s.length
        · obtain ⟨gs, offs, K2, V2, D2, rfl, hgs, hr2, p0, -, p2⟩ := HD.out k hlt2
          have ik : ((k : Int) < (s.length : Int)) := by omega
          have hbn2 := HB.out (k + 1) K
          have d0 := cell_below hb c0
          have q0 := cell_below hb p0
          have q2 := cell_below hb p2
          by_cases hK : K2 = K
          · have HS : Hid (keyN (s.take (k + 1)) K = keyN (s.take k) K + D2) := keyN_yes hr2 hK
            rw [HS.out] at hbn2
            subst hK
            clear p0 p2 hr2
            generalize keyN (s.take k) K2 = N at *
            have iw : IntKind.i64.wrap (N + D2) = N + D2 := by rw [IntKind.wrap_i64] <;> omega
            go_wp2_with fail
            go_quiet (fail)
            go_wp2_with fail
            go_roundw
            case rel => exact ⟨k + 1, by omega, by rw [HS.out], by go_num, bDrewN hb _⟩
            case measure => simp [intOf]; omega
          · have HS : Hid (keyN (s.take (k + 1)) K = keyN (s.take k) K) := keyN_no hr2 hK
            clear p0 p2 hr2
            have nx : (K2 == K) = false := beq_eq_false_iff_ne.2 hK
            generalize keyN (s.take k) K = N at *
            go_wp2_with fail
            go_quiet (fail)
            go_wp2_with fail
            go_roundw
            case rel => exact ⟨k + 1, by omega, by rw [HS.out], by go_num, bDrewN hb _⟩
            case measure => simp [intOf]; omega
        · obtain rfl : k = s.length := by omega
          have HNV := HN0.out
          rw [List.take_length] at hbn ⊢
          generalize keyN s K = N at *
          obtain ⟨n0, nV⟩ := HNV
          have nN : (N == 0) = false := beq_eq_false_iff_ne.2 n0
          have hdv : (100 : Int) ∣ N - V := ⟨N / 100, by omega⟩
          have htm : (N - V).tmod 100 = 0 := Int.tmod_eq_zero_of_dvd hdv
          have iw : IntKind.i64.wrap (N - V) = N - V := by rw [IntKind.wrap_i64] <;> omega
          clear nV HN0
          have d0 := cell_below hb c0
          have d1 := cell_below hb c1
          have d2 := cell_below hb c2
          rcases a with _ | m
          · simp only [Nat.zero_mul, Nat.add_zero] at d0 d1 d2
            go_wp2_with fail
            go_quiet (fail)
            go_wp2_with fail
            exact ⟨⟨1, by omega, rfl, bDrewN hb _⟩, by simp [intOf]; omega⟩
          · obtain ⟨g', off', K', V', D', he, hg', hq, p0, -, -⟩ := HC.out m (by omega)
            simp at he
            obtain ⟨rfl, rfl⟩ := he
            have e0 := cell_below hb p0
            have hKK : K' < K := by
              obtain ⟨h1, e1⟩ := List.getElem?_eq_some_iff.1 hq
              obtain ⟨h2, e2⟩ := List.getElem?_eq_some_iff.1 HR.out
              have := (List.pairwise_iff_getElem.1 HUP.out) m (m + 1) h1 h2 (by omega)
              rw [e1, e2] at this
              exact this
            clear p0 hq
            have im0 : (0 : Int) ≤ (m : Int) := by omega
            have im1 : (m : Int) < (L.length : Int) := by omega
            have iw2 : IntKind.i64.wrap (m : Int) = (m : Int) := by rw [IntKind.wrap_i64]; omega
            have nr : decide (K ≤ K') = false := by simp; omega
            go_wp2_with fail
            go_quiet (fail)
            go_wp2_with fail
            exact ⟨⟨m + 1 + 1, by omega, by go_num, bDrewN hb _⟩, by simp [intOf]; omega⟩
    have hbw6 := bStep hbw5 hb
    go_wp2_with fail
    go_ret
    exact ⟨rfl, hbw6⟩
end FnSetCount
namespace RowFnSetCount
theorem own : ownKnob Try.prog.godebug = none := by kernel_rfl
set_option maxRecDepth 100000 in
theorem lifted (os : Os) (started : os.Started) (H : Type) (enc : TypeId × Value → H) :
    ReturnsInHanded {} Try.checked os 22 .any (Rows.fnSetCountSpec.pre6 enc Try.prog Try.f22 Rows.fnSetCountRow.domain false) (Rows.fnSetCountSpec.post enc Try.prog Try.f22 false true false false) := by
  refine returnsInHanded_of_change (C := Try.checked) own started (by kernel_rfl) Try.func22
    (ChangeSpec.witness6 (enc := enc) (C := Try.checked) false ⟨#[], #[.slice none 0 0], []⟩ 8 (by kernel_rfl) (by kernel_rfl) (by kernel_rfl) (by kernel_rfl)) ?_
  intro W base args ds gs before hval0 hW hcnd _
  have hval : ∀ (j : Nat) t v, Try.f22.params[j]? = some t → args[j]? = some v → Value.okWide Try.prog W .any base t v := hval0
  have hW' := hW
  obtain ⟨p, q, hA0, hV, rfl, hfz, hnd⟩ := hW
  have hA : DataW.TrodAll enc Try.prog W 0 (fun _ => true) true Try.f22.params.toList args.toList ds p := hA0
  rw [Try.params22] at hA hval
  obtain ⟨v0, vs0, d0, ds0, p0, q0, hargs, rfl, rfl, h0, r0⟩ := trodAll_cons hA
  obtain ⟨rfl, rfl, rfl⟩ := trodAll_nil r0
  obtain rfl : args = #[v0] := by cases args; simp_all
  obtain ⟨rfl, rfl⟩ := trodVars_none hV
  obtain ⟨a0, len0, cap0, rfl⟩ := okWide_slice Try.underlying22 (hval 0 22 v0 rfl rfl)
  have k0 := h0
  have lt0 : ∀ x ∈ p0, x.block < W.heap.size := by obtain ⟨m, hm⟩ := k0; exact DataW.trod_lt m _ _ _ hm
  have w0 : Src W (.slice a0 len0 cap0) len0 := by
    obtain ⟨fuel, hf⟩ := h0
    rcases open_ints Try.underlying22 Try.underlying5 (by kernel_rfl) hf with ⟨hcs, _⟩ | ⟨x, l, c, zs, hcs, _, hl, hm, hz, _, hcell, hwz⟩
    · simp [Value.cells] at hcs
      obtain ⟨rfl, rfl, rfl⟩ := hcs
      exact Src.nil _
    · simp [Value.cells] at hcs
      obtain ⟨rfl, rfl, rfl⟩ := hcs
      exact Src.of_row hl hm (by simpa using hz) hcell hwz
  clear hA0 hval0
  refine (FnSetCount.walk a0 len0 cap0 W w0).mono fun e W' ⟨he, bel⟩ => ?_
  subst he
  exact ⟨_, rfl, _, _, _, [], _, [], hW', trodAll_mk1 (shut_bool Try.underlying4 _), (trodAll_cons_mk (Below.trod pfLaid (by kernel_rfl) (of_decide_eq_true (by kernel_rfl)) k0 bel lt0) trodAll_mk0), rfl, bel.frame _, fun h => by cases h⟩
set_option maxHeartbeats 4000000 in
theorem closed : joinedFacts Try.prog 22 Try.f22 Rows.fnSetCountSpec Rows.fnSetCountRow = true := by
  unfold joinedFacts
  exact (andB (andB (andB (andB (andB (andB (andB (andB (andB (andB (andB (andB (andB (andB (andB (andB (andB (andB (andB (andB (andB (andB (andB (andB (andB (andB (andB (andB (andB (andB (andB (by as_aux_lemma => kernel_rfl) pfLaid) pfRowed) (by as_aux_lemma => kernel_rfl)) (by as_aux_lemma => kernel_rfl)) (by as_aux_lemma => kernel_rfl)) (by as_aux_lemma => kernel_rfl)) (by as_aux_lemma => kernel_rfl)) (by as_aux_lemma => kernel_rfl)) (by as_aux_lemma => kernel_rfl)) (by as_aux_lemma => kernel_rfl)) (by as_aux_lemma => kernel_rfl)) (by as_aux_lemma => kernel_rfl)) (by as_aux_lemma => kernel_rfl)) (by as_aux_lemma => kernel_rfl)) (by as_aux_lemma => kernel_rfl)) (by as_aux_lemma => kernel_rfl)) (by as_aux_lemma => kernel_rfl)) (by as_aux_lemma => kernel_rfl)) (by as_aux_lemma => kernel_rfl)) (by as_aux_lemma => kernel_rfl)) (by as_aux_lemma => kernel_rfl)) (by as_aux_lemma => kernel_rfl)) (by as_aux_lemma => kernel_rfl)) pfHeard) pfEnter) (pfLiftB rfl)) (pfMakeB rfl)) (by as_aux_lemma => kernel_rfl)) (by as_aux_lemma => kernel_rfl)) (by as_aux_lemma => kernel_rfl)) (by as_aux_lemma => kernel_rfl))
theorem over : Rows.fnSetCountRow.holds Try.pinned (OpenSpec.ofChange Rows.fnSetCountSpec) :=
  OpenClaim.holds_of_wide 22 Try.f22 rfl rfl rfl rfl rfl rfl rfl ⟨rfl, rfl, rfl, rfl, rfl⟩ rfl rfl rfl rfl rfl (by kernel_rfl) Try.func22 closed
    (of_decide_eq_true (by kernel_rfl)) (by unfold Func.isWrapper; first | (rw [if_pos (by decide +kernel)]; kernel_rfl) | (rw [if_neg (by decide +kernel)]; exact ⟨rfl, rfl⟩))
    (fun os started H enc _ => lifted os started H enc)
end RowFnSetCount
theorem fnSetCount_holds : Rows.FnSetCountSaid := RowFnSetCount.over
end Go.Proofs.Ytbmdfmboabfceaa
