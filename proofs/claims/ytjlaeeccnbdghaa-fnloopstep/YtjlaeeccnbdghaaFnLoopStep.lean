/- For all bytes: LoopStep of the program answers of the items that they draw as the model's; what is come to is ok items, each once, of the value 0; without ties, and where nothing was come to, the same is; the argument reads afterwards as before. No condition. -/
import Derived.Test.YtjlaeeccnbdghaaPf
import Derived.Test.YtjlaeeccnbdghaaTp1
import Derived.Test.YtjlaeeccnbdghaaGd4
import Derived.Test.YtjlaeeccnbdghaaGd3
namespace Go.Proofs.Ytjlaeeccnbdghaa
open Go.ChangeShapes Go.WideShapes Go.ChangeAt Go.RowKit Go.Joins

set_option maxHeartbeats 4000000 in
theorem drawLoopStep_any (a : Option Addr) (len cap : Nat) (w : World) (h : Src w (.slice a len cap) len) :
    Calls Try.prog 11 #[.slice a len cap] w fun e w' => ∃ (o1 o2 o3 : Value) (l1 l2 l3 : List It), e = .returned (.tuple #[o1, o2, o3]) ∧ drS l1 ∧ drS l2 ∧ drS l3 ∧ Is w' o1 l1 ∧ Is w' o2 l2 ∧ Is w' o3 l3 ∧ Below w.heap.size w w' := by
  go_enter Try.func11, Try.ntmps11
  go_wp2_with fail
  refine (l6Open_any _ _ _ _ h).mono ?_
  rintro e w1 ⟨rfl, ⟨v, n, hr1⟩, hb1⟩
  clear h
  have hs1 := hb1.size
  have hg := hr1.blk.lt
  go_wp2_with fail
  refine (l71Set_any hr1 (by omega) (by omega)).mono ?_
  rintro e w2 ⟨o1, l1, rfl, hd1, hown1, ⟨p1, hp1, hp2, hr2⟩, hx2⟩
  have HO1 : Hid (OwnI w2 w1.heap.size o1 l1) := hown1
  have hg2 := hr2.blk.lt
  clear hown1
  go_wp2_with fail
  refine (l71Set_any hr2 (by omega) (by omega)).mono ?_
  rintro e w3 ⟨o2, l2, rfl, hd2, hown2, ⟨p2, hp3, hp4, hr3⟩, hx3⟩
  have HO2 : Hid (OwnI w3 w2.heap.size o2 l2) := hown2
  have HO1' : Hid (OwnI w3 w1.heap.size o1 l1) := own_keepx HO1.out hx3 hg
  clear hown2 HO1
  go_wp2_with fail
  refine (l71Set_any hr3 (by omega) (by omega)).mono ?_
  rintro e w4 ⟨o3, l3, rfl, hd3, hown3, -, hx4⟩
  have R3 : Hid (Is w4 o3 l3) := OwnI.is hown3 (by have := hd3.1; omega)
  have R2 : Hid (Is w4 o2 l2) := OwnI.is (own_keepx HO2.out hx4 hg2) (by have := hd2.1; omega)
  have R1 : Hid (Is w4 o1 l1) := OwnI.is (own_keepx HO1'.out hx4 hg) (by have := hd1.1; omega)
  clear hown3 HO2 HO1'
  go_wp2_with fail
  refine bodyPost_ret (by simp [results, Try.results11, go_sem]; try rfl) rfl ?_
  exact ⟨o1, o2, o3, l1, l2, l3, rfl, hd1, hd2, hd3, R1.out, R2.out, R3.out, ((hx2.trans hx3).trans hx4).below hb1 hs1 (Nat.le_refl _)⟩
namespace FnLoopStep
set_option maxRecDepth 100000 in
set_option maxHeartbeats 8000000 in
theorem walk (x0 : Option Addr) (len0 cap0 : Nat) (w : World) (h0 : Src w (.slice x0 len0 cap0) len0) :
    Calls Try.prog 3 #[.slice x0 len0 cap0] w fun e w' => e = .returned (.bool true) ∧ Below w.heap.size w w' := by
  by_cases g0 : (1048576 : Int) < (len0 : Int)
  · go_enter Try.func3, Try.ntmps3
    go_wp2_with fail
    go_ret
    exact ⟨rfl, Below.refl _ _⟩
  go_enter Try.func3, Try.ntmps3
  go_wp2_with fail
  refine (drawLoopStep_any _ _ _ _ h0).mono ?_
  rintro e w1 ⟨o1, o2, o3, l1, l2, l3, rfl, hd1, hd2, hd3, A_1, B_1, C_1, hb1⟩
  have hbw1 := hb1
  clear h0 hb1
  have q1 : absum l1 ≤ 562949953421312 := by have := hd1.2; omega
  have q2 : absum l2 ≤ 562949953421312 := by have := hd2.2; omega
  have q3 : absum l3 ≤ 600 := by have := hd3.2; omega
  have q0 : absum ([] : List It) ≤ 562949953421312 := by simp [absum]
  have qn : absum ([] : List It) ≤ 600 := by simp [absum]
  obtain ⟨X, hL_X⟩ : ∃ zz, stepL l1 l2 l3 = zz := ⟨_, rfl⟩
  have HX : Hid (stepL l1 l2 l3 = X) := hL_X
  clear hL_X
  have H1 : Hid (∀ r ∈ X, r.2 = 1 ∧ r.1.2 = 0) := by have h := HX.out; subst h; exact step_one
  have HS : Hid (sokB X = true) := by have h := HX.out; subst h; exact step_sok _ _ _
  go_wp2_with fail
  refine (implLoopStep_k HX.out q1 q2 q3 A_1 B_1 C_1).mono ?_
  rintro e w2 ⟨ox, rfl, X_2, hb2⟩
  have A_2 := A_1.keep hb2
  have B_2 := B_1.keep hb2
  have C_2 := C_1.keep hb2
  have hbw2 := bStep hbw1 hb2
  clear A_1 B_1 C_1 hbw1 hb2
  go_wp2_with fail
  refine (specLoopStep_k HX.out q1 q2 q3 A_2 B_2 C_2).mono ?_
  rintro e w3 ⟨os, rfl, S_3, hb3⟩
  have A_3 := A_2.keep hb3
  have B_3 := B_2.keep hb3
  have C_3 := C_2.keep hb3
  have X_3 := X_2.keep hb3
  have hbw3 := bStep hbw2 hb3
  clear A_2 B_2 C_2 X_2 hbw2 hb3
  go_wp2_with fail
  refine (lwItems_eq (selfI _) X_3 S_3).mono ?_
  rintro e w4 ⟨rfl, hb4⟩
  have A_4 := A_3.keep hb4
  have B_4 := B_3.keep hb4
  have C_4 := C_3.keep hb4
  have X_4 := X_3.keep hb4
  have hbw4 := bStep hbw3 hb4
  clear A_3 B_3 C_3 X_3 S_3 hbw3 hb4
  cases k1 : sokB l1
  · go_wp2_with fail
    refine (specSetOk_eq k1 A_4).mono ?_
    rintro e w5 ⟨rfl, hb5⟩
    have A_5 := A_4.keep hb5
    have B_5 := B_4.keep hb5
    have C_5 := C_4.keep hb5
    have X_5 := X_4.keep hb5
    have hbw5 := bStep hbw4 hb5
    clear A_4 B_4 C_4 X_4 hbw4 hb5
    go_wp2_with fail
    refine (specLoopStep_k HX.out q1 q2 q3 A_5 B_5 C_5).mono ?_
    rintro e w6 ⟨os, rfl, S_6, hb6⟩
    have A_6 := A_5.keep hb6
    have B_6 := B_5.keep hb6
    have C_6 := C_5.keep hb6
    have X_6 := X_5.keep hb6
    have hbw6 := bStep hbw5 hb6
    clear A_5 B_5 C_5 X_5 hbw5 hb6
    go_wp2_with fail
    refine (lwItems_eq (selfI _) X_6 S_6).mono ?_
    rintro e w7 ⟨rfl, hb7⟩
    have A_7 := A_6.keep hb7
    have B_7 := B_6.keep hb7
    have C_7 := C_6.keep hb7
    have X_7 := X_6.keep hb7
    have S_7 := S_6.keep hb7
    have hbw7 := bStep hbw6 hb7
    clear A_6 B_6 C_6 X_6 S_6 hbw6 hb7
    go_wp2_with fail
    go_ret
    exact ⟨rfl, hbw7⟩
  · cases k2 : sokB l2
    · go_wp2_with fail
      refine (specSetOk_eq k1 A_4).mono ?_
      rintro e w5 ⟨rfl, hb5⟩
      have A_5 := A_4.keep hb5
      have B_5 := B_4.keep hb5
      have C_5 := C_4.keep hb5
      have X_5 := X_4.keep hb5
      have hbw5 := bStep hbw4 hb5
      clear A_4 B_4 C_4 X_4 hbw4 hb5
      go_wp2_with fail
      refine (specSetOk_eq k2 B_5).mono ?_
      rintro e w6 ⟨rfl, hb6⟩
      have A_6 := A_5.keep hb6
      have B_6 := B_5.keep hb6
      have C_6 := C_5.keep hb6
      have X_6 := X_5.keep hb6
      have hbw6 := bStep hbw5 hb6
      clear A_5 B_5 C_5 X_5 hbw5 hb6
      go_wp2_with fail
      refine (specLoopStep_k HX.out q1 q2 q3 A_6 B_6 C_6).mono ?_
      rintro e w7 ⟨os, rfl, S_7, hb7⟩
      have A_7 := A_6.keep hb7
      have B_7 := B_6.keep hb7
      have C_7 := C_6.keep hb7
      have X_7 := X_6.keep hb7
      have hbw7 := bStep hbw6 hb7
      clear A_6 B_6 C_6 X_6 hbw6 hb7
      go_wp2_with fail
      refine (lwItems_eq (selfI _) X_7 S_7).mono ?_
      rintro e w8 ⟨rfl, hb8⟩
      have A_8 := A_7.keep hb8
      have B_8 := B_7.keep hb8
      have C_8 := C_7.keep hb8
      have X_8 := X_7.keep hb8
      have S_8 := S_7.keep hb8
      have hbw8 := bStep hbw7 hb8
      clear A_7 B_7 C_7 X_7 S_7 hbw7 hb8
      go_wp2_with fail
      go_ret
      exact ⟨rfl, hbw8⟩
    · cases k3 : sokB l3
      · go_wp2_with fail
        refine (specSetOk_eq k1 A_4).mono ?_
        rintro e w5 ⟨rfl, hb5⟩
        have A_5 := A_4.keep hb5
        have B_5 := B_4.keep hb5
        have C_5 := C_4.keep hb5
        have X_5 := X_4.keep hb5
        have hbw5 := bStep hbw4 hb5
        clear A_4 B_4 C_4 X_4 hbw4 hb5
        go_wp2_with fail
        refine (specSetOk_eq k2 B_5).mono ?_
        rintro e w6 ⟨rfl, hb6⟩
        have A_6 := A_5.keep hb6
        have B_6 := B_5.keep hb6
        have C_6 := C_5.keep hb6
        have X_6 := X_5.keep hb6
        have hbw6 := bStep hbw5 hb6
        clear A_5 B_5 C_5 X_5 hbw5 hb6
        go_wp2_with fail
        refine (specSetOk_eq k3 C_6).mono ?_
        rintro e w7 ⟨rfl, hb7⟩
        have A_7 := A_6.keep hb7
        have B_7 := B_6.keep hb7
        have C_7 := C_6.keep hb7
        have X_7 := X_6.keep hb7
        have hbw7 := bStep hbw6 hb7
        clear A_6 B_6 C_6 X_6 hbw6 hb7
        go_wp2_with fail
        refine (specLoopStep_k HX.out q1 q2 q3 A_7 B_7 C_7).mono ?_
        rintro e w8 ⟨os, rfl, S_8, hb8⟩
        have A_8 := A_7.keep hb8
        have B_8 := B_7.keep hb8
        have C_8 := C_7.keep hb8
        have X_8 := X_7.keep hb8
        have hbw8 := bStep hbw7 hb8
        clear A_7 B_7 C_7 X_7 hbw7 hb8
        go_wp2_with fail
        refine (lwItems_eq (selfI _) X_8 S_8).mono ?_
        rintro e w9 ⟨rfl, hb9⟩
        have A_9 := A_8.keep hb9
        have B_9 := B_8.keep hb9
        have C_9 := C_8.keep hb9
        have X_9 := X_8.keep hb9
        have S_9 := S_8.keep hb9
        have hbw9 := bStep hbw8 hb9
        clear A_8 B_8 C_8 X_8 S_8 hbw8 hb9
        go_wp2_with fail
        go_ret
        exact ⟨rfl, hbw9⟩
      · obtain ⟨Z, hL_Z⟩ : ∃ zz, stepL [] l2 l3 = zz := ⟨_, rfl⟩
        have HZ : Hid (stepL [] l2 l3 = Z) := hL_Z
        clear hL_Z
        have HN : Hid (stepL l1 l2 [] = Z) := (step_none k1 k3).trans HZ.out
        go_wp2_with fail
        refine (specSetOk_eq k1 A_4).mono ?_
        rintro e w5 ⟨rfl, hb5⟩
        have A_5 := A_4.keep hb5
        have B_5 := B_4.keep hb5
        have C_5 := C_4.keep hb5
        have X_5 := X_4.keep hb5
        have hbw5 := bStep hbw4 hb5
        clear A_4 B_4 C_4 X_4 hbw4 hb5
        go_wp2_with fail
        refine (specSetOk_eq k2 B_5).mono ?_
        rintro e w6 ⟨rfl, hb6⟩
        have A_6 := A_5.keep hb6
        have B_6 := B_5.keep hb6
        have C_6 := C_5.keep hb6
        have X_6 := X_5.keep hb6
        have hbw6 := bStep hbw5 hb6
        clear A_5 B_5 C_5 X_5 hbw5 hb6
        go_wp2_with fail
        refine (specSetOk_eq k3 C_6).mono ?_
        rintro e w7 ⟨rfl, hb7⟩
        have A_7 := A_6.keep hb7
        have B_7 := B_6.keep hb7
        have C_7 := C_6.keep hb7
        have X_7 := X_6.keep hb7
        have hbw7 := bStep hbw6 hb7
        clear A_6 B_6 C_6 X_6 hbw6 hb7
        obtain ⟨ax, cx, rfl, hcx, hmx, hnx, hcells⟩ := Is.open X_7
        unfold maxLen at hmx
        have HC := (show Hid _ from hcells)
        clear hcells
        go_wp2_with fail
        go_loopw [7] (fun i wr => ∃ k : Nat, k ≤ X.length ∧ i = .int .i64 k ∧ Below w7.heap.size w7 wr) (fun i _ => X.length - (intOf i).toNat)
        case atStart => exact ⟨0, by omega, rfl, Below.refl _ _⟩
        obtain ⟨k, hkl, rfl, hb⟩ := hrel
        by_cases hlt : k < X.length
        · obtain ⟨g, off, K, V, D, rfl, hg, hr, c0, c1, c2⟩ := HC.out k hlt
          have ik : ((k : Int) < (X.length : Int)) := by omega
          obtain ⟨e1, e2⟩ := H1.out _ (List.mem_of_getElem? hr)
          simp only at e1 e2
          subst e1 e2
          have d1 := cell_below hb c1
          have d2 := cell_below hb c2
          clear c0 c1 c2 hr
          go_wp2_with fail
          go_roundw
          case rel => exact ⟨k + 1, by omega, by go_num, hb⟩
          case measure => simp [intOf]; omega
        obtain rfl : k = X.length := by omega
        have A_8 := A_7.keep hb
        have B_8 := B_7.keep hb
        have C_8 := C_7.keep hb
        have X_8 := X_7.keep hb
        have hbw8 := bStep hbw7 hb
        clear A_7 B_7 C_7 X_7 hbw7 hb
        go_wp2_with fail
        refine (implLoopStep_k HZ.out q0 q2 q3 (nilI _) B_8 C_8).mono ?_
        rintro e w9 ⟨oz, rfl, Z_9, hb9⟩
        have A_9 := A_8.keep hb9
        have B_9 := B_8.keep hb9
        have C_9 := C_8.keep hb9
        have X_9 := X_8.keep hb9
        have hbw9 := bStep hbw8 hb9
        clear A_8 B_8 C_8 X_8 hbw8 hb9
        go_wp2_with fail
        refine (implLoopStep_k HN.out q1 q2 qn A_9 B_9 (nilI _)).mono ?_
        rintro e w10 ⟨ow, rfl, W_10, hb10⟩
        have A_10 := A_9.keep hb10
        have B_10 := B_9.keep hb10
        have C_10 := C_9.keep hb10
        have X_10 := X_9.keep hb10
        have Z_10 := Z_9.keep hb10
        have hbw10 := bStep hbw9 hb10
        clear A_9 B_9 C_9 X_9 Z_9 hbw9 hb10
        go_wp2_with fail
        refine (implSetOk_eq HS.out X_10).mono ?_
        rintro e w11 ⟨rfl, hb11⟩
        have A_11 := A_10.keep hb11
        have B_11 := B_10.keep hb11
        have C_11 := C_10.keep hb11
        have X_11 := X_10.keep hb11
        have Z_11 := Z_10.keep hb11
        have W_11 := W_10.keep hb11
        have hbw11 := bStep hbw10 hb11
        clear A_10 B_10 C_10 X_10 Z_10 W_10 hbw10 hb11
        go_wp2_with fail
        refine (lwItems_eq (selfI _) Z_11 W_11).mono ?_
        rintro e w12 ⟨rfl, hb12⟩
        have A_12 := A_11.keep hb12
        have B_12 := B_11.keep hb12
        have C_12 := C_11.keep hb12
        have X_12 := X_11.keep hb12
        have Z_12 := Z_11.keep hb12
        have W_12 := W_11.keep hb12
        have hbw12 := bStep hbw11 hb12
        clear A_11 B_11 C_11 X_11 Z_11 W_11 hbw11 hb12
        go_wp2_with fail
        go_ret
        exact ⟨rfl, hbw12⟩
end FnLoopStep
namespace RowFnLoopStep
theorem own : ownKnob Try.prog.godebug = none := by kernel_rfl
set_option maxRecDepth 100000 in
theorem lifted (os : Os) (started : os.Started) (H : Type) (enc : TypeId × Value → H) :
    ReturnsInHanded {} Try.checked os 3 .any (Rows.fnLoopStepSpec.pre6 enc Try.prog Try.f3 Rows.fnLoopStepRow.domain false) (Rows.fnLoopStepSpec.post enc Try.prog Try.f3 false true false false) := by
  refine returnsInHanded_of_change (C := Try.checked) own started (by kernel_rfl) Try.func3
    (ChangeSpec.witness6 (enc := enc) (C := Try.checked) false ⟨#[], #[.slice none 0 0], []⟩ 8 (by kernel_rfl) (by kernel_rfl) (by kernel_rfl) (by kernel_rfl)) ?_
  intro W base args ds gs before hval0 hW hcnd _
  have hval : ∀ (j : Nat) t v, Try.f3.params[j]? = some t → args[j]? = some v → Value.okWide Try.prog W .any base t v := hval0
  have hW' := hW
  obtain ⟨p, q, hA0, hV, rfl, hfz, hnd⟩ := hW
  have hA : DataW.TrodAll enc Try.prog W 0 (fun _ => true) true Try.f3.params.toList args.toList ds p := hA0
  rw [Try.params3] at hA hval
  obtain ⟨v0, vs0, d0, ds0, p0, q0, hargs, rfl, rfl, h0, r0⟩ := trodAll_cons hA
  obtain ⟨rfl, rfl, rfl⟩ := trodAll_nil r0
  obtain rfl : args = #[v0] := by cases args; simp_all
  obtain ⟨rfl, rfl⟩ := trodVars_none hV
  obtain ⟨a0, len0, cap0, rfl⟩ := okWide_slice Try.underlying22 (hval 0 22 v0 rfl rfl)
  have k0 := h0
  have lt0 : ∀ x ∈ p0, x.block < W.heap.size := by obtain ⟨m, hm⟩ := k0; exact DataW.trod_lt m _ _ _ hm
  have w0 : Src W (.slice a0 len0 cap0) len0 := by
    obtain ⟨fuel, hf⟩ := h0
    rcases open_ints Try.underlying22 Try.underlying5 (by kernel_rfl) hf with ⟨hcs, _⟩ | ⟨x, l, c, zs, hcs, _, hl, hm, hz, _, hcell, hwz⟩
    · simp [Value.cells] at hcs
      obtain ⟨rfl, rfl, rfl⟩ := hcs
      exact Src.nil _
    · simp [Value.cells] at hcs
      obtain ⟨rfl, rfl, rfl⟩ := hcs
      exact Src.of_row hl hm (by simpa using hz) hcell hwz
  clear hA0 hval0
  refine (FnLoopStep.walk a0 len0 cap0 W w0).mono fun e W' ⟨he, bel⟩ => ?_
  subst he
  exact ⟨_, rfl, _, _, _, [], _, [], hW', trodAll_mk1 (shut_bool Try.underlying4 _), (trodAll_cons_mk (Below.trod pfLaid (by kernel_rfl) (of_decide_eq_true (by kernel_rfl)) k0 bel lt0) trodAll_mk0), rfl, bel.frame _, fun h => by cases h⟩
set_option maxHeartbeats 4000000 in
theorem closed : joinedFacts Try.prog 3 Try.f3 Rows.fnLoopStepSpec Rows.fnLoopStepRow = true := by
  unfold joinedFacts
  exact (andB (andB (andB (andB (andB (andB (andB (andB (andB (andB (andB (andB (andB (andB (andB (andB (andB (andB (andB (andB (andB (andB (andB (andB (andB (andB (andB (andB (andB (andB (andB (by as_aux_lemma => kernel_rfl) pfLaid) pfRowed) (by as_aux_lemma => kernel_rfl)) (by as_aux_lemma => kernel_rfl)) (by as_aux_lemma => kernel_rfl)) (by as_aux_lemma => kernel_rfl)) (by as_aux_lemma => kernel_rfl)) (by as_aux_lemma => kernel_rfl)) (by as_aux_lemma => kernel_rfl)) (by as_aux_lemma => kernel_rfl)) (by as_aux_lemma => kernel_rfl)) (by as_aux_lemma => kernel_rfl)) (by as_aux_lemma => kernel_rfl)) (by as_aux_lemma => kernel_rfl)) (by as_aux_lemma => kernel_rfl)) (by as_aux_lemma => kernel_rfl)) (by as_aux_lemma => kernel_rfl)) (by as_aux_lemma => kernel_rfl)) (by as_aux_lemma => kernel_rfl)) (by as_aux_lemma => kernel_rfl)) (by as_aux_lemma => kernel_rfl)) (by as_aux_lemma => kernel_rfl)) (by as_aux_lemma => kernel_rfl)) pfHeard) pfEnter) (pfLiftB rfl)) (pfMakeB rfl)) (by as_aux_lemma => kernel_rfl)) (by as_aux_lemma => kernel_rfl)) (by as_aux_lemma => kernel_rfl)) (by as_aux_lemma => kernel_rfl))
theorem over : Rows.fnLoopStepRow.holds Try.pinned (OpenSpec.ofChange Rows.fnLoopStepSpec) :=
  OpenClaim.holds_of_wide 3 Try.f3 rfl rfl rfl rfl rfl rfl rfl ⟨rfl, rfl, rfl, rfl, rfl⟩ rfl rfl rfl rfl rfl (by kernel_rfl) Try.func3 closed
    (of_decide_eq_true (by kernel_rfl)) (by unfold Func.isWrapper; first | (rw [if_pos (by decide +kernel)]; kernel_rfl) | (rw [if_neg (by decide +kernel)]; exact ⟨rfl, rfl⟩))
    (fun os started H enc _ => lifted os started H enc)
end RowFnLoopStep
theorem fnLoopStep_holds : Rows.FnLoopStepSaid := RowFnLoopStep.over
end Go.Proofs.Ytjlaeeccnbdghaa
