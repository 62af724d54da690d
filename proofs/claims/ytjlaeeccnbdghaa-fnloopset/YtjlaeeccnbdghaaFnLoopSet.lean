/- For all bytes: LoopSet of the program answers of the items and the rounds that they draw as the model's; where no Count is below 0, what is come to is come to in one round more, which is LoopStep of it; the argument reads afterwards as before. No condition. -/
import Derived.Test.YtjlaeeccnbdghaaPf
import Derived.Test.YtjlaeeccnbdghaaTw1
import Derived.Test.YtjlaeeccnbdghaaGd5
namespace Go.Proofs.Ytjlaeeccnbdghaa
open Go.ChangeShapes Go.WideShapes Go.ChangeAt Go.RowKit Go.Joins

namespace FnLoopSet
set_option maxRecDepth 100000 in
set_option maxHeartbeats 8000000 in
theorem walk (x0 : Option Addr) (len0 cap0 : Nat) (w : World) (h0 : Src w (.slice x0 len0 cap0) len0) :
    Calls Try.prog 4 #[.slice x0 len0 cap0] w fun e w' => e = .returned (.bool true) ∧ Below w.heap.size w w' := by
  by_cases g0 : (1048576 : Int) < (len0 : Int)
  · go_enter Try.func4, Try.ntmps4
    go_wp2_with fail
    go_ret
    exact ⟨rfl, Below.refl _ _⟩
  go_enter Try.func4, Try.ntmps4
  go_wp2_with fail
  refine (drawLoopSet_any _ _ _ _ h0).mono ?_
  rintro e w1 ⟨o1, o2, l1, l2, n, rfl, hd1, hd2, hn0, hn7, A_1, B_1, hb1⟩
  have hbw1 := hb1
  clear h0 hb1
  have q1 : absum l1 ≤ 600 := by have := hd1.2; omega
  have q2 : absum l2 ≤ 600 := by have := hd2.2; omega
  obtain ⟨X, hL_X⟩ : ∃ zz, setL l1 l2 n = zz := ⟨_, rfl⟩
  have HX : Hid (setL l1 l2 n = X) := hL_X
  clear hL_X
  go_wp2_with fail
  refine (implLoopSet_k HX.out A_1 B_1).mono ?_
  rintro e w2 ⟨ox, rfl, X_2, hb2⟩
  have A_2 := A_1.keep hb2
  have B_2 := B_1.keep hb2
  have hbw2 := bStep hbw1 hb2
  clear A_1 B_1 hbw1 hb2
  go_wp2_with fail
  refine (specLoopSet_k HX.out A_2 B_2).mono ?_
  rintro e w3 ⟨os, rfl, S_3, hb3⟩
  have A_3 := A_2.keep hb3
  have B_3 := B_2.keep hb3
  have X_3 := X_2.keep hb3
  have hbw3 := bStep hbw2 hb3
  clear A_2 B_2 X_2 hbw2 hb3
  go_wp2_with fail
  refine (lwItems_eq (selfI _) X_3 S_3).mono ?_
  rintro e w4 ⟨rfl, hb4⟩
  have A_4 := A_3.keep hb4
  have B_4 := B_3.keep hb4
  have X_4 := X_3.keep hb4
  have hbw4 := bStep hbw3 hb4
  clear A_3 B_3 X_3 S_3 hbw3 hb4
  cases k1 : sokB l1
  · go_wp2_with fail
    refine (specSetOk_eq k1 A_4).mono ?_
    rintro e w5 ⟨rfl, hb5⟩
    have A_5 := A_4.keep hb5
    have B_5 := B_4.keep hb5
    have X_5 := X_4.keep hb5
    have hbw5 := bStep hbw4 hb5
    clear A_4 B_4 X_4 hbw4 hb5
    go_wp2_with fail
    refine (specLoopSet_k HX.out A_5 B_5).mono ?_
    rintro e w6 ⟨os, rfl, S_6, hb6⟩
    have A_6 := A_5.keep hb6
    have B_6 := B_5.keep hb6
    have X_6 := X_5.keep hb6
    have hbw6 := bStep hbw5 hb6
    clear A_5 B_5 X_5 hbw5 hb6
    go_wp2_with fail
    refine (lwItems_eq (selfI _) X_6 S_6).mono ?_
    rintro e w7 ⟨rfl, hb7⟩
    have A_7 := A_6.keep hb7
    have B_7 := B_6.keep hb7
    have X_7 := X_6.keep hb7
    have S_7 := S_6.keep hb7
    have hbw7 := bStep hbw6 hb7
    clear A_6 B_6 X_6 S_6 hbw6 hb7
    go_wp2_with fail
    go_ret
    exact ⟨rfl, hbw7⟩
  · cases k2 : sokB l2
    · go_wp2_with fail
      refine (specSetOk_eq k1 A_4).mono ?_
      rintro e w5 ⟨rfl, hb5⟩
      have A_5 := A_4.keep hb5
      have B_5 := B_4.keep hb5
      have X_5 := X_4.keep hb5
      have hbw5 := bStep hbw4 hb5
      clear A_4 B_4 X_4 hbw4 hb5
      go_wp2_with fail
      refine (specSetOk_eq k2 B_5).mono ?_
      rintro e w6 ⟨rfl, hb6⟩
      have A_6 := A_5.keep hb6
      have B_6 := B_5.keep hb6
      have X_6 := X_5.keep hb6
      have hbw6 := bStep hbw5 hb6
      clear A_5 B_5 X_5 hbw5 hb6
      go_wp2_with fail
      refine (specLoopSet_k HX.out A_6 B_6).mono ?_
      rintro e w7 ⟨os, rfl, S_7, hb7⟩
      have A_7 := A_6.keep hb7
      have B_7 := B_6.keep hb7
      have X_7 := X_6.keep hb7
      have hbw7 := bStep hbw6 hb7
      clear A_6 B_6 X_6 hbw6 hb7
      go_wp2_with fail
      refine (lwItems_eq (selfI _) X_7 S_7).mono ?_
      rintro e w8 ⟨rfl, hb8⟩
      have A_8 := A_7.keep hb8
      have B_8 := B_7.keep hb8
      have X_8 := X_7.keep hb8
      have S_8 := S_7.keep hb8
      have hbw8 := bStep hbw7 hb8
      clear A_7 B_7 X_7 S_7 hbw7 hb8
      go_wp2_with fail
      go_ret
      exact ⟨rfl, hbw8⟩
    · by_cases hlo : n < 0
      · go_wp2_with fail
        refine (specSetOk_eq k1 A_4).mono ?_
        rintro e w5 ⟨rfl, hb5⟩
        have A_5 := A_4.keep hb5
        have B_5 := B_4.keep hb5
        have X_5 := X_4.keep hb5
        have hbw5 := bStep hbw4 hb5
        clear A_4 B_4 X_4 hbw4 hb5
        go_wp2_with fail
        refine (specSetOk_eq k2 B_5).mono ?_
        rintro e w6 ⟨rfl, hb6⟩
        have A_6 := A_5.keep hb6
        have B_6 := B_5.keep hb6
        have X_6 := X_5.keep hb6
        have hbw6 := bStep hbw5 hb6
        clear A_5 B_5 X_5 hbw5 hb6
        go_wp2_with fail
        refine (specLoopSet_k HX.out A_6 B_6).mono ?_
        rintro e w7 ⟨os, rfl, S_7, hb7⟩
        have A_7 := A_6.keep hb7
        have B_7 := B_6.keep hb7
        have X_7 := X_6.keep hb7
        have hbw7 := bStep hbw6 hb7
        clear A_6 B_6 X_6 hbw6 hb7
        go_wp2_with fail
        refine (lwItems_eq (selfI _) X_7 S_7).mono ?_
        rintro e w8 ⟨rfl, hb8⟩
        have A_8 := A_7.keep hb8
        have B_8 := B_7.keep hb8
        have X_8 := X_7.keep hb8
        have S_8 := S_7.keep hb8
        have hbw8 := bStep hbw7 hb8
        clear A_7 B_7 X_7 S_7 hbw7 hb8
        go_wp2_with fail
        go_ret
        exact ⟨rfl, hbw8⟩
      · by_cases hn6 : n < 6
        · have hn6' : ¬ ((6 : Int) ≤ n) := by omega
          cases k3 : plusB l1
          · go_wp2_with fail
            refine (specSetOk_eq k1 A_4).mono ?_
            rintro e w5 ⟨rfl, hb5⟩
            have A_5 := A_4.keep hb5
            have B_5 := B_4.keep hb5
            have X_5 := X_4.keep hb5
            have hbw5 := bStep hbw4 hb5
            clear A_4 B_4 X_4 hbw4 hb5
            go_wp2_with fail
            refine (specSetOk_eq k2 B_5).mono ?_
            rintro e w6 ⟨rfl, hb6⟩
            have A_6 := A_5.keep hb6
            have B_6 := B_5.keep hb6
            have X_6 := X_5.keep hb6
            have hbw6 := bStep hbw5 hb6
            clear A_5 B_5 X_5 hbw5 hb6
            go_wp2_with fail
            refine (lwPlus_eq k3 A_6).mono ?_
            rintro e w7 ⟨rfl, hb7⟩
            have A_7 := A_6.keep hb7
            have B_7 := B_6.keep hb7
            have X_7 := X_6.keep hb7
            have hbw7 := bStep hbw6 hb7
            clear A_6 B_6 X_6 hbw6 hb7
            go_wp2_with fail
            refine (specLoopSet_k HX.out A_7 B_7).mono ?_
            rintro e w8 ⟨os, rfl, S_8, hb8⟩
            have A_8 := A_7.keep hb8
            have B_8 := B_7.keep hb8
            have X_8 := X_7.keep hb8
            have hbw8 := bStep hbw7 hb8
            clear A_7 B_7 X_7 hbw7 hb8
            go_wp2_with fail
            refine (lwItems_eq (selfI _) X_8 S_8).mono ?_
            rintro e w9 ⟨rfl, hb9⟩
            have A_9 := A_8.keep hb9
            have B_9 := B_8.keep hb9
            have X_9 := X_8.keep hb9
            have S_9 := S_8.keep hb9
            have hbw9 := bStep hbw8 hb9
            clear A_8 B_8 X_8 S_8 hbw8 hb9
            go_wp2_with fail
            go_ret
            exact ⟨rfl, hbw9⟩
          · cases k4 : plusB l2
            · go_wp2_with fail
              refine (specSetOk_eq k1 A_4).mono ?_
              rintro e w5 ⟨rfl, hb5⟩
              have A_5 := A_4.keep hb5
              have B_5 := B_4.keep hb5
              have X_5 := X_4.keep hb5
              have hbw5 := bStep hbw4 hb5
              clear A_4 B_4 X_4 hbw4 hb5
              go_wp2_with fail
              refine (specSetOk_eq k2 B_5).mono ?_
              rintro e w6 ⟨rfl, hb6⟩
              have A_6 := A_5.keep hb6
              have B_6 := B_5.keep hb6
              have X_6 := X_5.keep hb6
              have hbw6 := bStep hbw5 hb6
              clear A_5 B_5 X_5 hbw5 hb6
              go_wp2_with fail
              refine (lwPlus_eq k3 A_6).mono ?_
              rintro e w7 ⟨rfl, hb7⟩
              have A_7 := A_6.keep hb7
              have B_7 := B_6.keep hb7
              have X_7 := X_6.keep hb7
              have hbw7 := bStep hbw6 hb7
              clear A_6 B_6 X_6 hbw6 hb7
              go_wp2_with fail
              refine (lwPlus_eq k4 B_7).mono ?_
              rintro e w8 ⟨rfl, hb8⟩
              have A_8 := A_7.keep hb8
              have B_8 := B_7.keep hb8
              have X_8 := X_7.keep hb8
              have hbw8 := bStep hbw7 hb8
              clear A_7 B_7 X_7 hbw7 hb8
              go_wp2_with fail
              refine (specLoopSet_k HX.out A_8 B_8).mono ?_
              rintro e w9 ⟨os, rfl, S_9, hb9⟩
              have A_9 := A_8.keep hb9
              have B_9 := B_8.keep hb9
              have X_9 := X_8.keep hb9
              have hbw9 := bStep hbw8 hb9
              clear A_8 B_8 X_8 hbw8 hb9
              go_wp2_with fail
              refine (lwItems_eq (selfI _) X_9 S_9).mono ?_
              rintro e w10 ⟨rfl, hb10⟩
              have A_10 := A_9.keep hb10
              have B_10 := B_9.keep hb10
              have X_10 := X_9.keep hb10
              have S_10 := S_9.keep hb10
              have hbw10 := bStep hbw9 hb10
              clear A_9 B_9 X_9 S_9 hbw9 hb10
              go_wp2_with fail
              go_ret
              exact ⟨rfl, hbw10⟩
            · obtain ⟨Y, hL_Y⟩ : ∃ zz, setL l1 l2 (n + 1) = zz := ⟨_, rfl⟩
              have HY : Hid (setL l1 l2 (n + 1) = Y) := hL_Y
              clear hL_Y
              have HSM : Hid ((∀ r ∈ X, r ∈ Y) ∧ stepL l1 l2 X = Y ∧ absum X ≤ 600) := by have h := HX.out; have h2 := HY.out; subst h h2; exact set_more k1 k2 k3 k4 q1 q2 (by omega) (by omega)
              have qb1 : absum l1 ≤ 562949953421312 := by omega
              have qb2 : absum l2 ≤ 562949953421312 := by omega
              have iw : IntKind.i64.wrap (n + 1) = n + 1 := by rw [IntKind.wrap_i64]; omega
              go_wp2_with fail
              refine (specSetOk_eq k1 A_4).mono ?_
              rintro e w5 ⟨rfl, hb5⟩
              have A_5 := A_4.keep hb5
              have B_5 := B_4.keep hb5
              have X_5 := X_4.keep hb5
              have hbw5 := bStep hbw4 hb5
              clear A_4 B_4 X_4 hbw4 hb5
              go_wp2_with fail
              refine (specSetOk_eq k2 B_5).mono ?_
              rintro e w6 ⟨rfl, hb6⟩
              have A_6 := A_5.keep hb6
              have B_6 := B_5.keep hb6
              have X_6 := X_5.keep hb6
              have hbw6 := bStep hbw5 hb6
              clear A_5 B_5 X_5 hbw5 hb6
              go_wp2_with fail
              refine (lwPlus_eq k3 A_6).mono ?_
              rintro e w7 ⟨rfl, hb7⟩
              have A_7 := A_6.keep hb7
              have B_7 := B_6.keep hb7
              have X_7 := X_6.keep hb7
              have hbw7 := bStep hbw6 hb7
              clear A_6 B_6 X_6 hbw6 hb7
              go_wp2_with fail
              refine (lwPlus_eq k4 B_7).mono ?_
              rintro e w8 ⟨rfl, hb8⟩
              have A_8 := A_7.keep hb8
              have B_8 := B_7.keep hb8
              have X_8 := X_7.keep hb8
              have hbw8 := bStep hbw7 hb8
              clear A_7 B_7 X_7 hbw7 hb8
              go_wp2_with fail
              refine (implLoopSet_k HY.out A_8 B_8).mono ?_
              rintro e w9 ⟨oy, rfl, Y_9, hb9⟩
              have A_9 := A_8.keep hb9
              have B_9 := B_8.keep hb9
              have X_9 := X_8.keep hb9
              have hbw9 := bStep hbw8 hb9
              clear A_8 B_8 X_8 hbw8 hb9
              have HYY : Hid (∀ W, Below w9.heap.size w9 W → Is W oy Y) := fun W hW => SlK.keep Y_9 hW
              obtain ⟨ax, cx, rfl, hcx, hmx, hnx, hcells⟩ := Is.open X_9
              unfold maxLen at hmx
              have HC := (show Hid _ from hcells)
              clear hcells
              go_wp2_with fail
              go_loopw [8] (fun i wr => ∃ k : Nat, k ≤ X.length ∧ i = .int .i64 k ∧ Below w9.heap.size w9 wr) (fun i _ => X.length - (intOf i).toNat)
              case atStart => exact ⟨0, by omega, rfl, Below.refl _ _⟩
              obtain ⟨k, hkl, rfl, hb⟩ := hrel
              by_cases hlt : k < X.length
              · obtain ⟨g, off, K, V, D, rfl, hg, hr, c0, c1, c2⟩ := HC.out k hlt
                have ik : ((k : Int) < (X.length : Int)) := by omega
                have HIN := (show Hid _ from HSM.out.1 _ (List.mem_of_getElem? hr))
                have hbD : Below w9.heap.size w9 wr.drew := hb.drew
                have HX3 : Hid (∀ W, Below w9.heap.size w9 W → W.cell? ⟨g, off + k * 3, none⟩ = some (.int .i64 K) ∧ W.cell? ⟨g, off + k * 3 + 1, none⟩ = some (.int .i64 V) ∧ W.cell? ⟨g, off + k * 3 + 2, none⟩ = some (.int .i64 D)) := fun W hW => ⟨cell_below hW c0, cell_below hW c1, cell_below hW c2⟩
                obtain ⟨d0, d1, d2⟩ := HX3.out _ hb
                clear c0 c1 c2 hr
                go_wp2_with fail
                refine (lwHas_in _ Y K V D _ (HYY.out _ hb) HIN.out).mono ?_
                rintro e wq ⟨rfl, hbq⟩
                have hb2 := bStep hb hbq
                go_wp2_with fail
                go_roundw
                case rel => exact ⟨k + 1, by omega, by go_num, hb2⟩
                case measure => simp [intOf]; omega
              obtain rfl : k = X.length := by omega
              have A_10 := A_9.keep hb
              have B_10 := B_9.keep hb
              have X_10 := X_9.keep hb
              have Y_10 := Y_9.keep hb
              have hbw10 := bStep hbw9 hb
              clear A_9 B_9 X_9 Y_9 hbw9 hb
              go_wp2_with fail
              refine (implLoopStep_k HSM.out.2.1 qb1 qb2 HSM.out.2.2 A_10 B_10 X_10).mono ?_
              rintro e w11 ⟨oz, rfl, Z_11, hb11⟩
              have A_11 := A_10.keep hb11
              have B_11 := B_10.keep hb11
              have X_11 := X_10.keep hb11
              have Y_11 := Y_10.keep hb11
              have hbw11 := bStep hbw10 hb11
              clear A_10 B_10 X_10 Y_10 hbw10 hb11
              go_wp2_with fail
              refine (lwItems_eq (selfI _) Z_11 Y_11).mono ?_
              rintro e w12 ⟨rfl, hb12⟩
              have A_12 := A_11.keep hb12
              have B_12 := B_11.keep hb12
              have X_12 := X_11.keep hb12
              have Y_12 := Y_11.keep hb12
              have Z_12 := Z_11.keep hb12
              have hbw12 := bStep hbw11 hb12
              clear A_11 B_11 X_11 Y_11 Z_11 hbw11 hb12
              go_wp2_with fail
              go_ret
              exact ⟨rfl, hbw12⟩
        · have hn6' : (6 : Int) ≤ n := by omega
          go_wp2_with fail
          refine (specSetOk_eq k1 A_4).mono ?_
          rintro e w5 ⟨rfl, hb5⟩
          have A_5 := A_4.keep hb5
          have B_5 := B_4.keep hb5
          have X_5 := X_4.keep hb5
          have hbw5 := bStep hbw4 hb5
          clear A_4 B_4 X_4 hbw4 hb5
          go_wp2_with fail
          refine (specSetOk_eq k2 B_5).mono ?_
          rintro e w6 ⟨rfl, hb6⟩
          have A_6 := A_5.keep hb6
          have B_6 := B_5.keep hb6
          have X_6 := X_5.keep hb6
          have hbw6 := bStep hbw5 hb6
          clear A_5 B_5 X_5 hbw5 hb6
          go_wp2_with fail
          refine (specLoopSet_k HX.out A_6 B_6).mono ?_
          rintro e w7 ⟨os, rfl, S_7, hb7⟩
          have A_7 := A_6.keep hb7
          have B_7 := B_6.keep hb7
          have X_7 := X_6.keep hb7
          have hbw7 := bStep hbw6 hb7
          clear A_6 B_6 X_6 hbw6 hb7
          go_wp2_with fail
          refine (lwItems_eq (selfI _) X_7 S_7).mono ?_
          rintro e w8 ⟨rfl, hb8⟩
          have A_8 := A_7.keep hb8
          have B_8 := B_7.keep hb8
          have X_8 := X_7.keep hb8
          have S_8 := S_7.keep hb8
          have hbw8 := bStep hbw7 hb8
          clear A_7 B_7 X_7 S_7 hbw7 hb8
          go_wp2_with fail
          go_ret
          exact ⟨rfl, hbw8⟩
end FnLoopSet
namespace RowFnLoopSet
theorem own : ownKnob Try.prog.godebug = none := by kernel_rfl
set_option maxRecDepth 100000 in
theorem lifted (os : Os) (started : os.Started) (H : Type) (enc : TypeId × Value → H) :
    ReturnsInHanded {} Try.checked os 4 .any (Rows.fnLoopSetSpec.pre6 enc Try.prog Try.f4 Rows.fnLoopSetRow.domain false) (Rows.fnLoopSetSpec.post enc Try.prog Try.f4 false true false false) := by
  refine returnsInHanded_of_change (C := Try.checked) own started (by kernel_rfl) Try.func4
    (ChangeSpec.witness6 (enc := enc) (C := Try.checked) false ⟨#[], #[.slice none 0 0], []⟩ 8 (by kernel_rfl) (by kernel_rfl) (by kernel_rfl) (by kernel_rfl)) ?_
  intro W base args ds gs before hval0 hW hcnd _
  have hval : ∀ (j : Nat) t v, Try.f4.params[j]? = some t → args[j]? = some v → Value.okWide Try.prog W .any base t v := hval0
  have hW' := hW
  obtain ⟨p, q, hA0, hV, rfl, hfz, hnd⟩ := hW
  have hA : DataW.TrodAll enc Try.prog W 0 (fun _ => true) true Try.f4.params.toList args.toList ds p := hA0
  rw [Try.params4] at hA hval
  obtain ⟨v0, vs0, d0, ds0, p0, q0, hargs, rfl, rfl, h0, r0⟩ := trodAll_cons hA
  obtain ⟨rfl, rfl, rfl⟩ := trodAll_nil r0
  obtain rfl : args = #[v0] := by cases args; simp_all
  obtain ⟨rfl, rfl⟩ := trodVars_none hV
  obtain ⟨a0, len0, cap0, rfl⟩ := okWide_slice Try.underlying22 (hval 0 22 v0 rfl rfl)
  have k0 := h0
  have lt0 : ∀ x ∈ p0, x.block < W.heap.size := by obtain ⟨m, hm⟩ := k0; exact DataW.trod_lt m _ _ _ hm
  have w0 : Src W (.slice a0 len0 cap0) len0 := by
    obtain ⟨fuel, hf⟩ := h0
    rcases open_ints Try.underlying22 Try.underlying5 (by kernel_rfl) hf with ⟨hcs, _⟩ | ⟨x, l, c, zs, hcs, _, hl, hm, hz, _, hcell, hwz⟩
    · simp [Value.cells] at hcs
      obtain ⟨rfl, rfl, rfl⟩ := hcs
      exact Src.nil _
    · simp [Value.cells] at hcs
      obtain ⟨rfl, rfl, rfl⟩ := hcs
      exact Src.of_row hl hm (by simpa using hz) hcell hwz
  clear hA0 hval0
  refine (FnLoopSet.walk a0 len0 cap0 W w0).mono fun e W' ⟨he, bel⟩ => ?_
  subst he
  exact ⟨_, rfl, _, _, _, [], _, [], hW', trodAll_mk1 (shut_bool Try.underlying4 _), (trodAll_cons_mk (Below.trod pfLaid (by kernel_rfl) (of_decide_eq_true (by kernel_rfl)) k0 bel lt0) trodAll_mk0), rfl, bel.frame _, fun h => by cases h⟩
set_option maxHeartbeats 4000000 in
theorem closed : joinedFacts Try.prog 4 Try.f4 Rows.fnLoopSetSpec Rows.fnLoopSetRow = true := by
  unfold joinedFacts
  exact (andB (andB (andB (andB (andB (andB (andB (andB (andB (andB (andB (andB (andB (andB (andB (andB (andB (andB (andB (andB (andB (andB (andB (andB (andB (andB (andB (andB (andB (andB (andB (by as_aux_lemma => kernel_rfl) pfLaid) pfRowed) (by as_aux_lemma => kernel_rfl)) (by as_aux_lemma => kernel_rfl)) (by as_aux_lemma => kernel_rfl)) (by as_aux_lemma => kernel_rfl)) (by as_aux_lemma => kernel_rfl)) (by as_aux_lemma => kernel_rfl)) (by as_aux_lemma => kernel_rfl)) (by as_aux_lemma => kernel_rfl)) (by as_aux_lemma => kernel_rfl)) (by as_aux_lemma => kernel_rfl)) (by as_aux_lemma => kernel_rfl)) (by as_aux_lemma => kernel_rfl)) (by as_aux_lemma => kernel_rfl)) (by as_aux_lemma => kernel_rfl)) (by as_aux_lemma => kernel_rfl)) (by as_aux_lemma => kernel_rfl)) (by as_aux_lemma => kernel_rfl)) (by as_aux_lemma => kernel_rfl)) (by as_aux_lemma => kernel_rfl)) (by as_aux_lemma => kernel_rfl)) (by as_aux_lemma => kernel_rfl)) pfHeard) pfEnter) (pfLiftB rfl)) (pfMakeB rfl)) (by as_aux_lemma => kernel_rfl)) (by as_aux_lemma => kernel_rfl)) (by as_aux_lemma => kernel_rfl)) (by as_aux_lemma => kernel_rfl))
theorem over : Rows.fnLoopSetRow.holds Try.pinned (OpenSpec.ofChange Rows.fnLoopSetSpec) :=
  OpenClaim.holds_of_wide 4 Try.f4 rfl rfl rfl rfl rfl rfl rfl ⟨rfl, rfl, rfl, rfl, rfl⟩ rfl rfl rfl rfl rfl (by kernel_rfl) Try.func4 closed
    (of_decide_eq_true (by kernel_rfl)) (by unfold Func.isWrapper; first | (rw [if_pos (by decide +kernel)]; kernel_rfl) | (rw [if_neg (by decide +kernel)]; exact ⟨rfl, rfl⟩))
    (fun os started H enc _ => lifted os started H enc)
end RowFnLoopSet
theorem fnLoopSet_holds : Rows.FnLoopSetSaid := RowFnLoopSet.over
end Go.Proofs.Ytjlaeeccnbdghaa
