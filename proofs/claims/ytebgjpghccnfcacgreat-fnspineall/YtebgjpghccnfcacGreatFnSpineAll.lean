/- For all bytes: SpineAll of the program answers of the spine that they draw as the model's; the batch says at all times that may be asked what the spine says; the argument reads afterwards as before. No condition. -/
import Derived.Test.YtebgjpghccnfcacGreatPf
import Derived.Test.YtebgjpghccnfcacGreatGx2
namespace Go.Proofs.YtebgjpghccnfcacGreat
open Go.ChangeShapes Go.WideShapes Go.ChangeAt Go.RowKit Go.Joins

theorem implAll_k {L : List (List Rw)} {F : List (Int × Int)} {B : List Rw} (e : sallL L F = B) {lv fv : Value} {w : World} (h : Spn w lv fv L F) : Calls Tryz.prog 22 #[spv lv fv] w fun e w' => ∃ o : Value, e = .returned o ∧ Rs w' o B ∧ Below w.heap.size w w' :=
  ofOwnR e (by have := sall_len L F; omega) (implSpineAll_any lv fv L F w h)
theorem specAll_k {L : List (List Rw)} {F : List (Int × Int)} {B : List Rw} (e : sallL L F = B) {lv fv : Value} {w : World} (h : Spn w lv fv L F) : Calls Tryz.prog 24 #[spv lv fv] w fun e w' => ∃ o : Value, e = .returned o ∧ Rs w' o B ∧ Below w.heap.size w w' :=
  ofOwnR e (by have := sall_len L F; omega) (specSpineAll_any lv fv L F w h)
theorem sall_bok (L : List (List Rw)) (F : List (Int × Int)) : bokB (sallL L F) = true := by
  unfold sallL; split
  · exact sumF_bok _
  · exact bok_nil
theorem sall_items {L : List (List Rw)} {F : List (Int × Int)} (h : spokB L F = true) (ha : absum L.flatten ≤ 99999) {X Y : Int} (hs : satB L F X Y = true) : itemsL (sallL L F) X Y = satL L F X Y := by
  unfold satL sallL
  rw [if_pos hs, if_pos h]
  have hr := spok_rok h
  have e : sumF L.flatten = batchL L.flatten := by unfold batchL; rw [if_pos hr]
  rw [e]
  exact items_batch hr ha X Y
namespace FnSpineAll
set_option maxRecDepth 100000 in
set_option maxHeartbeats 8000000 in
theorem walk (x0 : Option Addr) (len0 cap0 : Nat) (w : World) (h0 : Src w (.slice x0 len0 cap0) len0) :
    Calls Tryz.prog 5 #[.slice x0 len0 cap0] w fun e w' => e = .returned (.bool true) ∧ Below w.heap.size w w' := by
  by_cases g0 : (1048576 : Int) < (len0 : Int)
  · go_enter Tryz.func5, Tryz.ntmps5
    go_wp2_with fail
    go_ret
    exact ⟨rfl, Below.refl _ _⟩
  go_enter Tryz.func5, Tryz.ntmps5
  go_wp2_with fail
  refine (drawSpineAll_any _ _ _ _ h0).mono ?_
  rintro e w1 ⟨lv, fv, L, F, rfl, hd, S_1, hb1⟩
  have hbw1 := hb1
  clear h0 hb1
  obtain ⟨aS, cS, bS, dS, eS1, eS2⟩ := Spn.open S_1
  subst eS1 eS2
  have hbx2 : Below w1.heap.size w1 (w1.alloc (.cells #[.slice aS (L).length cS, .slice bS (F).length dS] 26)) := bAlloc (Below.refl _ _) _
  have BS_2 : Bk (w1.alloc (.cells #[.slice aS (L).length cS, .slice bS (F).length dS] 26)) w1.heap.size #[.slice aS (L).length cS, .slice bS (F).length dS] 26 := Bk.new _ _ rfl
  have S_2 := S_1.keep hbx2
  have hbw2 := bStep hbw1 hbx2
  clear S_1 hbw1 hbx2
  obtain ⟨B, hL_B⟩ : ∃ zz, sallL L F = zz := ⟨_, rfl⟩
  have HB : Hid (sallL L F = B) := hL_B
  clear hL_B
  obtain ⟨yy0_2, yz0_2, _, _⟩ := BS_2.two
  go_wp2_with fail
  clear yy0_2 yz0_2
  refine (implAll_k HB.out S_2).mono ?_
  rintro e w3 ⟨o, rfl, B_3, hb3⟩
  have S_3 := S_2.keep hb3
  have BS_3 := BS_2.keep hb3
  have hbw3 := bStep hbw2 hb3
  clear S_2 BS_2 hbw2 hb3
  obtain ⟨yy0_3, yz0_3, _, _⟩ := BS_3.two
  go_wp2_with fail
  clear yy0_3 yz0_3
  refine (specAll_k HB.out S_3).mono ?_
  rintro e w4 ⟨o2, rfl, C_4, hb4⟩
  have S_4 := S_3.keep hb4
  have BS_4 := BS_3.keep hb4
  have B_4 := B_3.keep hb4
  have hbw4 := bStep hbw3 hb4
  clear S_3 BS_3 B_3 hbw3 hb4
  obtain ⟨yy0_4, yz0_4, _, _⟩ := BS_4.two
  go_wp2_with fail
  clear yy0_4 yz0_4
  refine (lwRows_eq (selfR _) B_4 C_4).mono ?_
  rintro e w5 ⟨rfl, hb5⟩
  have S_5 := S_4.keep hb5
  have BS_5 := BS_4.keep hb5
  have B_5 := B_4.keep hb5
  have hbw5 := bStep hbw4 hb5
  clear S_4 BS_4 B_4 C_4 hbw4 hb5
  cases hk : spokB L F
  · obtain ⟨yy0_5, yz0_5, _, _⟩ := BS_5.two
    go_wp2_with fail
    clear yy0_5 yz0_5
    refine (specSpineOk_eq hk S_5).mono ?_
    rintro e w6 ⟨rfl, hb6⟩
    have S_6 := S_5.keep hb6
    have BS_6 := BS_5.keep hb6
    have B_6 := B_5.keep hb6
    have hbw6 := bStep hbw5 hb6
    clear S_5 BS_5 B_5 hbw5 hb6
    obtain ⟨yy0_6, yz0_6, _, _⟩ := BS_6.two
    go_wp2_with fail
    clear yy0_6 yz0_6
    refine (specAll_k HB.out S_6).mono ?_
    rintro e w7 ⟨o2, rfl, C_7, hb7⟩
    have S_7 := S_6.keep hb7
    have BS_7 := BS_6.keep hb7
    have B_7 := B_6.keep hb7
    have hbw7 := bStep hbw6 hb7
    clear S_6 BS_6 B_6 hbw6 hb7
    obtain ⟨yy0_7, yz0_7, _, _⟩ := BS_7.two
    go_wp2_with fail
    clear yy0_7 yz0_7
    refine (lwRows_eq (selfR _) B_7 C_7).mono ?_
    rintro e w8 ⟨rfl, hb8⟩
    have S_8 := S_7.keep hb8
    have BS_8 := BS_7.keep hb8
    have B_8 := B_7.keep hb8
    have hbw8 := bStep hbw7 hb8
    clear S_7 BS_7 B_7 C_7 hbw7 hb8
    obtain ⟨yy0_8, yz0_8, _, _⟩ := BS_8.two
    go_wp2_with fail
    clear yy0_8 yz0_8
    go_ret
    exact ⟨rfl, hbw8⟩
  · have HO : Hid (bokB B = true) := by have h := HB.out; subst h; exact sall_bok L F
    have HI : Hid (∀ X Y : Int, satB L F X Y = true → itemsL B X Y = satL L F X Y) := by have h := HB.out; subst h; exact fun X Y hs => sall_items hk (by have := hd.2.2; omega) hs
    obtain ⟨yy0_5, yz0_5, _, _⟩ := BS_5.two
    go_wp2_with fail
    clear yy0_5 yz0_5
    refine (specSpineOk_eq hk S_5).mono ?_
    rintro e w6 ⟨rfl, hb6⟩
    have S_6 := S_5.keep hb6
    have BS_6 := BS_5.keep hb6
    have B_6 := B_5.keep hb6
    have hbw6 := bStep hbw5 hb6
    clear S_5 BS_5 B_5 hbw5 hb6
    obtain ⟨yy0_6, yz0_6, _, _⟩ := BS_6.two
    go_wp2_with fail
    clear yy0_6 yz0_6
    refine (lwAll_any _).mono ?_
    rintro e w7 ⟨ga, capa, rfl, howna, hga, hb7⟩
    have S_7 := S_6.keep hb7
    have BS_7 := BS_6.keep hb7
    have B_7 := B_6.keep hb7
    have hbw7 := bStep hbw6 hb7
    clear S_6 BS_6 B_6 hbw6 hb7
    have HT := (show Hid _ from howna)
    clear howna
    have HBS := (show Hid _ from BS_7)
    have HSS := (show Hid (Spn w7 _ _ L F) from S_7)
    have HTT := (show Hid (Rs w7 o B) from B_7)
    go_wp2_with fail
    go_loopw [6] (fun i wr => ∃ k : Nat, k ≤ 64 ∧ i = .int .i64 k ∧ Below w7.heap.size w7 wr) (fun i _ => 64 - (intOf i).toNat)
    case atStart => exact ⟨0, by omega, rfl, Below.refl _ _⟩
    obtain ⟨k, hk64, rfl, hb⟩ := hrel
    by_cases hlt : k < 64
    · obtain ⟨c0, c1⟩ := all_cells HT.out hlt
      have HX : Hid (∀ V, Below w7.heap.size w7 V → V.cell? ⟨ga, k * 2, none⟩ = some (.int .i64 ((k / 8 : Nat) : Int)) ∧ V.cell? ⟨ga, k * 2 + 1, none⟩ = some (.int .i64 ((k % 8 : Nat) : Int)) ∧ V.cell? ⟨w1.heap.size, 0, none⟩ = some (.slice aS (L).length cS) ∧ V.cell? ⟨w1.heap.size, 1, none⟩ = some (.slice bS (F).length dS)) :=
        fun V hV => ⟨cell_below hV c0, cell_below hV c1, (Bk.keep HBS.out hV).two.1, (Bk.keep HBS.out hV).two.2.1⟩
      clear c0 c1
      generalize hX : ((k / 8 : Nat) : Int) = X at *
      generalize hY : ((k % 8 : Nat) : Int) = Y at *
      clear hX hY
      have ik : (k : Int) < 64 := by omega
      have HR2 : Hid (∀ V, Below w7.heap.size w7 V → Spn V (.slice aS (L).length cS) (.slice bS (F).length dS) L F) := fun V hV => HSS.out.keep hV
      have HR3 : Hid (∀ V, Below w7.heap.size w7 V → Rs V o B) := fun V hV => HTT.out.keep hV
      have hbD := hb.drew
      go_wp2_with fail
      cases hm : satB L F X Y
      all_goals
        go_region_held3 (fun V => V.cell? ⟨ga, k * 2, none⟩ = some (.int .i64 X) ∧ V.cell? ⟨ga, k * 2 + 1, none⟩ = some (.int .i64 Y) ∧ V.cell? ⟨w1.heap.size, 0, none⟩ = some (.slice aS (L).length cS) ∧ V.cell? ⟨w1.heap.size, 1, none⟩ = some (.slice bS (F).length dS))
          (first | exact HX.out _ hbD | exact HX.out _ hbna)
          (first
            | (go_at_call 13; with_reducible refine (implSpineAt_k hm rfl (HR2.out _ hbD)).mono ?_; rintro e wa ⟨oa, rfl, isa, hba⟩; have hbna : Below w7.heap.size w7 wa := bStep hbD hba))
      · go_wp2_with fail
        go_roundw
        case rel => exact ⟨k + 1, by omega, by go_num, hbna⟩
        case measure => simp [intOf]; omega
      · obtain ⟨x0, x1, _, _⟩ := HX.out _ hbna
        have HIE := (show Hid _ from HI.out X Y hm)
        go_wp2_with fail
        refine (implAt_k HIE.out (HR3.out _ hbna)).mono ?_
        rintro e wc ⟨oc, rfl, isc, hbc⟩
        have hbnc := bStep hbna hbc
        have isa3 := SlK.keep isa hbc
        go_wp2_with fail
        refine (lwItems_eq (selfI _) isa3 isc).mono ?_
        rintro e we ⟨rfl, hbe⟩
        have hbne := bStep hbnc hbe
        go_wp2_with fail
        go_roundw
        case rel => exact ⟨k + 1, by omega, by go_num, hbne⟩
        case measure => simp [intOf]; omega
    obtain rfl : k = 64 := by omega
    have S_8 := S_7.keep hb
    have BS_8 := BS_7.keep hb
    have B_8 := B_7.keep hb
    have hbw8 := bStep hbw7 hb
    clear S_7 BS_7 B_7 hbw7 hb
    obtain ⟨yy0_8, yz0_8, _, _⟩ := BS_8.two
    go_wp2_with fail
    clear yy0_8 yz0_8
    refine (implBatchOk_eq HO.out B_8).mono ?_
    rintro e w9 ⟨rfl, hb9⟩
    have S_9 := S_8.keep hb9
    have BS_9 := BS_8.keep hb9
    have B_9 := B_8.keep hb9
    have hbw9 := bStep hbw8 hb9
    clear S_8 BS_8 B_8 hbw8 hb9
    obtain ⟨yy0_9, yz0_9, _, _⟩ := BS_9.two
    go_wp2_with fail
    clear yy0_9 yz0_9
    go_ret
    exact ⟨rfl, hbw9⟩
end FnSpineAll
namespace RowFnSpineAll
theorem own : ownKnob Tryz.prog.godebug = none := by kernel_rfl
set_option maxRecDepth 100000 in
theorem lifted (os : Os) (started : os.Started) (H : Type) (enc : TypeId × Value → H) :
    ReturnsInHanded {} Tryz.checked os 5 .any (Rows.fnSpineAllSpec.pre6 enc Tryz.prog Tryz.f5 Rows.fnSpineAllRow.domain false) (Rows.fnSpineAllSpec.post enc Tryz.prog Tryz.f5 false true false false) := by
  refine returnsInHanded_of_change (C := Tryz.checked) own started (by kernel_rfl) Tryz.func5
    (ChangeSpec.witness6 (enc := enc) (C := Tryz.checked) false ⟨#[], #[.slice none 0 0], []⟩ 8 (by kernel_rfl) (by kernel_rfl) (by kernel_rfl) (by kernel_rfl)) ?_
  intro W base args ds gs before hval0 hW hcnd _
  have hval : ∀ (j : Nat) t v, Tryz.f5.params[j]? = some t → args[j]? = some v → Value.okWide Tryz.prog W .any base t v := hval0
  have hW' := hW
  obtain ⟨p, q, hA0, hV, rfl, hfz, hnd⟩ := hW
  have hA : DataW.TrodAll enc Tryz.prog W 0 (fun _ => true) true Tryz.f5.params.toList args.toList ds p := hA0
  rw [Tryz.params5] at hA hval
  obtain ⟨v0, vs0, d0, ds0, p0, q0, hargs, rfl, rfl, h0, r0⟩ := trodAll_cons hA
  obtain ⟨rfl, rfl, rfl⟩ := trodAll_nil r0
  obtain rfl : args = #[v0] := by cases args; simp_all
  obtain ⟨rfl, rfl⟩ := trodVars_none hV
  obtain ⟨a0, len0, cap0, rfl⟩ := okWide_slice Tryz.underlying22 (hval 0 22 v0 rfl rfl)
  have k0 := h0
  have lt0 : ∀ x ∈ p0, x.block < W.heap.size := by obtain ⟨m, hm⟩ := k0; exact DataW.trod_lt m _ _ _ hm
  have w0 : Src W (.slice a0 len0 cap0) len0 := by
    obtain ⟨fuel, hf⟩ := h0
    rcases open_ints Tryz.underlying22 Tryz.underlying5 (by kernel_rfl) hf with ⟨hcs, _⟩ | ⟨x, l, c, zs, hcs, _, hl, hm, hz, _, hcell, hwz⟩
    · simp [Value.cells] at hcs
      obtain ⟨rfl, rfl, rfl⟩ := hcs
      exact Src.nil _
    · simp [Value.cells] at hcs
      obtain ⟨rfl, rfl, rfl⟩ := hcs
      exact Src.of_row hl hm (by simpa using hz) hcell hwz
  clear hA0 hval0
  refine (FnSpineAll.walk a0 len0 cap0 W w0).mono fun e W' ⟨he, bel⟩ => ?_
  subst he
  exact ⟨_, rfl, _, _, _, [], _, [], hW', trodAll_mk1 (shut_bool Tryz.underlying4 _), (trodAll_cons_mk (Below.trod pfLaid (by kernel_rfl) (of_decide_eq_true (by kernel_rfl)) k0 bel lt0) trodAll_mk0), rfl, bel.frame _, fun h => by cases h⟩
set_option maxHeartbeats 4000000 in
theorem closed : joinedFacts Tryz.prog 5 Tryz.f5 Rows.fnSpineAllSpec Rows.fnSpineAllRow = true := by
  unfold joinedFacts
  exact (andB (andB (andB (andB (andB (andB (andB (andB (andB (andB (andB (andB (andB (andB (andB (andB (andB (andB (andB (andB (andB (andB (andB (andB (andB (andB (andB (andB (andB (andB (andB (by as_aux_lemma => kernel_rfl) pfLaid) pfRowed) (by as_aux_lemma => kernel_rfl)) (by as_aux_lemma => kernel_rfl)) (by as_aux_lemma => kernel_rfl)) (by as_aux_lemma => kernel_rfl)) (by as_aux_lemma => kernel_rfl)) (by as_aux_lemma => kernel_rfl)) (by as_aux_lemma => kernel_rfl)) (by as_aux_lemma => kernel_rfl)) (by as_aux_lemma => kernel_rfl)) (by as_aux_lemma => kernel_rfl)) (by as_aux_lemma => kernel_rfl)) (by as_aux_lemma => kernel_rfl)) (by as_aux_lemma => kernel_rfl)) (by as_aux_lemma => kernel_rfl)) (by as_aux_lemma => kernel_rfl)) (by as_aux_lemma => kernel_rfl)) (by as_aux_lemma => kernel_rfl)) (by as_aux_lemma => kernel_rfl)) (by as_aux_lemma => kernel_rfl)) (by as_aux_lemma => kernel_rfl)) (by as_aux_lemma => kernel_rfl)) pfHeard) pfEnter) (pfLiftB rfl)) (pfMakeB rfl)) (by as_aux_lemma => kernel_rfl)) (by as_aux_lemma => kernel_rfl)) (by as_aux_lemma => kernel_rfl)) (by as_aux_lemma => kernel_rfl))
theorem over : Rows.fnSpineAllRow.holds Tryz.pinned (OpenSpec.ofChange Rows.fnSpineAllSpec) :=
  OpenClaim.holds_of_wide 5 Tryz.f5 rfl rfl rfl rfl rfl rfl rfl ⟨rfl, rfl, rfl, rfl, rfl⟩ rfl rfl rfl rfl rfl (by kernel_rfl) Tryz.func5 closed
    (of_decide_eq_true (by kernel_rfl)) (by unfold Func.isWrapper; first | (rw [if_pos (by decide +kernel)]; kernel_rfl) | (rw [if_neg (by decide +kernel)]; exact ⟨rfl, rfl⟩))
    (fun os started H enc _ => lifted os started H enc)
end RowFnSpineAll
theorem fnSpineAll_holds : Rows.FnSpineAllSaid := RowFnSpineAll.over
end Go.Proofs.YtebgjpghccnfcacGreat
