/- For all bytes: SpineJoin of the program answers of the spine and the place that they draw as the model's; a layer that is made of two has no more rows than these, and the spine is ok; the argument reads afterwards as before. No condition. -/
import Derived.Test.YtjkojbafifbdgaaPf
import Derived.Test.YtjkojbafifbdgaaGx2
namespace Go.Proofs.Ytjkojbafifbdgaa
open Go.ChangeShapes Go.WideShapes Go.ChangeAt Go.RowKit Go.Joins

theorem gl_join {L : List (List Rw)} {F : List (Int × Int)} {j : Nat} (h : j + 2 ≤ L.length) : gl (joinO L F j) j = oneL F (gl L j) (gl L (j + 1)) := by
  unfold joinO
  unfold gl
  rw [List.append_assoc, List.getD_eq_getElem?_getD, List.getElem?_append_right (by rw [List.length_take]; omega), List.length_take, show j - min j L.length = 0 by omega]
  rfl
theorem less_join {L : List (List Rw)} {F : List (Int × Int)} {i : Int} (h : joinB L F i = true) : (∃ j : Nat, i = j ∧ j + 2 ≤ L.length) ∧ ∀ j : Nat, i = j → spokB (joinL L F i) (joinF L F i) = true ∧ j < (joinL L F i).length ∧ (gl (joinL L F i) j).length ≤ (gl L j).length + (gl L (j + 1)).length ∧ (gl L j).length ≤ 1000 ∧ (gl L (j + 1)).length ≤ 1000 := by
  have ho := (join_ok h).1
  have e1 : joinL L F i = joinO L F i.toNat := by simp [joinL, h]
  simp only [joinB, Bool.and_eq_true, decide_eq_true_eq] at h
  obtain ⟨⟨hk, h0, h1⟩, -⟩ := h
  refine ⟨⟨i.toNat, by omega, by omega⟩, fun j hj => ⟨ho, ?_, ?_, spok_few hk _ (gl_mem (by omega)), spok_few hk _ (gl_mem (by omega))⟩⟩
  · rw [e1, join_len F (by omega)]; omega
  · rw [e1, show i.toNat = j by omega, gl_join (by omega)]; exact oneL_len _ _ _
namespace FnSpineLess
set_option maxRecDepth 100000 in
set_option maxHeartbeats 8000000 in
theorem walk (x0 : Option Addr) (len0 cap0 : Nat) (w : World) (h0 : Src w (.slice x0 len0 cap0) len0) :
    Calls Try.prog 6 #[.slice x0 len0 cap0] w fun e w' => e = .returned (.bool true) ∧ Below w.heap.size w w' := by
  by_cases g0 : (1048576 : Int) < (len0 : Int)
  · go_enter Try.func6, Try.ntmps6
    go_wp2_with fail
    go_ret
    exact ⟨rfl, Below.refl _ _⟩
  go_enter Try.func6, Try.ntmps6
  go_wp2_with fail
  refine (drawSpineJoin_any _ _ _ _ h0).mono ?_
  rintro e w1 ⟨lv, fv, L, F, i, rfl, hd, hi0, hi8, S_1, hb1⟩
  have hbw1 := hb1
  clear h0 hb1
  obtain ⟨aS, cS, bS, dS, eS1, eS2⟩ := Spn.open S_1
  subst eS1 eS2
  have hbx2 : Below w1.heap.size w1 (w1.alloc (.cells #[.slice aS (L).length cS, .slice bS (F).length dS] 54)) := bAlloc (Below.refl _ _) _
  have BS_2 : Bk (w1.alloc (.cells #[.slice aS (L).length cS, .slice bS (F).length dS] 54)) w1.heap.size #[.slice aS (L).length cS, .slice bS (F).length dS] 54 := Bk.new _ _ rfl
  have S_2 := S_1.keep hbx2
  have hbw2 := bStep hbw1 hbx2
  clear S_1 hbw1 hbx2
  cases hk : joinB L F i
  · obtain ⟨M, hL_M⟩ : ∃ zz, joinL L F i = zz := ⟨_, rfl⟩
    have HM : Hid (joinL L F i = M) := hL_M
    clear hL_M
    obtain ⟨G, hL_G⟩ : ∃ zz, joinF L F i = zz := ⟨_, rfl⟩
    have HG : Hid (joinF L F i = G) := hL_G
    clear hL_G
    obtain ⟨yy0_2, yz0_2, _, _⟩ := BS_2.two
    go_wp2_with fail
    clear yy0_2 yz0_2
    refine (specJoinS_k hk HM.out HG.out S_2).mono ?_
    rintro e w3 ⟨lw, fw, rfl, W_3, hb3⟩
    have S_3 := S_2.keep hb3
    have BS_3 := BS_2.keep hb3
    have hbw3 := bStep hbw2 hb3
    clear S_2 BS_2 hbw2 hb3
    obtain ⟨aW, cW, bW, dW, eW1, eW2⟩ := Spn.open W_3
    subst eW1 eW2
    have hbx4 : Below w3.heap.size w3 (w3.alloc (.cells #[.slice aW (M).length cW, .slice bW (G).length dW] 54)) := bAlloc (Below.refl _ _) _
    have BW_4 : Bk (w3.alloc (.cells #[.slice aW (M).length cW, .slice bW (G).length dW] 54)) w3.heap.size #[.slice aW (M).length cW, .slice bW (G).length dW] 54 := Bk.new _ _ rfl
    have S_4 := S_3.keep hbx4
    have BS_4 := BS_3.keep hbx4
    have W_4 := W_3.keep hbx4
    have hbw4 := bStep hbw3 hbx4
    clear S_3 BS_3 W_3 hbw3 hbx4
    obtain ⟨yy0_4, yz0_4, _, _⟩ := BS_4.two
    obtain ⟨yy1_4, yz1_4, _, _⟩ := BW_4.two
    go_wp2_with fail
    clear yy0_4 yz0_4 yy1_4 yz1_4
    refine (implJoinS_k hk HM.out HG.out S_4).mono ?_
    rintro e w5 ⟨lx, fx, rfl, X_5, hb5⟩
    have S_5 := S_4.keep hb5
    have BS_5 := BS_4.keep hb5
    have W_5 := W_4.keep hb5
    have BW_5 := BW_4.keep hb5
    have hbw5 := bStep hbw4 hb5
    clear S_4 BS_4 W_4 BW_4 hbw4 hb5
    obtain ⟨aX, cX, bX, dX, eX1, eX2⟩ := Spn.open X_5
    subst eX1 eX2
    have hbx6 : Below w5.heap.size w5 (w5.alloc (.cells #[.slice aX (M).length cX, .slice bX (G).length dX] 54)) := bAlloc (Below.refl _ _) _
    have BX_6 : Bk (w5.alloc (.cells #[.slice aX (M).length cX, .slice bX (G).length dX] 54)) w5.heap.size #[.slice aX (M).length cX, .slice bX (G).length dX] 54 := Bk.new _ _ rfl
    have S_6 := S_5.keep hbx6
    have BS_6 := BS_5.keep hbx6
    have W_6 := W_5.keep hbx6
    have BW_6 := BW_5.keep hbx6
    have X_6 := X_5.keep hbx6
    have hbw6 := bStep hbw5 hbx6
    clear S_5 BS_5 W_5 BW_5 X_5 hbw5 hbx6
    obtain ⟨yy0_6, yz0_6, _, _⟩ := BS_6.two
    obtain ⟨yy1_6, yz1_6, _, _⟩ := BW_6.two
    obtain ⟨yy2_6, yz2_6, _, _⟩ := BX_6.two
    go_wp2_with fail
    clear yy0_6 yz0_6 yy1_6 yz1_6 yy2_6 yz2_6
    refine (lwSpine_same _ _ _ _ _ _ _ X_6 W_6).mono ?_
    rintro e w7 ⟨rfl, hb7⟩
    have S_7 := S_6.keep hb7
    have BS_7 := BS_6.keep hb7
    have W_7 := W_6.keep hb7
    have BW_7 := BW_6.keep hb7
    have X_7 := X_6.keep hb7
    have BX_7 := BX_6.keep hb7
    have hbw7 := bStep hbw6 hb7
    clear S_6 BS_6 W_6 BW_6 X_6 BX_6 hbw6 hb7
    obtain ⟨yy0_7, yz0_7, _, _⟩ := BS_7.two
    obtain ⟨yy1_7, yz1_7, _, _⟩ := BW_7.two
    obtain ⟨yy2_7, yz2_7, _, _⟩ := BX_7.two
    go_wp2_with fail
    clear yy0_7 yz0_7 yy1_7 yz1_7 yy2_7 yz2_7
    refine (lwSpine_same _ _ _ _ _ _ _ X_7 W_7).mono ?_
    rintro e w8 ⟨rfl, hb8⟩
    have S_8 := S_7.keep hb8
    have BS_8 := BS_7.keep hb8
    have W_8 := W_7.keep hb8
    have BW_8 := BW_7.keep hb8
    have X_8 := X_7.keep hb8
    have BX_8 := BX_7.keep hb8
    have hbw8 := bStep hbw7 hb8
    clear S_7 BS_7 W_7 BW_7 X_7 BX_7 hbw7 hb8
    obtain ⟨yy0_8, yz0_8, _, _⟩ := BS_8.two
    obtain ⟨yy1_8, yz1_8, _, _⟩ := BW_8.two
    obtain ⟨yy2_8, yz2_8, _, _⟩ := BX_8.two
    go_wp2_with fail
    clear yy0_8 yz0_8 yy1_8 yz1_8 yy2_8 yz2_8
    go_ret
    exact ⟨rfl, hbw8⟩
  · have HY := (show Hid _ from less_join hk)
    obtain ⟨j, hij, hj2⟩ : ∃ j : Nat, i = j ∧ j + 2 ≤ L.length := (HY.out).1
    subst hij
    obtain ⟨M, hL_M⟩ : ∃ zz, joinL L F j = zz := ⟨_, rfl⟩
    have HM : Hid (joinL L F j = M) := hL_M
    clear hL_M
    obtain ⟨G, hL_G⟩ : ∃ zz, joinF L F j = zz := ⟨_, rfl⟩
    have HG : Hid (joinF L F j = G) := hL_G
    clear hL_G
    obtain ⟨yy0_2, yz0_2, _, _⟩ := BS_2.two
    go_wp2_with fail
    clear yy0_2 yz0_2
    refine (specJoinS_k hk HM.out HG.out S_2).mono ?_
    rintro e w3 ⟨lw, fw, rfl, W_3, hb3⟩
    have S_3 := S_2.keep hb3
    have BS_3 := BS_2.keep hb3
    have hbw3 := bStep hbw2 hb3
    clear S_2 BS_2 hbw2 hb3
    obtain ⟨aW, cW, bW, dW, eW1, eW2⟩ := Spn.open W_3
    subst eW1 eW2
    have hbx4 : Below w3.heap.size w3 (w3.alloc (.cells #[.slice aW (M).length cW, .slice bW (G).length dW] 54)) := bAlloc (Below.refl _ _) _
    have BW_4 : Bk (w3.alloc (.cells #[.slice aW (M).length cW, .slice bW (G).length dW] 54)) w3.heap.size #[.slice aW (M).length cW, .slice bW (G).length dW] 54 := Bk.new _ _ rfl
    have S_4 := S_3.keep hbx4
    have BS_4 := BS_3.keep hbx4
    have W_4 := W_3.keep hbx4
    have hbw4 := bStep hbw3 hbx4
    clear S_3 BS_3 W_3 hbw3 hbx4
    obtain ⟨yy0_4, yz0_4, _, _⟩ := BS_4.two
    obtain ⟨yy1_4, yz1_4, _, _⟩ := BW_4.two
    go_wp2_with fail
    clear yy0_4 yz0_4 yy1_4 yz1_4
    refine (implJoinS_k hk HM.out HG.out S_4).mono ?_
    rintro e w5 ⟨lx, fx, rfl, X_5, hb5⟩
    have S_5 := S_4.keep hb5
    have BS_5 := BS_4.keep hb5
    have W_5 := W_4.keep hb5
    have BW_5 := BW_4.keep hb5
    have hbw5 := bStep hbw4 hb5
    clear S_4 BS_4 W_4 BW_4 hbw4 hb5
    obtain ⟨aX, cX, bX, dX, eX1, eX2⟩ := Spn.open X_5
    subst eX1 eX2
    have hbx6 : Below w5.heap.size w5 (w5.alloc (.cells #[.slice aX (M).length cX, .slice bX (G).length dX] 54)) := bAlloc (Below.refl _ _) _
    have BX_6 : Bk (w5.alloc (.cells #[.slice aX (M).length cX, .slice bX (G).length dX] 54)) w5.heap.size #[.slice aX (M).length cX, .slice bX (G).length dX] 54 := Bk.new _ _ rfl
    have S_6 := S_5.keep hbx6
    have BS_6 := BS_5.keep hbx6
    have W_6 := W_5.keep hbx6
    have BW_6 := BW_5.keep hbx6
    have X_6 := X_5.keep hbx6
    have hbw6 := bStep hbw5 hbx6
    clear S_5 BS_5 W_5 BW_5 X_5 hbw5 hbx6
    obtain ⟨yy0_6, yz0_6, _, _⟩ := BS_6.two
    obtain ⟨yy1_6, yz1_6, _, _⟩ := BW_6.two
    obtain ⟨yy2_6, yz2_6, _, _⟩ := BX_6.two
    go_wp2_with fail
    clear yy0_6 yz0_6 yy1_6 yz1_6 yy2_6 yz2_6
    refine (lwSpine_same _ _ _ _ _ _ _ X_6 W_6).mono ?_
    rintro e w7 ⟨rfl, hb7⟩
    have S_7 := S_6.keep hb7
    have BS_7 := BS_6.keep hb7
    have W_7 := W_6.keep hb7
    have BW_7 := BW_6.keep hb7
    have X_7 := X_6.keep hb7
    have BX_7 := BX_6.keep hb7
    have hbw7 := bStep hbw6 hb7
    clear S_6 BS_6 W_6 BW_6 X_6 BX_6 hbw6 hb7
    have HZ : Hid (spokB M G = true ∧ j < M.length ∧ (gl M j).length ≤ (gl L j).length + (gl L (j + 1)).length ∧ (gl L j).length ≤ 1000 ∧ (gl L (j + 1)).length ≤ 1000) := by have h := HY.out.2 j rfl; rw [HM.out, HG.out] at h; exact h
    obtain ⟨hsp, hjM, hle, hb1, hb2⟩ := HZ.out
    obtain ⟨a1', c1', eX, hcX, hmX, hnX, hcellX⟩ := Ly.open X_7.1
    obtain ⟨eX1, -, eX2⟩ := Value.slice.inj eX
    obtain ⟨a2', c2', eS, hcS, hmS, hnS, hcellS⟩ := Ly.open S_7.1
    obtain ⟨eS1, -, eS2⟩ := Value.slice.inj eS
    unfold maxLen at hmX hmS
    clear eX eS
    subst eX1 eX2 eS1 eS2
    obtain ⟨g1, o1, ad1, cp1, e1', hg1, x1, -⟩ := hcellX j hjM
    obtain ⟨g2, o2, ad2, cp2, e2', hg2, x2, -⟩ := hcellS j (by omega)
    obtain ⟨g3, o3, ad3, cp3, e3', hg3, x3, -⟩ := hcellS (j + 1) (by omega)
    rw [e2'] at e3'
    cases e3'
    clear hcellX hcellS
    subst e1' e2'
    
    have ij1 : (j : Int) < (M.length : Int) := by omega
    have ij2 : (j : Int) < (L.length : Int) := by omega
    have ij3 : (j : Int) + 1 < (L.length : Int) := by omega
    have HBX := (show Hid _ from BX_7)
    have HBS := (show Hid _ from BS_7)
    have HR : Hid (∀ V, Below w7.heap.size w7 V → Spn V _ _ M G) := fun V hV => X_7.keep hV
    have HX : Hid (∀ V, Below w7.heap.size w7 V → V.cell? ⟨w5.heap.size, 0, none⟩ = some (.slice (some ⟨g1, o1, none⟩) (M).length cX) ∧ V.cell? ⟨w5.heap.size, 1, none⟩ = some (.slice bX (G).length dX) ∧ V.cell? ⟨w1.heap.size, 0, none⟩ = some (.slice (some ⟨g2, o2, none⟩) (L).length cS) ∧ V.cell? ⟨g1, o1 + j, none⟩ = some (.slice ad1 (gl M j).length cp1) ∧ V.cell? ⟨g2, o2 + j, none⟩ = some (.slice ad2 (gl L j).length cp2) ∧ V.cell? ⟨g2, o2 + (j + 1), none⟩ = some (.slice ad3 (gl L (j + 1)).length cp3)) :=
      fun V hV => ⟨(Bk.keep HBX.out hV).two.1, (Bk.keep HBX.out hV).two.2.1, (Bk.keep HBS.out hV).two.1, cell_below hV x1, cell_below hV x2, cell_below hV x3⟩
    have hbD : Below w7.heap.size w7 w7.drew := (Below.refl _ _).drew
    generalize hn1 : (gl M j).length = n1 at *
    generalize hn2 : (gl L j).length = n2 at *
    generalize hn3 : (gl L (j + 1)).length = n3 at *
    clear hn1 hn2 hn3
    have hw1 : IntKind.i64.wrap ((n2 : Int) + (n3 : Int)) = (n2 : Int) + (n3 : Int) := by rw [IntKind.wrap_i64]; omega
    have hw2 : IntKind.i64.wrap ((j : Int) + 1) = (j : Int) + 1 := by rw [IntKind.wrap_i64]; omega
    have ij4 : (0 : Int) ≤ (j : Int) + 1 := by omega
    have hjt : ((j : Int) + 1).toNat = j + 1 := by omega
    have hle' : (n1 : Int) ≤ (n2 : Int) + (n3 : Int) := by omega
    obtain ⟨_, x4, _, _⟩ := BX_7.two
    go_wp2_with fail
    go_region_held3 (fun V => V.cell? ⟨w5.heap.size, 0, none⟩ = some (.slice (some ⟨g1, o1, none⟩) (M).length cX) ∧ V.cell? ⟨w5.heap.size, 1, none⟩ = some (.slice bX (G).length dX) ∧ V.cell? ⟨w1.heap.size, 0, none⟩ = some (.slice (some ⟨g2, o2, none⟩) (L).length cS) ∧ V.cell? ⟨g1, o1 + j, none⟩ = some (.slice ad1 n1 cp1) ∧ V.cell? ⟨g2, o2 + j, none⟩ = some (.slice ad2 n2 cp2) ∧ V.cell? ⟨g2, o2 + (j + 1), none⟩ = some (.slice ad3 n3 cp3))
      (first | exact HX.out _ hbD | exact HX.out _ hbna)
      (first
        | (go_at_call 39; with_reducible refine (implSpineOk_eq hsp (HR.out _ hbD)).mono ?_; rintro e wa ⟨rfl, hba⟩; have hbna := bStep hbD hba))
    all_goals
      go_wp2_with fail
      go_ret
      exact ⟨rfl, bStep hbw7 hbna⟩
end FnSpineLess
namespace RowFnSpineLess
theorem own : ownKnob Try.prog.godebug = none := by kernel_rfl
set_option maxRecDepth 100000 in
theorem lifted (os : Os) (started : os.Started) (H : Type) (enc : TypeId × Value → H) :
    ReturnsInHanded {} Try.checked os 6 .any (Rows.fnSpineLessSpec.pre6 enc Try.prog Try.f6 Rows.fnSpineLessRow.domain false) (Rows.fnSpineLessSpec.post enc Try.prog Try.f6 false true false false) := by
  refine returnsInHanded_of_change (C := Try.checked) own started (by kernel_rfl) Try.func6
    (ChangeSpec.witness6 (enc := enc) (C := Try.checked) false ⟨#[], #[.slice none 0 0], []⟩ 8 (by kernel_rfl) (by kernel_rfl) (by kernel_rfl) (by kernel_rfl)) ?_
  intro W base args ds gs before hval0 hW hcnd _
  have hval : ∀ (j : Nat) t v, Try.f6.params[j]? = some t → args[j]? = some v → Value.okWide Try.prog W .any base t v := hval0
  have hW' := hW
  obtain ⟨p, q, hA0, hV, rfl, hfz, hnd⟩ := hW
  have hA : DataW.TrodAll enc Try.prog W 0 (fun _ => true) true Try.f6.params.toList args.toList ds p := hA0
  rw [Try.params6] at hA hval
  obtain ⟨v0, vs0, d0, ds0, p0, q0, hargs, rfl, rfl, h0, r0⟩ := trodAll_cons hA
  obtain ⟨rfl, rfl, rfl⟩ := trodAll_nil r0
  obtain rfl : args = #[v0] := by cases args; simp_all
  obtain ⟨rfl, rfl⟩ := trodVars_none hV
  obtain ⟨a0, len0, cap0, rfl⟩ := okWide_slice Try.underlying22 (hval 0 22 v0 rfl rfl)
  have k0 := h0
  have lt0 : ∀ x ∈ p0, x.block < W.heap.size := by obtain ⟨m, hm⟩ := k0; exact DataW.trod_lt m _ _ _ hm
  have w0 : Src W (.slice a0 len0 cap0) len0 := by
    obtain ⟨fuel, hf⟩ := h0
    rcases open_ints Try.underlying22 Try.underlying5 (by kernel_rfl) hf with ⟨hcs, _⟩ | ⟨x, l, c, zs, hcs, _, hl, hm, hz, _, hcell, hwz⟩
    · simp [Value.cells] at hcs
      obtain ⟨rfl, rfl, rfl⟩ := hcs
      exact Src.nil _
    · simp [Value.cells] at hcs
      obtain ⟨rfl, rfl, rfl⟩ := hcs
      exact Src.of_row hl hm (by simpa using hz) hcell hwz
  clear hA0 hval0
  refine (FnSpineLess.walk a0 len0 cap0 W w0).mono fun e W' ⟨he, bel⟩ => ?_
  subst he
  exact ⟨_, rfl, _, _, _, [], _, [], hW', trodAll_mk1 (shut_bool Try.underlying4 _), (trodAll_cons_mk (Below.trod pfLaid (by kernel_rfl) (of_decide_eq_true (by kernel_rfl)) k0 bel lt0) trodAll_mk0), rfl, bel.frame _, fun h => by cases h⟩
set_option maxHeartbeats 4000000 in
theorem closed : joinedFacts Try.prog 6 Try.f6 Rows.fnSpineLessSpec Rows.fnSpineLessRow = true := by
  unfold joinedFacts
  exact (andB (andB (andB (andB (andB (andB (andB (andB (andB (andB (andB (andB (andB (andB (andB (andB (andB (andB (andB (andB (andB (andB (andB (andB (andB (andB (andB (andB (andB (andB (andB (by as_aux_lemma => kernel_rfl) pfLaid) pfRowed) (by as_aux_lemma => kernel_rfl)) (by as_aux_lemma => kernel_rfl)) (by as_aux_lemma => kernel_rfl)) (by as_aux_lemma => kernel_rfl)) (by as_aux_lemma => kernel_rfl)) (by as_aux_lemma => kernel_rfl)) (by as_aux_lemma => kernel_rfl)) (by as_aux_lemma => kernel_rfl)) (by as_aux_lemma => kernel_rfl)) (by as_aux_lemma => kernel_rfl)) (by as_aux_lemma => kernel_rfl)) (by as_aux_lemma => kernel_rfl)) (by as_aux_lemma => kernel_rfl)) (by as_aux_lemma => kernel_rfl)) (by as_aux_lemma => kernel_rfl)) (by as_aux_lemma => kernel_rfl)) (by as_aux_lemma => kernel_rfl)) (by as_aux_lemma => kernel_rfl)) (by as_aux_lemma => kernel_rfl)) (by as_aux_lemma => kernel_rfl)) (by as_aux_lemma => kernel_rfl)) pfHeard) pfEnter) (pfLiftB rfl)) (pfMakeB rfl)) (by as_aux_lemma => kernel_rfl)) (by as_aux_lemma => kernel_rfl)) (by as_aux_lemma => kernel_rfl)) (by as_aux_lemma => kernel_rfl))
theorem over : Rows.fnSpineLessRow.holds Try.pinned (OpenSpec.ofChange Rows.fnSpineLessSpec) :=
  OpenClaim.holds_of_wide 6 Try.f6 rfl rfl rfl rfl rfl rfl rfl ⟨rfl, rfl, rfl, rfl, rfl⟩ rfl rfl rfl rfl rfl (by kernel_rfl) Try.func6 closed
    (of_decide_eq_true (by kernel_rfl)) (by unfold Func.isWrapper; first | (rw [if_pos (by decide +kernel)]; kernel_rfl) | (rw [if_neg (by decide +kernel)]; exact ⟨rfl, rfl⟩))
    (fun os started H enc _ => lifted os started H enc)
end RowFnSpineLess
theorem fnSpineLess_holds : Rows.FnSpineLessSaid := RowFnSpineLess.over
end Go.Proofs.Ytjkojbafifbdgaa
