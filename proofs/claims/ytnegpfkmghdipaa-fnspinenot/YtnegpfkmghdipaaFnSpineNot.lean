/- For all bytes: SpineAt of the program answers of the spine and the time that they draw as the model's; it tells just what may be asked, and nothing else; the argument reads afterwards as before. No condition. -/
import Derived.Test.YtnegpfkmghdipaaPf
import Derived.Test.YtnegpfkmghdipaaZxa
import Derived.Test.YtnegpfkmghdipaaZx6
namespace Go.Proofs.Ytnegpfkmghdipaa
open Go.ChangeShapes Go.WideShapes Go.ChangeAt Go.RowKit Go.Joins

theorem specTimeOk_z {x y : Int} {r : Bool} (e : okB x y = r) (w : World) : Calls Try.prog 23 #[tv x y] w fun e w' => e = .returned (.bool r) ∧ Below w.heap.size w w' := by
  rw [← e]; exact specOk_any x y w
namespace FnSpineNot
set_option maxRecDepth 100000 in
set_option maxHeartbeats 8000000 in
theorem walk (x0 : Option Addr) (len0 cap0 : Nat) (w : World) (h0 : Src w (.slice x0 len0 cap0) len0) :
    Calls Try.prog 5 #[.slice x0 len0 cap0] w fun e w' => e = .returned (.bool true) ∧ Below w.heap.size w w' := by
  by_cases g0 : (1048576 : Int) < (len0 : Int)
  · go_enter Try.func5, Try.ntmps5
    go_wp2_with fail
    go_ret
    exact ⟨rfl, Below.refl _ _⟩
  go_enter Try.func5, Try.ntmps5
  go_wp2_with fail
  refine (drawSpineAt_any _ _ _ _ h0).mono ?_
  rintro e w1 ⟨lv, fv, L, F, x, y, rfl, hd, S_1, hb1⟩
  have hbw1 := hb1
  clear h0 hb1
  obtain ⟨aS, cS, bS, dS, eS1, eS2⟩ := Spn.open S_1
  subst eS1 eS2
  have hbx2 : Below w1.heap.size w1 ((w1.alloc (.cells #[.slice aS (L).length cS, .slice bS (F).length dS] 26)).alloc (.cells #[.int .i64 x, .int .i64 y] 37)) := bAlloc (bAlloc (Below.refl _ _) _) _
  have BS_2 : Bk ((w1.alloc (.cells #[.slice aS (L).length cS, .slice bS (F).length dS] 26)).alloc (.cells #[.int .i64 x, .int .i64 y] 37)) w1.heap.size #[.slice aS (L).length cS, .slice bS (F).length dS] 26 := (Bk.new _ _ rfl).alloc _
  have BT_2 : Bk ((w1.alloc (.cells #[.slice aS (L).length cS, .slice bS (F).length dS] 26)).alloc (.cells #[.int .i64 x, .int .i64 y] 37)) (w1.heap.size + 1) #[.int .i64 x, .int .i64 y] 37 := Bk.new (w := w1.alloc _) _ _ (by simp)
  have S_2 := S_1.keep hbx2
  have hbw2 := bStep hbw1 hbx2
  clear S_1 hbw1 hbx2
  obtain ⟨rr, hrr⟩ : ∃ z, satB L F x y = z := ⟨_, rfl⟩
  obtain ⟨I, hL_I⟩ : ∃ zz, satL L F x y = zz := ⟨_, rfl⟩
  have HI : Hid (satL L F x y = I) := hL_I
  clear hL_I
  have HN : Hid (rr = false → I = []) := by have h := HI.out; subst h; subst hrr; intro h; simp [satL, h]
  have HRR : Hid (satB L F x y = rr) := hrr
  clear hrr
  obtain ⟨yy0_2, yz0_2, _, _⟩ := BS_2.two
  obtain ⟨yy1_2, yz1_2, _, _⟩ := BT_2.two
  go_wp2_with fail
  clear yy0_2 yz0_2 yy1_2 yz1_2
  refine (specSpineAt_k HRR.out HI.out S_2).mono ?_
  rintro e w3 ⟨o1, rfl, P_3, hb3⟩
  have S_3 := S_2.keep hb3
  have BS_3 := BS_2.keep hb3
  have BT_3 := BT_2.keep hb3
  have hbw3 := bStep hbw2 hb3
  clear S_2 BS_2 BT_2 hbw2 hb3
  obtain ⟨yy0_3, yz0_3, _, _⟩ := BS_3.two
  obtain ⟨yy1_3, yz1_3, _, _⟩ := BT_3.two
  go_wp2_with fail
  clear yy0_3 yz0_3 yy1_3 yz1_3
  refine (implSpineAt_k HRR.out HI.out S_3).mono ?_
  rintro e w4 ⟨o2, rfl, Q_4, hb4⟩
  have S_4 := S_3.keep hb4
  have BS_4 := BS_3.keep hb4
  have BT_4 := BT_3.keep hb4
  have P_4 := P_3.keep hb4
  have hbw4 := bStep hbw3 hb4
  clear S_3 BS_3 BT_3 P_3 hbw3 hb4
  obtain ⟨yy0_4, yz0_4, _, _⟩ := BS_4.two
  obtain ⟨yy1_4, yz1_4, _, _⟩ := BT_4.two
  go_wp2_with fail
  clear yy0_4 yz0_4 yy1_4 yz1_4
  refine (lwItems_eq (selfI _) Q_4 P_4).mono ?_
  rintro e w5 ⟨rfl, hb5⟩
  have S_5 := S_4.keep hb5
  have BS_5 := BS_4.keep hb5
  have BT_5 := BT_4.keep hb5
  have Q_5 := Q_4.keep hb5
  have hbw5 := bStep hbw4 hb5
  clear S_4 BS_4 BT_4 P_4 Q_4 hbw4 hb5
  cases hk : spokB L F
  · obtain ⟨yy0_5, yz0_5, _, _⟩ := BS_5.two
    obtain ⟨yy1_5, yz1_5, _, _⟩ := BT_5.two
    go_wp2_with fail
    clear yy0_5 yz0_5 yy1_5 yz1_5
    refine (specSpineOk_eq hk S_5).mono ?_
    rintro e w6 ⟨rfl, hb6⟩
    have S_6 := S_5.keep hb6
    have BS_6 := BS_5.keep hb6
    have BT_6 := BT_5.keep hb6
    have Q_6 := Q_5.keep hb6
    have hbw6 := bStep hbw5 hb6
    clear S_5 BS_5 BT_5 Q_5 hbw5 hb6
    obtain rfl : rr = false := by have h := HRR.out; rw [← h]; simp [satB, *]
    have hIn : I = [] := HN.out rfl
    subst hIn
    obtain ⟨aq, cq, hoq, -⟩ := id Q_6
    have hoq' : o2 = .slice aq 0 cq := hoq
    subst hoq'
    clear hoq
    obtain ⟨yy0_6, yz0_6, _, _⟩ := BS_6.two
    obtain ⟨yy1_6, yz1_6, _, _⟩ := BT_6.two
    go_wp2_with fail
    clear yy0_6 yz0_6 yy1_6 yz1_6
    go_ret
    exact ⟨rfl, hbw6⟩
  · cases hok : okB x y
    · obtain ⟨yy0_5, yz0_5, _, _⟩ := BS_5.two
      obtain ⟨yy1_5, yz1_5, _, _⟩ := BT_5.two
      go_wp2_with fail
      clear yy0_5 yz0_5 yy1_5 yz1_5
      refine (specSpineOk_eq hk S_5).mono ?_
      rintro e w6 ⟨rfl, hb6⟩
      have S_6 := S_5.keep hb6
      have BS_6 := BS_5.keep hb6
      have BT_6 := BT_5.keep hb6
      have Q_6 := Q_5.keep hb6
      have hbw6 := bStep hbw5 hb6
      clear S_5 BS_5 BT_5 Q_5 hbw5 hb6
      obtain ⟨yy0_6, yz0_6, _, _⟩ := BS_6.two
      obtain ⟨yy1_6, yz1_6, _, _⟩ := BT_6.two
      go_wp2_with fail
      clear yy0_6 yz0_6 yy1_6 yz1_6
      refine (specTimeOk_z hok _).mono ?_
      rintro e w7 ⟨rfl, hb7⟩
      have S_7 := S_6.keep hb7
      have BS_7 := BS_6.keep hb7
      have BT_7 := BT_6.keep hb7
      have Q_7 := Q_6.keep hb7
      have hbw7 := bStep hbw6 hb7
      clear S_6 BS_6 BT_6 Q_6 hbw6 hb7
      obtain rfl : rr = false := by have h := HRR.out; rw [← h]; simp [satB, *]
      have hIn : I = [] := HN.out rfl
      subst hIn
      obtain ⟨aq, cq, hoq, -⟩ := id Q_7
      have hoq' : o2 = .slice aq 0 cq := hoq
      subst hoq'
      clear hoq
      obtain ⟨yy0_7, yz0_7, _, _⟩ := BS_7.two
      obtain ⟨yy1_7, yz1_7, _, _⟩ := BT_7.two
      go_wp2_with fail
      clear yy0_7 yz0_7 yy1_7 yz1_7
      go_ret
      exact ⟨rfl, hbw7⟩
    · obtain ⟨yy0_5, yz0_5, _, _⟩ := BS_5.two
      obtain ⟨yy1_5, yz1_5, _, _⟩ := BT_5.two
      go_wp2_with fail
      clear yy0_5 yz0_5 yy1_5 yz1_5
      refine (specSpineOk_eq hk S_5).mono ?_
      rintro e w6 ⟨rfl, hb6⟩
      have S_6 := S_5.keep hb6
      have BS_6 := BS_5.keep hb6
      have BT_6 := BT_5.keep hb6
      have Q_6 := Q_5.keep hb6
      have hbw6 := bStep hbw5 hb6
      clear S_5 BS_5 BT_5 Q_5 hbw5 hb6
      obtain ⟨yy0_6, yz0_6, _, _⟩ := BS_6.two
      obtain ⟨yy1_6, yz1_6, _, _⟩ := BT_6.two
      go_wp2_with fail
      clear yy0_6 yz0_6 yy1_6 yz1_6
      refine (specTimeOk_z hok _).mono ?_
      rintro e w7 ⟨rfl, hb7⟩
      have S_7 := S_6.keep hb7
      have BS_7 := BS_6.keep hb7
      have BT_7 := BT_6.keep hb7
      have Q_7 := Q_6.keep hb7
      have hbw7 := bStep hbw6 hb7
      clear S_6 BS_6 BT_6 Q_6 hbw6 hb7
      by_cases hF0 : F.length = 0
      · have hak : askedB F x y = true := asked_nil hF0
        have hF1 : ((F.length : Int) == 0) = true := by simp [hF0]
        have hF2 : (F.length == 0) = true := by simp [hF0]
        clear hF0
        obtain rfl : rr = true := by have h := HRR.out; rw [← h]; simp [satB, hk, hok, hak]
        obtain ⟨yy0_7, yz0_7, _, _⟩ := BS_7.two
        obtain ⟨yy1_7, yz1_7, _, _⟩ := BT_7.two
        go_wp2_with fail
        clear yy0_7 yz0_7 yy1_7 yz1_7
        go_ret
        exact ⟨rfl, hbw7⟩
      · have hF1 : ((F.length : Int) == 0) = false := by simpa using hF0
        have hF2 : (F.length == 0) = false := by simpa using hF0
        have HAK := (show Hid _ from asked_cov (F := F) (x := x) (y := y) hF0)
        cases hak : (fokB F && anyB F x y)
        · obtain ⟨yy0_7, yz0_7, _, _⟩ := BS_7.two
          obtain ⟨yy1_7, yz1_7, _, _⟩ := BT_7.two
          go_wp2_with fail
          clear yy0_7 yz0_7 yy1_7 yz1_7
          refine (implCovers_eq hak S_7.2).mono ?_
          rintro e w8 ⟨rfl, hb8⟩
          have S_8 := S_7.keep hb8
          have BS_8 := BS_7.keep hb8
          have BT_8 := BT_7.keep hb8
          have Q_8 := Q_7.keep hb8
          have hbw8 := bStep hbw7 hb8
          clear S_7 BS_7 BT_7 Q_7 hbw7 hb8
          have hak' : askedB F x y = false := HAK.out.trans hak
          obtain rfl : rr = false := by have h := HRR.out; rw [← h]; simp [satB, *]
          have hIn : I = [] := HN.out rfl
          subst hIn
          obtain ⟨aq, cq, hoq, -⟩ := id Q_8
          have hoq' : o2 = .slice aq 0 cq := hoq
          subst hoq'
          clear hoq
          obtain ⟨yy0_8, yz0_8, _, _⟩ := BS_8.two
          obtain ⟨yy1_8, yz1_8, _, _⟩ := BT_8.two
          go_wp2_with fail
          clear yy0_8 yz0_8 yy1_8 yz1_8
          go_ret
          exact ⟨rfl, hbw8⟩
        · have hak0 := hak
          clear hak
          obtain ⟨yy0_7, yz0_7, _, _⟩ := BS_7.two
          obtain ⟨yy1_7, yz1_7, _, _⟩ := BT_7.two
          go_wp2_with fail
          clear yy0_7 yz0_7 yy1_7 yz1_7
          refine (implCovers_eq hak0 S_7.2).mono ?_
          rintro e w8 ⟨rfl, hb8⟩
          have S_8 := S_7.keep hb8
          have BS_8 := BS_7.keep hb8
          have BT_8 := BT_7.keep hb8
          have Q_8 := Q_7.keep hb8
          have hbw8 := bStep hbw7 hb8
          clear S_7 BS_7 BT_7 Q_7 hbw7 hb8
          have hak : askedB F x y = true := HAK.out.trans hak0
          obtain rfl : rr = true := by have h := HRR.out; rw [← h]; simp [satB, hk, hok, hak]
          obtain ⟨yy0_8, yz0_8, _, _⟩ := BS_8.two
          obtain ⟨yy1_8, yz1_8, _, _⟩ := BT_8.two
          go_wp2_with fail
          clear yy0_8 yz0_8 yy1_8 yz1_8
          go_ret
          exact ⟨rfl, hbw8⟩
end FnSpineNot
namespace RowFnSpineNot
theorem own : ownKnob Try.prog.godebug = none := by kernel_rfl
set_option maxRecDepth 100000 in
theorem lifted (os : Os) (started : os.Started) (H : Type) (enc : TypeId × Value → H) :
    ReturnsInHanded {} Try.checked os 5 .any (Rows.fnSpineNotSpec.pre6 enc Try.prog Try.f5 Rows.fnSpineNotRow.domain false) (Rows.fnSpineNotSpec.post enc Try.prog Try.f5 false true false false) := by
  refine returnsInHanded_of_change (C := Try.checked) own started (by kernel_rfl) Try.func5
    (ChangeSpec.witness6 (enc := enc) (C := Try.checked) false ⟨#[], #[.slice none 0 0], []⟩ 8 (by kernel_rfl) (by kernel_rfl) (by kernel_rfl) (by kernel_rfl)) ?_
  intro W base args ds gs before hval0 hW hcnd _
  have hval : ∀ (j : Nat) t v, Try.f5.params[j]? = some t → args[j]? = some v → Value.okWide Try.prog W .any base t v := hval0
  have hW' := hW
  obtain ⟨p, q, hA0, hV, rfl, hfz, hnd⟩ := hW
  have hA : DataW.TrodAll enc Try.prog W 0 (fun _ => true) true Try.f5.params.toList args.toList ds p := hA0
  rw [Try.params5] at hA hval
  obtain ⟨v0, vs0, d0, ds0, p0, q0, hargs, rfl, rfl, h0, r0⟩ := trodAll_cons hA
  obtain ⟨rfl, rfl, rfl⟩ := trodAll_nil r0
  obtain rfl : args = #[v0] := by cases args; simp_all
  obtain ⟨rfl, rfl⟩ := trodVars_none hV
  obtain ⟨a0, len0, cap0, rfl⟩ := okWide_slice Try.underlying22 (hval 0 22 v0 rfl rfl)
  have k0 := h0
  have lt0 : ∀ x ∈ p0, x.block < W.heap.size := by obtain ⟨m, hm⟩ := k0; exact DataW.trod_lt m _ _ _ hm
  have w0 : Src W (.slice a0 len0 cap0) len0 := by
    obtain ⟨fuel, hf⟩ := h0
    rcases open_ints Try.underlying22 Try.underlying5 (by kernel_rfl) hf with ⟨hcs, _⟩ | ⟨x, l, c, zs, hcs, _, hl, hm, hz, _, hcell, hwz⟩
    · simp [Value.cells] at hcs
      obtain ⟨rfl, rfl, rfl⟩ := hcs
      exact Src.nil _
    · simp [Value.cells] at hcs
      obtain ⟨rfl, rfl, rfl⟩ := hcs
      exact Src.of_row hl hm (by simpa using hz) hcell hwz
  clear hA0 hval0
  refine (FnSpineNot.walk a0 len0 cap0 W w0).mono fun e W' ⟨he, bel⟩ => ?_
  subst he
  exact ⟨_, rfl, _, _, _, [], _, [], hW', trodAll_mk1 (shut_bool Try.underlying4 _), (trodAll_cons_mk (Below.trod pfLaid (by kernel_rfl) (of_decide_eq_true (by kernel_rfl)) k0 bel lt0) trodAll_mk0), rfl, bel.frame _, fun h => by cases h⟩
set_option maxHeartbeats 4000000 in
theorem closed : joinedFacts Try.prog 5 Try.f5 Rows.fnSpineNotSpec Rows.fnSpineNotRow = true := by
  unfold joinedFacts
  exact (andB (andB (andB (andB (andB (andB (andB (andB (andB (andB (andB (andB (andB (andB (andB (andB (andB (andB (andB (andB (andB (andB (andB (andB (andB (andB (andB (andB (andB (andB (andB (by as_aux_lemma => kernel_rfl) pfLaid) pfRowed) (by as_aux_lemma => kernel_rfl)) (by as_aux_lemma => kernel_rfl)) (by as_aux_lemma => kernel_rfl)) (by as_aux_lemma => kernel_rfl)) (by as_aux_lemma => kernel_rfl)) (by as_aux_lemma => kernel_rfl)) (by as_aux_lemma => kernel_rfl)) (by as_aux_lemma => kernel_rfl)) (by as_aux_lemma => kernel_rfl)) (by as_aux_lemma => kernel_rfl)) (by as_aux_lemma => kernel_rfl)) (by as_aux_lemma => kernel_rfl)) (by as_aux_lemma => kernel_rfl)) (by as_aux_lemma => kernel_rfl)) (by as_aux_lemma => kernel_rfl)) (by as_aux_lemma => kernel_rfl)) (by as_aux_lemma => kernel_rfl)) (by as_aux_lemma => kernel_rfl)) (by as_aux_lemma => kernel_rfl)) (by as_aux_lemma => kernel_rfl)) (by as_aux_lemma => kernel_rfl)) pfHeard) pfEnter) (pfLiftB rfl)) (pfMakeB rfl)) (by as_aux_lemma => kernel_rfl)) (by as_aux_lemma => kernel_rfl)) (by as_aux_lemma => kernel_rfl)) (by as_aux_lemma => kernel_rfl))
theorem over : Rows.fnSpineNotRow.holds Try.pinned (OpenSpec.ofChange Rows.fnSpineNotSpec) :=
  OpenClaim.holds_of_wide 5 Try.f5 rfl rfl rfl rfl rfl rfl rfl ⟨rfl, rfl, rfl, rfl, rfl⟩ rfl rfl rfl rfl rfl (by kernel_rfl) Try.func5 closed
    (of_decide_eq_true (by kernel_rfl)) (by unfold Func.isWrapper; first | (rw [if_pos (by decide +kernel)]; kernel_rfl) | (rw [if_neg (by decide +kernel)]; exact ⟨rfl, rfl⟩))
    (fun os started H enc _ => lifted os started H enc)
end RowFnSpineNot
theorem fnSpineNot_holds : Rows.FnSpineNotSaid := RowFnSpineNot.over
end Go.Proofs.Ytnegpfkmghdipaa
