/- For all bytes: SetOnce of the program makes of the items that they draw what the model makes of them, of each whose Count is above 0 one and no more, and once more it stays; the argument reads afterwards as before. No condition. -/
import Derived.Test.YtbmdfmboabfceaaPf
import Derived.Test.YtbmdfmboabfceaaGk2
import Derived.Test.YtbmdfmboabfceaaGd5
namespace Go.Proofs.Ytbmdfmboabfceaa
open Go.ChangeShapes Go.WideShapes Go.ChangeAt Go.RowKit Go.Joins

namespace FnSetOnce
set_option maxRecDepth 100000 in
set_option maxHeartbeats 8000000 in
theorem walk (x0 : Option Addr) (len0 cap0 : Nat) (w : World) (h0 : Src w (.slice x0 len0 cap0) len0) :
    Calls Try.prog 23 #[.slice x0 len0 cap0] w fun e w' => e = .returned (.bool true) ∧ Below w.heap.size w w' := by
  by_cases g0 : (1048576 : Int) < (len0 : Int)
  · go_enter Try.func23, Try.ntmps23
    go_wp2_with fail
    go_ret
    exact ⟨rfl, Below.refl _ _⟩
  go_enter Try.func23, Try.ntmps23
  go_wp2_with fail
  refine (drawSetOnce_any _ _ _ _ h0).mono ?_
  rintro e w1 ⟨oa, s, rfl, hds, R_1, hb1⟩
  have hbw1 := hb1
  clear h0 hb1
  obtain ⟨L, hL_L⟩ : ∃ zz, onceS s = zz := ⟨_, rfl⟩
  have HL : Hid (onceS s = L) := hL_L
  clear hL_L
  go_wp2_with fail
  refine (implSetOnce_k HL.out R_1).mono ?_
  rintro e w2 ⟨ox, rfl, X_2, hb2⟩
  have R_2 := R_1.keep hb2
  have hbw2 := bStep hbw1 hb2
  clear R_1 hbw1 hb2
  go_wp2_with fail
  refine (specSetOnce_k HL.out R_2).mono ?_
  rintro e w3 ⟨oz, rfl, S_3, hb3⟩
  have R_3 := R_2.keep hb3
  have X_3 := X_2.keep hb3
  have hbw3 := bStep hbw2 hb3
  clear R_2 X_2 hbw2 hb3
  go_wp2_with fail
  refine (lwItems_eq (selfI _) X_3 S_3).mono ?_
  rintro e w4 ⟨rfl, hb4⟩
  have R_4 := R_3.keep hb4
  have X_4 := X_3.keep hb4
  have hbw4 := bStep hbw3 hb4
  clear R_3 X_3 S_3 hbw3 hb4
  cases hk : sokB s
  · go_wp2_with fail
    refine (specSetOk_eq hk R_4).mono ?_
    rintro e w5 ⟨rfl, hb5⟩
    have R_5 := R_4.keep hb5
    have X_5 := X_4.keep hb5
    have hbw5 := bStep hbw4 hb5
    clear R_4 X_4 hbw4 hb5
    go_wp2_with fail
    refine (specSetOnce_k HL.out R_5).mono ?_
    rintro e w6 ⟨oz, rfl, S_6, hb6⟩
    have R_6 := R_5.keep hb6
    have X_6 := X_5.keep hb6
    have hbw6 := bStep hbw5 hb6
    clear R_5 X_5 hbw5 hb6
    go_wp2_with fail
    refine (lwItems_eq (selfI _) X_6 S_6).mono ?_
    rintro e w7 ⟨rfl, hb7⟩
    have R_7 := R_6.keep hb7
    have X_7 := X_6.keep hb7
    have S_7 := S_6.keep hb7
    have hbw7 := bStep hbw6 hb7
    clear R_6 X_6 S_6 hbw6 hb7
    go_wp2_with fail
    go_ret
    exact ⟨rfl, hbw7⟩
  · have HT : Hid (onceS L = L) := by have := HL.out; subst this; exact once_twice hk
    have HE : Hid (onceT s = L) := by have := HL.out; rw [onceS_yes hk] at this; exact this
    have hl9 := hds.1
    have hLl : L.length ≤ 9 := by have := HE.out; subst this; have := once_len s; omega
    go_wp2_with fail
    refine (specSetOk_eq hk R_4).mono ?_
    rintro e w5 ⟨rfl, hb5⟩
    have R_5 := R_4.keep hb5
    have X_5 := X_4.keep hb5
    have hbw5 := bStep hbw4 hb5
    clear R_4 X_4 hbw4 hb5
    have HRS0 : Hid (Is w5 oa s) := R_5
    have HXS0 : Hid (Is w5 ox L) := X_5
    obtain ⟨aa, capa, rfl, hca, hma, hna, hcells⟩ := Is.open R_5
    obtain ⟨ax, capx, rfl, -, -, -, -⟩ := X_5
    have HXS : Hid (Is w5 (.slice ax L.length capx) L) := HXS0
    unfold maxLen at hma
    have HC := (show Hid _ from hcells)
    clear hcells HRS0 HXS0 R_5
    go_wp2_with fail
    go_loopw [5, 6] (fun c i wr => ∃ (k m : Nat), k ≤ s.length ∧ i = .int .i64 k ∧ c = .int .i64 m ∧ m = (onceT (s.take k)).length ∧ Below w5.heap.size w5 wr) (fun _ i _ => s.length - (intOf i).toNat)
    case atStart => exact ⟨0, 0, by omega, rfl, rfl, rfl, Below.refl _ _⟩
    obtain ⟨k, m, hks, rfl, rfl, hmk, hb⟩ := hrel
    have HMK : Hid (m = (onceT (s.take k)).length) := hmk
    have hm9 : m ≤ 9 := by have := once_len (s.take k); simp at this; omega
    clear hmk
    by_cases hlt : k < s.length
    · obtain ⟨g, off, K, V, D, rfl, hg, hr, c0, c1, c2⟩ := HC.out k hlt
      have HR := (show Hid _ from hr)
      have ik : ((k : Int) < (s.length : Int)) := by omega
      have d2 := cell_below hb c2
      have HX : Hid (∀ W, Below w5.heap.size w5 W → W.cell? ⟨g, off + k * 3, none⟩ = some (.int .i64 K) ∧ W.cell? ⟨g, off + k * 3 + 1, none⟩ = some (.int .i64 V)) := fun W hW => ⟨cell_below hW c0, cell_below hW c1⟩
      obtain ⟨d0, d1⟩ := HX.out _ hb
      clear c0 c1 c2 hr
      by_cases hD : 0 < D
      · have HIN : Hid (((K, V), (1 : Int)) ∈ L) := by
          have := HE.out; subst this
          exact once_mem.2 ⟨rfl, _, List.mem_of_getElem? HR.out, hD, rfl⟩
        have HZ : Hid ((onceT (s.take (k + 1))).length = (onceT (s.take k)).length + 1) := by show _ = _; rw [once_yes HR.out hD]; simp
        have hbD := hb.drew
        go_wp2_with fail
        go_region_held3 (fun W => W.cell? ⟨g, off + k * 3, none⟩ = some (.int .i64 K) ∧ W.cell? ⟨g, off + k * 3 + 1, none⟩ = some (.int .i64 V))
          (first | exact HX.out _ hbD | exact HX.out _ hbna)
          (first
            | (go_at_call 75; with_reducible refine (lwHas_in _ L K V 1 _ (HXS.out.keep hbD) HIN.out).mono ?_; rintro e wa ⟨rfl, hba⟩; have hbna : Below w5.heap.size w5 wa := bStep hbD hba))
        go_wp2_with fail
        go_roundw
        case rel => exact ⟨k + 1, m + 1, by omega, by go_num, by go_num, by have := HMK.out; have := HZ.out; omega, hbna⟩
        case measure => simp [intOf]; omega
      · have HZ : Hid (onceT (s.take (k + 1)) = onceT (s.take k)) := once_no HR.out hD
        go_wp2_with fail
        go_roundw
        case rel => exact ⟨k + 1, m, by omega, by go_num, rfl, by rw [HZ.out]; exact HMK.out, hb⟩
        case measure => simp [intOf]; omega
    obtain rfl : k = s.length := by omega
    have hmL : m = L.length := by have h1 := HMK.out; rw [List.take_length, HE.out] at h1; exact h1
    subst hmL
    have X_6 := HXS.out.keep hb
    have hbw6 := bStep hbw5 hb
    go_wp2_with fail
    refine (implSetOnce_k HT.out X_6).mono ?_
    rintro e w7 ⟨oz, rfl, S_7, hb7⟩
    have X_7 := X_6.keep hb7
    have hbw7 := bStep hbw6 hb7
    clear X_6 hbw6 hb7
    go_wp2_with fail
    refine (lwItems_eq (selfI _) S_7 X_7).mono ?_
    rintro e w8 ⟨rfl, hb8⟩
    have X_8 := X_7.keep hb8
    have S_8 := S_7.keep hb8
    have hbw8 := bStep hbw7 hb8
    clear X_7 S_7 hbw7 hb8
    go_wp2_with fail
    go_ret
    exact ⟨rfl, hbw8⟩
end FnSetOnce
namespace RowFnSetOnce
theorem own : ownKnob Try.prog.godebug = none := by kernel_rfl
set_option maxRecDepth 100000 in
theorem lifted (os : Os) (started : os.Started) (H : Type) (enc : TypeId × Value → H) :
    ReturnsInHanded {} Try.checked os 23 .any (Rows.fnSetOnceSpec.pre6 enc Try.prog Try.f23 Rows.fnSetOnceRow.domain false) (Rows.fnSetOnceSpec.post enc Try.prog Try.f23 false true false false) := by
  refine returnsInHanded_of_change (C := Try.checked) own started (by kernel_rfl) Try.func23
    (ChangeSpec.witness6 (enc := enc) (C := Try.checked) false ⟨#[], #[.slice none 0 0], []⟩ 8 (by kernel_rfl) (by kernel_rfl) (by kernel_rfl) (by kernel_rfl)) ?_
  intro W base args ds gs before hval0 hW hcnd _
  have hval : ∀ (j : Nat) t v, Try.f23.params[j]? = some t → args[j]? = some v → Value.okWide Try.prog W .any base t v := hval0
  have hW' := hW
  obtain ⟨p, q, hA0, hV, rfl, hfz, hnd⟩ := hW
  have hA : DataW.TrodAll enc Try.prog W 0 (fun _ => true) true Try.f23.params.toList args.toList ds p := hA0
  rw [Try.params23] at hA hval
  obtain ⟨v0, vs0, d0, ds0, p0, q0, hargs, rfl, rfl, h0, r0⟩ := trodAll_cons hA
  obtain ⟨rfl, rfl, rfl⟩ := trodAll_nil r0
  obtain rfl : args = #[v0] := by cases args; simp_all
  obtain ⟨rfl, rfl⟩ := trodVars_none hV
  obtain ⟨a0, len0, cap0, rfl⟩ := okWide_slice Try.underlying22 (hval 0 22 v0 rfl rfl)
  have k0 := h0
  have lt0 : ∀ x ∈ p0, x.block < W.heap.size := by obtain ⟨m, hm⟩ := k0; exact DataW.trod_lt m _ _ _ hm
  have w0 : Src W (.slice a0 len0 cap0) len0 := by
    obtain ⟨fuel, hf⟩ := h0
    rcases open_ints Try.underlying22 Try.underlying5 (by kernel_rfl) hf with ⟨hcs, _⟩ | ⟨x, l, c, zs, hcs, _, hl, hm, hz, _, hcell, hwz⟩
    · simp [Value.cells] at hcs
      obtain ⟨rfl, rfl, rfl⟩ := hcs
      exact Src.nil _
    · simp [Value.cells] at hcs
      obtain ⟨rfl, rfl, rfl⟩ := hcs
      exact Src.of_row hl hm (by simpa using hz) hcell hwz
  clear hA0 hval0
  refine (FnSetOnce.walk a0 len0 cap0 W w0).mono fun e W' ⟨he, bel⟩ => ?_
  subst he
  exact ⟨_, rfl, _, _, _, [], _, [], hW', trodAll_mk1 (shut_bool Try.underlying4 _), (trodAll_cons_mk (Below.trod pfLaid (by kernel_rfl) (of_decide_eq_true (by kernel_rfl)) k0 bel lt0) trodAll_mk0), rfl, bel.frame _, fun h => by cases h⟩
set_option maxHeartbeats 4000000 in
theorem closed : joinedFacts Try.prog 23 Try.f23 Rows.fnSetOnceSpec Rows.fnSetOnceRow = true := by
  unfold joinedFacts
  exact (andB (andB (andB (andB (andB (andB (andB (andB (andB (andB (andB (andB (andB (andB (andB (andB (andB (andB (andB (andB (andB (andB (andB (andB (andB (andB (andB (andB (andB (andB (andB (by as_aux_lemma => kernel_rfl) pfLaid) pfRowed) (by as_aux_lemma => kernel_rfl)) (by as_aux_lemma => kernel_rfl)) (by as_aux_lemma => kernel_rfl)) (by as_aux_lemma => kernel_rfl)) (by as_aux_lemma => kernel_rfl)) (by as_aux_lemma => kernel_rfl)) (by as_aux_lemma => kernel_rfl)) (by as_aux_lemma => kernel_rfl)) (by as_aux_lemma => kernel_rfl)) (by as_aux_lemma => kernel_rfl)) (by as_aux_lemma => kernel_rfl)) (by as_aux_lemma => kernel_rfl)) (by as_aux_lemma => kernel_rfl)) (by as_aux_lemma => kernel_rfl)) (by as_aux_lemma => kernel_rfl)) (by as_aux_lemma => kernel_rfl)) (by as_aux_lemma => kernel_rfl)) (by as_aux_lemma => kernel_rfl)) (by as_aux_lemma => kernel_rfl)) (by as_aux_lemma => kernel_rfl)) (by as_aux_lemma => kernel_rfl)) pfHeard) pfEnter) (pfLiftB rfl)) (pfMakeB rfl)) (by as_aux_lemma => kernel_rfl)) (by as_aux_lemma => kernel_rfl)) (by as_aux_lemma => kernel_rfl)) (by as_aux_lemma => kernel_rfl))
theorem over : Rows.fnSetOnceRow.holds Try.pinned (OpenSpec.ofChange Rows.fnSetOnceSpec) :=
  OpenClaim.holds_of_wide 23 Try.f23 rfl rfl rfl rfl rfl rfl rfl ⟨rfl, rfl, rfl, rfl, rfl⟩ rfl rfl rfl rfl rfl (by kernel_rfl) Try.func23 closed
    (of_decide_eq_true (by kernel_rfl)) (by unfold Func.isWrapper; first | (rw [if_pos (by decide +kernel)]; kernel_rfl) | (rw [if_neg (by decide +kernel)]; exact ⟨rfl, rfl⟩))
    (fun os started H enc _ => lifted os started H enc)
end RowFnSetOnce
theorem fnSetOnce_holds : Rows.FnSetOnceSaid := RowFnSetOnce.over
end Go.Proofs.Ytbmdfmboabfceaa
