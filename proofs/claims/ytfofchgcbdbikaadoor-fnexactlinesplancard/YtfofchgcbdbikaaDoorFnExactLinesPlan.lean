/- At whatever text the program's LinesPlan answers as its model, field by field; its answer owns its memory: it is not changed by another call, and its parts lie each in memory of their own: the exact law of LinesPlan (FnExactLinesPlan). Conditions: those of the row alone (the listed variables hold what the program text lays; the text reads as the form asks). -/
import Derived.Test.YtfofchgcbdbikaaDoorWFnExactLinesPlan
import Derived.Test.YtfofchgcbdbikaaDoorLqF
import Derived.Test.YtfofchgcbdbikaaDoorCards
import Derived.Test.YtfofchgcbdbikaaDoorTie
namespace Go.Proofs.YtfofchgcbdbikaaDoor
open Go.ChangeShapes Go.WideShapes Go.RowKit Go.Extern.Stop Go.Stop Go.Extern
open Go.ChangeMaps (open_string)

namespace RowFnExactLinesPlan
set_option maxRecDepth 100000 in
theorem lifted (os : Os) (started : os.Started) (H : Type) (enc : TypeId × Value → H) :
    ReturnsInHanded {} Tryd.checked os 5 .any (fun w args => (Rows.fnExactLinesPlanSpec.pre enc Tryd.prog Tryd.f5 [] false w args ∧ laidMetH Tryd.prog Rows.fnExactLinesPlanRow.laid w) ∧ sizedMet enc Tryd.prog Tryd.f5 (OpenSpec.ofChange Rows.fnExactLinesPlanSpec) false w args)
      (Rows.fnExactLinesPlanSpec.post enc Tryd.prog Tryd.f5 false true false false) := by
  refine change_and_shaped (C := Tryd.checked) (X := fun w _ => laidMetH Tryd.prog Rows.fnExactLinesPlanRow.laid w) (fun _ _ _ hh h => h.of_heap hh) lqOwn started (by kernel_rfl) Tryd.func5
    (ChangeSpec.witness_at (enc := enc) (C := Tryd.checked) (os := os) (X := fun w _ => laidMetH Tryd.prog Rows.fnExactLinesPlanRow.laid w) false (lqWorld os) #[.string ⟨#[]⟩] 8 rfl (by kernel_rfl) (by kernel_rfl) (by kernel_rfl) (by kernel_rfl) (by kernel_rfl) (lqLaid os _)) ?_
  intro W base args ds gs before hval0 hW hL hsh
  have hval : ∀ (j : Nat) t v, Tryd.f5.params[j]? = some t → args[j]? = some v → Value.okWide Tryd.prog W .any base t v := hval0
  have hW' := hW
  obtain ⟨p, q, hA0, hV0, rfl, hfz, hnd⟩ := hW
  have hA : DataW.TrodAll enc Tryd.prog W 0 (fun _ => true) true Tryd.f5.params.toList args.toList ds p := hA0
  have hV : DataW.TrodVars enc Tryd.prog W (fun _ => true) ["loop.example/tideline/impl.errCannotBe"] gs q := hV0
  rw [Tryd.params5] at hA hval
  obtain ⟨v0, vs0, d0, ds0, p0, q0, hargs, rfl, rfl, h0, r0⟩ := trodAll_cons hA
  obtain ⟨rfl, rfl, rfl⟩ := trodAll_nil r0
  obtain rfl : args = #[v0] := by cases args; simp_all
  obtain ⟨a1, s1, hv1, hc1, hs1, hz1⟩ := laid_sentinel (laidMet_tail (show laidMet Tryd.prog Rows.fnExactLinesPlanRow.laid W from hL)) lqO lqOType Tryd.underlying51 lqRowE Tryd.underlying124 Tryd.underlying163 rfl rfl Tryd.underlying9 lqCellsE lqCellsS
  obtain ⟨rfl, rfl⟩ := hV.unique (vars_read1 enc lqO lqOType Tryd.underlying51 hv1 trivial _)
  have hg1 : W.cell? ⟨0, 0, none⟩ = some (erV a1) := by simpa using World.var?_cell lqO hv1 0
  obtain ⟨m, hm1⟩ := maxLen_int W hsh
  have k0 := h0
  have lt0 : ∀ x ∈ p0, x.block < W.heap.size := by obtain ⟨m, hm⟩ := k0; exact DataW.trod_lt m _ _ _ hm
  obtain ⟨b0, rfl, rfl, rfl, ws0⟩ := open_string Tryd.underlying9 (hval 0 9 v0 rfl rfl) h0
  clear hA0 hval0
  refine (FnExactLinesPlan.walk a1 m b0 W hg1 hm1).mono fun e W' ⟨he, bel⟩ => ?_
  subst he
  have hv2 : W'.var? Tryd.prog "loop.example/tideline/impl.errCannotBe" = some #[erV a1] := by
    have h00 : W'.heap[0]? = W.heap[0]? := bel.block 0 (lt_of_cell hg1)
    unfold World.var? at hv1 ⊢
    rw [lqO] at hv1 ⊢
    simp only [Option.bind_some, h00] at hv1 ⊢
    exact hv1
  exact ⟨_, rfl, _, _, _, [], _, [.cell 0 0], hW', trodAll_mk1 (shut_bool Tryd.underlying4 _), (trodAll_cons_mk (Below.trod (by kernel_rfl) (by kernel_rfl) (of_decide_eq_true (by kernel_rfl)) k0 bel lt0) trodAll_mk0), vars_read1 enc lqO lqOType Tryd.underlying51 hv2 trivial _, bel.frame _, fun h => by cases h⟩
set_option maxHeartbeats 4000000 in
theorem over : Rows.fnExactLinesPlanRow.holds Tryd.pinned (OpenSpec.ofChange Rows.fnExactLinesPlanSpec) :=
  OpenClaim.holds_of_wide 5 Tryd.f5 rfl rfl rfl rfl rfl rfl rfl ⟨rfl, rfl, rfl, rfl, rfl⟩ rfl rfl rfl rfl rfl (by kernel_rfl) Tryd.func5 (by kernel_rfl)
    (of_decide_eq_true (by kernel_rfl)) (by unfold Func.isWrapper; first | (rw [if_pos (by decide +kernel)]; kernel_rfl) | (rw [if_neg (by decide +kernel)]; exact ⟨rfl, rfl⟩))
    (fun os started H enc _ => lifted os started H enc)
end RowFnExactLinesPlan
theorem fnExactLinesPlan_card : Rows.FnExactLinesPlanCardSaid :=
  Claim7.holds_tied_plain_at .later [] [.data, .sentinel, .pinned] true Rows.fnExactLinesPlanCard.stood.harness true
    RowFnExactLinesPlan.over (fun _ h => by cases h) (by kernel_rfl) (fun _ h => by cases h) fnExactLinesPlan_row_tie rfl ⟨rfl, rfl⟩ (by kernel_rfl) rfl
    (fun f fn hf hfn => by
      obtain rfl : f = 5 := Option.some.inj ((show Tryd.prog.funcNamed "loop.example/tideline/laws.FnExactLinesPlan" = some 5 by kernel_rfl).symm.trans hf) |>.symm
      obtain rfl : fn = Tryd.f5 := (Option.some.inj (Tryd.func5.symm.trans hfn)).symm
      exact ⟨by kernel_rfl, fun j t ht => by
        rw [Tryd.params5] at ht
        have h3 : t = 9 := by
          rcases j with _ | j
          · simpa using ht.symm
          · simp at ht
        subst h3
        exact (show Tryd.prog.wantsStandIn 9 = false by kernel_rfl)⟩)
    (by kernel_rfl)
end Go.Proofs.YtfofchgcbdbikaaDoor
