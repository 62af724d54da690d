/- What the program's BatchOf answers: contracts. -/
import Derived.Test.YtbmdfmboabfceaaSu
namespace Go.Proofs.Ytbmdfmboabfceaa
open Go.RowKit

theorem rw_sp {r : Rw} (h : rwOkB r = true) : spOk r.1 := by
  simp only [rwOkB, inB, okB, Bool.and_eq_true, decide_eq_true_eq] at h
  unfold spOk fit63
  omega
set_option maxHeartbeats 2000000 in
theorem batchOf_any (v : Value) (l : List Rw) (w : World) (h : Rs w v l) (hl : l.length ≤ 1000000) (ha : absum l ≤ 2305843009213693952) (hk : ∀ r ∈ l, spOk r.1) :
    Calls Try.prog 100 #[v] w fun e w' => ∃ o : Value, e = .returned o ∧ OwnR w' w.heap.size o (sumF l) ∧ Below w.heap.size w w' := by
  have hsl := sumL_len ltS l
  have H := sumUp_any v l w h hl ha hk
  clear h hk ha
  go_enter Try.func100, Try.ntmps100
  go_wp2_with fail
  refine H.mono ?_
  rintro e w1 ⟨o1, rfl, own1, hb1⟩
  have R1 := OwnR.rs own1 (by omega)
  have O1 : Hid (OwnR w1 w.heap.size o1 (sumL ltS l)) := own1
  clear own1 H
  cases hro : rokB (sumL ltS l)
  · have HF : Hid (sumF l = []) := sumF_no hro
    go_wp2_with fail
    refine (implRowsOk_eq hro R1).mono ?_
    rintro e w2 ⟨rfl, hb2⟩
    go_wp2_with fail
    go_ret
    refine ⟨_, rfl, ?_, bStep hb1 hb2⟩
    rw [HF.out]
    exact ownK_nil _ _ _ _ _
  · have HF : Hid (sumF l = sumL ltS l) := sumF_ok hro
    go_wp2_with fail
    refine (implRowsOk_eq hro R1).mono ?_
    rintro e w2 ⟨rfl, hb2⟩
    have O2 : Hid (OwnR w2 w.heap.size o1 (sumL ltS l)) := own_keep O1.out hb2
    go_wp2_with fail
    go_ret
    refine ⟨_, rfl, ?_, bStep hb1 hb2⟩
    rw [HF.out]
    exact O2.out
set_option maxHeartbeats 2000000 in
theorem implBatchOf_any (v : Value) (l : List Rw) (w : World) (h : Rs w v l) :
    Calls Try.prog 35 #[v] w fun e w' => ∃ o : Value, e = .returned o ∧ OwnR w' w.heap.size o (batchL l) ∧ Below w.heap.size w w' := by
  cases hk : rokB l
  · have HF : Hid (batchL l = []) := batch_no hk
    go_enter Try.func35, Try.ntmps35
    go_wp2_with fail
    refine (implRowsOk_eq hk h).mono ?_
    rintro e w1 ⟨rfl, hb1⟩
    go_wp2_with fail
    go_ret
    refine ⟨_, rfl, ?_, hb1⟩
    rw [HF.out]
    exact ownK_nil _ _ _ _ _
  · have HF : Hid (batchL l = sumF l) := by show _ = _; unfold batchL; rw [if_pos hk]
    have ha := rok_abs hk
    have hl := rok_len hk
    have hks : Hid (∀ r ∈ l, spOk r.1) := fun r hr => rw_sp (rok_at hk hr)
    go_enter Try.func35, Try.ntmps35
    go_wp2_with fail
    refine (implRowsOk_eq hk h).mono ?_
    rintro e w1 ⟨rfl, hb1⟩
    have h1 := h.keep hb1
    have hs1 := hb1.size
    go_wp2_with fail
    refine (batchOf_any _ l _ h1 (by omega) (by omega) hks.out).mono ?_
    rintro e w2 ⟨o2, rfl, own2, hb2⟩
    have O2 : Hid (OwnR w2 w1.heap.size o2 (sumF l)) := own2
    clear own2
    go_wp2_with fail
    go_ret
    refine ⟨_, rfl, ?_, bStep hb1 hb2⟩
    rw [HF.out]
    exact own_less O2.out hs1
end Go.Proofs.Ytbmdfmboabfceaa
