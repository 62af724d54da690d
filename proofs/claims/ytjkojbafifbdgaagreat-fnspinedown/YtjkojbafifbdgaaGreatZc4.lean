/- l12Least of the model: the contract. -/
import Derived.Test.YtjkojbafifbdgaaGreatZq0
import Derived.BigQuiet
import Derived.Deep.QuietTactic
namespace Go.Proofs.YtjkojbafifbdgaaGreat
open Go.RowKit Go.Shelf

set_option maxRecDepth 100000 in
set_option maxHeartbeats 16000000 in
theorem l12Least_any (lv fv : Value) (L : List (List Rw)) (F : List (Int × Int)) (w : World) (h : Spn w lv fv L F) (h2 : 2 ≤ L.length) (hn : L.length ≤ 6) (hfew : ∀ l ∈ L, l.length ≤ 1000) :
    Calls Tryz.prog 61 #[spv lv fv] w fun e w' => e = .returned (.int .i64 ((bestL L : Nat) : Int)) ∧ Below w.heap.size w w' := by
  obtain ⟨aL, cL, rfl, hc, hm, hn2, hcells⟩ := Ly.open h.1
  unfold maxLen at hm
  have HC := (show Hid _ from hcells)
  have HW := (show Hid (∀ l ∈ L, l.length ≤ 1000) from hfew)
  obtain ⟨aF, cF, rfl, -⟩ := h.2
  have bt0 : Bk (w.alloc (.cells #[.slice aL L.length cL, .slice aF F.length cF] 26)) w.heap.size #[.slice aL L.length cL, .slice aF F.length cF] 26 := Bk.new _ _ rfl
  have hb0 : Below w.heap.size w (w.alloc (.cells #[.slice aL L.length cL, .slice aF F.length cF] 26)) := bAlloc (Below.refl _ _) _
  clear h hcells hfew
  go_enter Tryz.func61, Tryz.ntmps61
  go_wp2_with fail
  generalize (w.alloc (.cells #[.slice aL L.length cL, .slice aF F.length cF] 26)) = w0 at *
  go_loopw [3, 4] (fun b i wr => ∃ k : Nat, 1 ≤ k ∧ k + 1 ≤ L.length ∧ i = .int .i64 k ∧ b = .int .i64 ((bestTo L (k - 1) : Nat) : Int) ∧ Below w0.heap.size w0 wr) (fun _ i _ => L.length - (intOf i).toNat)
  case atStart => exact ⟨1, by omega, by omega, rfl, rfl, Below.refl _ _⟩
  case round =>
    obtain ⟨k, hk1, hk, rfl, rfl, hb⟩ := hrel
    have hbl := best_le L (k - 1)
    obtain ⟨s0, s1, _, _⟩ := (bt0.keep hb).two
    have hbw := bStep hb0 hb
    have ki : IntKind.i64.wrap ((k : Int) + 1) = (k : Int) + 1 := by rw [IntKind.wrap_i64]; omega
    by_cases hlt : k + 1 < L.length
    · obtain ⟨g, off, ad, cp, rfl, hg, c0, -⟩ := HC.out k (by omega)
      obtain ⟨g', off', ad', cp', e1, hg', c1, -⟩ := HC.out (k + 1) hlt
      cases e1
      obtain ⟨g', off', ad2, cp2, e1, hg', c2, -⟩ := HC.out (bestTo L (k - 1)) (by omega)
      cases e1
      obtain ⟨g', off', ad3, cp3, e1, hg', c3, -⟩ := HC.out (bestTo L (k - 1) + 1) (by omega)
      cases e1
      have d0 := cell_below hbw c0
      have d1 := cell_below hbw c1
      have d2 := cell_below hbw c2
      have d3 := cell_below hbw c3
      have hn1 := HW.out _ (gl_mem (L := L) (i := k) (by omega))
      have hn2' := HW.out _ (gl_mem (L := L) (i := k + 1) (by omega))
      have hn3 := HW.out _ (gl_mem (L := L) (i := bestTo L (k - 1)) (by omega))
      have hn4 := HW.out _ (gl_mem (L := L) (i := bestTo L (k - 1) + 1) (by omega))
      have HP : Hid (∀ Z, bestTo L (k + 1 - 1) = Z ↔ (if prN L k < prN L (bestTo L (k - 1)) then k else bestTo L (k - 1)) = Z) := fun Z => by
        obtain ⟨k0, rfl⟩ : ∃ k0, k = k0 + 1 := ⟨k - 1, by omega⟩
        simp only [Nat.add_sub_cancel]
        rfl
      have HQ : Hid (prN L k = (gl L k).length + (gl L (k + 1)).length ∧ prN L (bestTo L (k - 1)) = (gl L (bestTo L (k - 1))).length + (gl L (bestTo L (k - 1) + 1)).length) := ⟨rfl, rfl⟩
      clear c0 c1 c2 c3
      generalize hBT : bestTo L (k - 1) = t at *
      generalize hL1 : (gl L k).length = n1 at *
      generalize hL2 : (gl L (k + 1)).length = n2 at *
      generalize hL3 : (gl L t).length = n3 at *
      generalize hL4 : (gl L (t + 1)).length = n4 at *
      have ti : IntKind.i64.wrap ((t : Int) + 1) = (t : Int) + 1 := by rw [IntKind.wrap_i64]; omega
      have w1 : IntKind.i64.wrap ((n1 : Int) + (n2 : Int)) = (n1 : Int) + (n2 : Int) := by rw [IntKind.wrap_i64]; omega
      have w2 : IntKind.i64.wrap ((n3 : Int) + (n4 : Int)) = (n3 : Int) + (n4 : Int) := by rw [IntKind.wrap_i64]; omega
      have ik : (k : Int) < (L.length : Int) := by omega
      have ik1 : (k : Int) + 1 < (L.length : Int) := by omega
      have ik2 : (0 : Int) ≤ (k : Int) + 1 := by omega
      have it : (t : Int) < (L.length : Int) := by omega
      have it1 : (t : Int) + 1 < (L.length : Int) := by omega
      have it2 : (0 : Int) ≤ (t : Int) + 1 := by omega
      have kn : ((k : Int) + 1).toNat = k + 1 := by omega
      have tn : ((t : Int) + 1).toNat = t + 1 := by omega
      by_cases hq : n1 + n2 < n3 + n4
      · have HZ : Hid (bestTo L (k + 1 - 1) = k) := (HP.out k).2 (if_pos (by rw [HQ.out.1, HQ.out.2]; exact hq))
        have iq : (n1 : Int) + (n2 : Int) < (n3 : Int) + (n4 : Int) := by omega
        go_wp2_with fail
        go_quiet (fail)
        go_wp2_with fail
        go_roundw
        case rel => exact ⟨k + 1, by omega, by omega, by go_num, by rw [HZ.out], bDrewN hb _⟩
        case measure => simp [intOf]; omega
      · have HZ : Hid (bestTo L (k + 1 - 1) = t) := (HP.out t).2 (if_neg (by rw [HQ.out.1, HQ.out.2]; exact hq))
        have iq : ¬ (n1 : Int) + (n2 : Int) < (n3 : Int) + (n4 : Int) := by omega
        go_wp2_with fail
        go_quiet (fail)
        go_wp2_with fail
        go_roundw
        case rel => exact ⟨k + 1, by omega, by omega, by go_num, by rw [HZ.out], bDrewN hb _⟩
        case measure => simp [intOf]; omega
    · have HE : Hid (bestL L = bestTo L (k - 1)) := by show _ = _; unfold bestL; congr 1; omega
      have il : ¬ ((k : Int) + 1 < (L.length : Int)) := by omega
      generalize hBT : bestTo L (k - 1) = t at *
      go_wp2_with fail
      go_ret
      exact ⟨by rw [HE.out]; rfl, hbw⟩
end Go.Proofs.YtjkojbafifbdgaaGreat
