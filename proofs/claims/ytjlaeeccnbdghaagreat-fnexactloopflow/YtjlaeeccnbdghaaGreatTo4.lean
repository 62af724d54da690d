/- LoopStep of the program, where Counts are few: the contract. -/
import Derived.Test.YtjlaeeccnbdghaaGreatTo3
import Derived.Test.YtjlaeeccnbdghaaGreatGtX
namespace Go.Proofs.YtjlaeeccnbdghaaGreat
open Go.RowKit

def stepL (ties first now : List It) : List It := if sokB ties && sokB first && sokB now then onceS (sumL ltT (keysT first ++ leadT ties now)) else []
theorem stepL_no1 {ties first now : List It} (h : sokB ties = false) : stepL ties first now = [] := by simp [stepL, h]
theorem stepL_no2 {ties first now : List It} (h : sokB first = false) : stepL ties first now = [] := by simp [stepL, h]
theorem stepL_no3 {ties first now : List It} (h : sokB now = false) : stepL ties first now = [] := by simp [stepL, h]
theorem stepL_yes {ties first now : List It} (h1 : sokB ties = true) (h2 : sokB first = true) (h3 : sokB now = true) : stepL ties first now = onceS (sumL ltT (keysT first ++ leadT ties now)) := by simp [stepL, h1, h2, h3]
theorem keysT_abs (l : List It) : absum (keysT l) = absum l := absum_map (fun s : Int × Int => (s.1, (0 : Int))) l
theorem natAbs_mul (a b : Int) : ((a * b).natAbs : Int) = a.natAbs * b.natAbs := by rw [Int.natAbs_mul]; simp
theorem leadRow_abs (tie : It) (l : List It) : absum (leadRow tie l) ≤ tie.2.natAbs * absum l := by
  unfold leadRow
  induction l with
  | nil => simp [absum]
  | cons x l ih =>
    have h0 : 0 ≤ (tie.2.natAbs : Int) * (x.2.natAbs : Int) := Int.mul_nonneg (by omega) (by omega)
    rw [List.filter_cons]
    split
    · simp only [List.map_cons, absum, natAbs_mul, Int.mul_add]; omega
    · simp only [absum, Int.mul_add]; omega
theorem leadT_abs (ties now : List It) : absum (leadT ties now) ≤ absum ties * absum now := by
  unfold leadT
  induction ties with
  | nil => simp [absum]
  | cons t l ih =>
    have := leadRow_abs t now
    rw [List.flatMap_cons, absum_append]
    simp only [absum, Int.add_mul]
    omega
theorem leadRow_len (tie : It) (l : List It) : (leadRow tie l).length ≤ l.length := by
  unfold leadRow; rw [List.length_map]; exact List.length_filter_le _ _
theorem leadT_len (ties now : List It) : (leadT ties now).length ≤ ties.length * now.length := by
  unfold leadT
  induction ties with
  | nil => simp
  | cons t l ih =>
    have := leadRow_len t now
    rw [List.flatMap_cons, List.length_append, List.length_cons, Nat.add_mul]
    omega
theorem led_abs {ties first now : List It} (h1 : absum ties ≤ 562949953421312) (h2 : absum first ≤ 562949953421312) (h3 : absum now ≤ 600) : absum (keysT first ++ leadT ties now) ≤ 338332922006208512 := by
  rw [absum_append, keysT_abs]
  have h4 := leadT_abs ties now
  have h5 : absum ties * absum now ≤ 562949953421312 * 600 := Int.mul_le_mul h1 h3 (absum_pos now) (by omega)
  omega
theorem implLoopStep_few (tv' fv' nv' : Value) (ties first now : List It) (w : World) (ht : Is w tv' ties) (hf : Is w fv' first) (hn : Is w nv' now) (at' : absum ties ≤ 562949953421312) (af' : absum first ≤ 562949953421312) (an' : absum now ≤ 600) :
    Calls Tryz.prog 60 #[tv', fv', nv'] w fun e w' => ∃ o : Value, e = .returned o ∧ OwnI w' w.heap.size o (stepL ties first now) ∧ Below w.heap.size w w' := by
  cases k1 : sokB ties
  · have HF : Hid (stepL ties first now = []) := stepL_no1 k1
    go_enter Tryz.func60, Tryz.ntmps60
    go_wp2_with fail
    refine (implSetOk_eq k1 ht).mono ?_
    rintro e w1 ⟨rfl, hb1⟩
    go_wp2_with fail
    go_ret
    refine ⟨_, rfl, ?_, hb1⟩
    rw [HF.out]
    exact ownK_nil _ _ _ _ _
  cases k2 : sokB first
  · have HF : Hid (stepL ties first now = []) := stepL_no2 k2
    go_enter Tryz.func60, Tryz.ntmps60
    go_wp2_with fail
    refine (implSetOk_eq k1 ht).mono ?_
    rintro e w1 ⟨rfl, hb1⟩
    go_wp2_with fail
    refine (implSetOk_eq k2 (hf.keep hb1)).mono ?_
    rintro e w2 ⟨rfl, hb2⟩
    go_wp2_with fail
    go_ret
    refine ⟨_, rfl, ?_, bStep hb1 hb2⟩
    rw [HF.out]
    exact ownK_nil _ _ _ _ _
  cases k3 : sokB now
  · have HF : Hid (stepL ties first now = []) := stepL_no3 k3
    go_enter Tryz.func60, Tryz.ntmps60
    go_wp2_with fail
    refine (implSetOk_eq k1 ht).mono ?_
    rintro e w1 ⟨rfl, hb1⟩
    go_wp2_with fail
    refine (implSetOk_eq k2 (hf.keep hb1)).mono ?_
    rintro e w2 ⟨rfl, hb2⟩
    have hbw2 := bStep hb1 hb2
    go_wp2_with fail
    refine (implSetOk_eq k3 (hn.keep hbw2)).mono ?_
    rintro e w3 ⟨rfl, hb3⟩
    go_wp2_with fail
    go_ret
    refine ⟨_, rfl, ?_, bStep hbw2 hb3⟩
    rw [HF.out]
    exact ownK_nil _ _ _ _ _
  have HF : Hid (stepL ties first now = onceS (sumL ltT (keysT first ++ leadT ties now))) := stepL_yes k1 k2 k3
  have HA := (show Hid _ from led_abs at' af' an')
  have HL : Hid ((keysT first ++ leadT ties now).length ≤ 170000) := by
    have h1 := leadT_len ties now
    have h2 := sok_len k1
    have h3 := sok_len k2
    have h4 := sok_len k3
    have h5 : ties.length * now.length ≤ 400 * 400 := Nat.mul_le_mul h2 h4
    show _ ≤ _
    rw [List.length_append]; unfold keysT; rw [List.length_map]; omega
  go_enter Tryz.func60, Tryz.ntmps60
  go_wp2_with fail
  refine (implSetOk_eq k1 ht).mono ?_
  rintro e w1 ⟨rfl, hb1⟩
  go_wp2_with fail
  refine (implSetOk_eq k2 (hf.keep hb1)).mono ?_
  rintro e w2 ⟨rfl, hb2⟩
  have hbw2 := bStep hb1 hb2
  go_wp2_with fail
  refine (implSetOk_eq k3 (hn.keep hbw2)).mono ?_
  rintro e w3 ⟨rfl, hb3⟩
  have hbw3 := bStep hbw2 hb3
  clear hb1 hb2 hb3 hbw2
  go_wp2_with fail
  refine (ledTo_few _ _ _ ties first now _ (ht.keep hbw3) (hf.keep hbw3) (hn.keep hbw3) k1 k2 k3 at' af' an').mono ?_
  rintro e w4 ⟨b, M, rfl, hM, htot, hMl, hb4⟩
  have hbw4 := bStep hbw3 hb4
  generalize keysT first ++ leadT ties now = P at *
  go_wp2_with fail
  refine (toldItems_few b M P _ hM htot (by omega) (by have := HA.out; omega)).mono ?_
  rintro e w5 ⟨o5, rfl, own5, hb5⟩
  have hbw5 := bStep hbw4 hb5
  have hs4 := hbw4.size
  have I5 : Is w5 o5 (sumL ltT P) := OwnI.is own5 (by have := sumL_len ltT P; have := HL.out; omega)
  clear own5 hb5 hM htot
  go_wp2_with fail
  refine (implSetOnce_any o5 (sumL ltT P) _ I5).mono ?_
  rintro e w6 ⟨o6, rfl, own6, hb6⟩
  have HO : Hid (OwnI w6 w5.heap.size o6 (onceS (sumL ltT P))) := own6
  have hs5 := hbw5.size
  clear own6
  go_wp2_with fail
  go_ret
  refine ⟨_, rfl, ?_, bStep hbw5 hb6⟩
  rw [HF.out]
  exact own_less HO.out hs5
end Go.Proofs.YtjlaeeccnbdghaaGreat
