/- LoopStep of the model: the contract; both in the form in which the laws use them. -/
import Derived.Test.YtjlaeeccnbdghaaGreatTo5
import Derived.Test.YtjlaeeccnbdghaaGreatGd3
namespace Go.Proofs.YtjlaeeccnbdghaaGreat
open Go.RowKit

set_option maxRecDepth 100000 in
set_option maxHeartbeats 8000000 in
theorem specLoopStep_few (tv' fv' nv' : Value) (ties first now : List It) (w : World) (ht : Is w tv' ties) (hf : Is w fv' first) (hn : Is w nv' now) (at' : absum ties ≤ 562949953421312) (af' : absum first ≤ 562949953421312) (an' : absum now ≤ 600) :
    Calls Tryz.prog 54 #[tv', fv', nv'] w fun e w' => ∃ o : Value, e = .returned o ∧ OwnI w' w.heap.size o (stepL ties first now) ∧ Below w.heap.size w w' := by
  cases k1 : sokB ties
  · have HF : Hid (stepL ties first now = []) := stepL_no1 k1
    go_enter Tryz.func54, Tryz.ntmps54
    go_wp2_with fail
    refine (specSetOk_eq k1 ht).mono ?_
    rintro e w1 ⟨rfl, hb1⟩
    have hs := hb1.size
    go_wp2_with fail
    go_ret
    refine ⟨_, rfl, ?_, bAlloc hb1 _⟩
    rw [HF.out]
    exact own_less (ownI_empty w1 rfl) hs
  cases k2 : sokB first
  · have HF : Hid (stepL ties first now = []) := stepL_no2 k2
    go_enter Tryz.func54, Tryz.ntmps54
    go_wp2_with fail
    refine (specSetOk_eq k1 ht).mono ?_
    rintro e w1 ⟨rfl, hb1⟩
    go_wp2_with fail
    refine (specSetOk_eq k2 (hf.keep hb1)).mono ?_
    rintro e w2 ⟨rfl, hb2⟩
    have hbw2 := bStep hb1 hb2
    have hs := hbw2.size
    go_wp2_with fail
    go_ret
    refine ⟨_, rfl, ?_, bAlloc hbw2 _⟩
    rw [HF.out]
    exact own_less (ownI_empty w2 rfl) hs
  cases k3 : sokB now
  · have HF : Hid (stepL ties first now = []) := stepL_no3 k3
    go_enter Tryz.func54, Tryz.ntmps54
    go_wp2_with fail
    refine (specSetOk_eq k1 ht).mono ?_
    rintro e w1 ⟨rfl, hb1⟩
    go_wp2_with fail
    refine (specSetOk_eq k2 (hf.keep hb1)).mono ?_
    rintro e w2 ⟨rfl, hb2⟩
    have hbw2 := bStep hb1 hb2
    go_wp2_with fail
    refine (specSetOk_eq k3 (hn.keep hbw2)).mono ?_
    rintro e w3 ⟨rfl, hb3⟩
    have hbw3 := bStep hbw2 hb3
    have hs := hbw3.size
    go_wp2_with fail
    go_ret
    refine ⟨_, rfl, ?_, bAlloc hbw3 _⟩
    rw [HF.out]
    exact own_less (ownI_empty w3 rfl) hs
  have HF : Hid (stepL ties first now = onceS (sumL ltT (keysT first ++ leadT ties now))) := stepL_yes k1 k2 k3
  have HA := (show Hid _ from led_abs at' af' an')
  have l1 := sok_len k1
  have l2 := sok_len k2
  have l3 := sok_len k3
  have HLK : Hid ((keysT first).length ≤ 400) := by show _ ≤ _; unfold keysT; rw [List.length_map]; omega
  have HLT : Hid ((leadT ties now).length ≤ 160000) := by
    have h1 := leadT_len ties now
    have h2 : ties.length * now.length ≤ 400 * 400 := Nat.mul_le_mul l1 l3
    show _ ≤ _; omega
  go_enter Tryz.func54, Tryz.ntmps54
  go_wp2_with fail
  refine (specSetOk_eq k1 ht).mono ?_
  rintro e w1 ⟨rfl, hb1⟩
  go_wp2_with fail
  refine (specSetOk_eq k2 (hf.keep hb1)).mono ?_
  rintro e w2 ⟨rfl, hb2⟩
  have hbw2 := bStep hb1 hb2
  go_wp2_with fail
  refine (specSetOk_eq k3 (hn.keep hbw2)).mono ?_
  rintro e w3 ⟨rfl, hb3⟩
  have hbw3 := bStep hbw2 hb3
  have hs3 := hbw3.size
  clear hb1 hb2 hb3 hbw2
  go_wp2_with fail
  refine (l22Keys_any _ first _ (hf.keep hbw3) l2).mono ?_
  rintro e w4 ⟨o4, rfl, own4, hb4⟩
  have hbw4 := bStep hbw3 hb4
  have HO4 : Hid (OwnI w4 w3.heap.size o4 (keysT first)) := own4
  clear own4
  go_wp2_with fail
  refine (l22Lead_few _ _ ties now _ (ht.keep hbw4) (hn.keep hbw4) k1 k3 at' an').mono ?_
  rintro e w5 ⟨o5, rfl, own5, hb5⟩
  have hbw5 := bStep hbw4 hb5
  have O5 : OwnI w5 w3.heap.size o4 (keysT first) := own_keep HO4.out hb5
  have I5 : Is w5 o5 (leadT ties now) := OwnI.is own5 (by have := HLT.out; omega)
  have hs35 : w3.heap.size ≤ w5.heap.size := Nat.le_trans hb4.size hb5.size
  have hlen : (keysT first).length + (leadT ties now).length ≤ 2000000 := by have := HLK.out; have := HLT.out; omega
  clear own5 HO4
  go_wp2_with (at_builtin; refine appIs _ rfl _ _ rfl w3.heap.size _ (keysT first) rfl O5 _ (leadT ties now) rfl I5 hlen hs35 ?_; intro v6 w6 own6 hg6)
  have hb6 : Below w.heap.size w w6 := Below.grew hbw5 hg6 hbw5.size (fun q e => by have := ownK_base O5 q e; omega)
  have I6 : Is w6 v6 (keysT first ++ leadT ties now) := OwnI.is own6 (by rw [List.length_append]; omega)
  have hlen2 : (keysT first ++ leadT ties now).length ≤ 1000000 := by rw [List.length_append]; have := HLK.out; have := HLT.out; omega
  clear own6 O5 I5 hg6
  generalize keysT first ++ leadT ties now = P at *
  go_wp2_with fail
  refine (l2Items_any v6 P _ I6 hlen2 (by have := HA.out; omega)).mono ?_
  rintro e w7 ⟨o7, rfl, own7, hb7⟩
  have hbw7 := bStep hb6 hb7
  have I7 : Is w7 o7 (sumL ltT P) := OwnI.is own7 (by have := sumL_len ltT P; omega)
  clear own7 I6
  go_wp2_with fail
  refine (specSetOnce_any o7 (sumL ltT P) _ I7).mono ?_
  rintro e w8 ⟨o8, rfl, own8, hb8⟩
  have HO : Hid (OwnI w8 w7.heap.size o8 (onceS (sumL ltT P))) := own8
  have hs7 := hbw7.size
  clear own8
  go_wp2_with fail
  go_ret
  refine ⟨_, rfl, ?_, bStep hbw7 hb8⟩
  rw [HF.out]
  exact own_less HO.out hs7
theorem stepL_len (ties first now : List It) : (stepL ties first now).length ≤ 400 := by
  unfold stepL; split
  · exact onceS_len _
  · simp
theorem implLoopStep_k {ties first now L : List It} (e : stepL ties first now = L) (at' : absum ties ≤ 562949953421312) (af' : absum first ≤ 562949953421312) (an' : absum now ≤ 600) {v1 v2 v3 : Value} {w : World} (ht : Is w v1 ties) (hf : Is w v2 first) (hn : Is w v3 now) :
    Calls Tryz.prog 60 #[v1, v2, v3] w fun e w' => ∃ o : Value, e = .returned o ∧ Is w' o L ∧ Below w.heap.size w w' :=
  ofOwnI e (by have := stepL_len ties first now; omega) (implLoopStep_few v1 v2 v3 ties first now w ht hf hn at' af' an')
theorem specLoopStep_k {ties first now L : List It} (e : stepL ties first now = L) (at' : absum ties ≤ 562949953421312) (af' : absum first ≤ 562949953421312) (an' : absum now ≤ 600) {v1 v2 v3 : Value} {w : World} (ht : Is w v1 ties) (hf : Is w v2 first) (hn : Is w v3 now) :
    Calls Tryz.prog 54 #[v1, v2, v3] w fun e w' => ∃ o : Value, e = .returned o ∧ Is w' o L ∧ Below w.heap.size w w' :=
  ofOwnI e (by have := stepL_len ties first now; omega) (specLoopStep_few v1 v2 v3 ties first now w ht hf hn at' af' an')
end Go.Proofs.YtjlaeeccnbdghaaGreat
