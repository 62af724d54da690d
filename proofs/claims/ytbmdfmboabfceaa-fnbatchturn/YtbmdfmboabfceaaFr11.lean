/- What the drawing of fronts answers: contracts. -/
import Derived.Test.YtbmdfmboabfceaaFr10
import Derived.Test.YtbmdfmboabfceaaDraw2
namespace Go.Proofs.Ytbmdfmboabfceaa
open Go.RowKit
theorem frontL_len (l : List (Int × Int)) : (frontL l).length ≤ 64 := by
  unfold frontL; split
  · exact frTo_len l 64
  · simp

set_option maxHeartbeats 1000000 in
theorem l71Front_any {B : Nat} {w : World} {g : Nat} {v : Value} {n : Nat} {p : Int} (h : Rd B w g v n p) (hp : 0 ≤ p) (hp' : p ≤ 800000) :
    Calls Try.prog 162 #[.pointer (some ⟨g, 0, none⟩)] w fun e w' => ∃ (o : Value) (f : List (Int × Int)), e = .returned o ∧ f.length ≤ 64 ∧ Own w' w.heap.size o f ∧ (∃ p' : Int, p ≤ p' ∧ p' ≤ p + 400 ∧ Rd B w' g v n p') ∧ Bx g w w' := by
  go_enter Try.func162, Try.ntmps162
  go_wp2_with fail
  refine (l71Times_any h hp hp' _ (by omega) (by omega)).mono ?_
  rintro e w1 ⟨o, l, rfl, hl, hown, ⟨p1, hp1, hp2, hr1⟩, hx1⟩
  have ts := hown.ts (by omega)
  clear hown
  go_wp2_with fail
  refine (specFrontOf_any o l w1 ts).mono ?_
  rintro e w2 ⟨o2, rfl, hown2, hb2⟩
  have hl2 := frontL_len l
  have hs := hx1.size
  have ho := own_less hown2 hs
  clear hown2
  go_wp2_with fail
  go_ret
  exact ⟨o2, frontL l, rfl, hl2, ho, ⟨p1, hp1, hp2, hr1.keepb hb2⟩, hx1.trans (Bx.of_below hb2)⟩

set_option maxRecDepth 100000 in
set_option maxHeartbeats 2000000 in
theorem l71Some_any {B : Nat} {w : World} {g : Nat} {v : Value} {n : Nat} {p : Int} (h : Rd B w g v n p) (hp : 0 ≤ p) (hp' : p ≤ 800000) :
    Calls Try.prog 117 #[.pointer (some ⟨g, 0, none⟩)] w fun e w' => ∃ (o : Value) (f : List (Int × Int)), e = .returned o ∧ f.length ≤ 65 ∧ Own w' w.heap.size o f ∧ (∃ p' : Int, p ≤ p' ∧ p' ≤ p + 410 ∧ Rd B w' g v n p') ∧ Bx g w w' := by
  obtain ⟨i0, hi, hz0, hz1, hz2⟩ := info_parts infoT
  have hg := h.blk.lt
  go_enter Try.func117, Try.ntmps117
  go_wp2_with fail
  refine (l71Front_any h hp hp').mono ?_
  rintro e w1 ⟨o, f, rfl, hl, hown, ⟨p1, hp1, hp2, hr1⟩, hx1⟩
  have HO := (show Hid _ from hown)
  clear hown
  go_wp2_with fail
  refine (pick_any hr1 (by omega) (by omega) _ (by omega) (by omega)).mono ?_
  rintro e w2 ⟨k, rfl, hk0, hk1, hr2, hx2⟩
  have HO2 := (show Hid _ from own_keepx HO.out hx2 hg)
  have x2 := hx1.trans hx2
  clear HO hx1 hx2
  by_cases hk : k = 0
  · subst hk
    go_wp2_with fail
    refine (l71Odd_any hr2 (by omega) (by omega)).mono ?_
    rintro e w3 ⟨a, b, rfl, ha0, ha1, hb0, hb1, ⟨p2, hp3, hp4, hr3⟩, hx3⟩
    have hown := own_keepx HO2.out hx3 hg
    have x3 := x2.trans hx3
    have hsz := x3.size
    go_wp2_with (at_builtin; refine wpList_append_lies _ rfl _ _ 37 rfl w.heap.size 31 i0 (.agg #[.int .i64 0, .int .i64 0]) 2 16 Try.underlying37 hi hz0 hz1 hz2 rfl (by decide) _ _ _ rfl (hown.alloc _) ⟨w3.heap.size, 0, none⟩ 1 1 [.int .i64 a, .int .i64 b] rfl rfl (news2 _ _ _ _) (ones2 _ _) (by omega) (by unfold maxLen; omega) (by omega) (by simp; omega) (w3.heap.size + 1) (by simp) ?_; intro g3 cap w4 hown3 hgrow hat hlg)
    have hown4 : Own w4 w.heap.size (.slice (some ⟨g3, 0, none⟩) (f.length + 1) cap) (f ++ [(a, b)]) := by
      show w4.ownsRow _ _ _ _ _ _
      rw [cellsL_snoc]; simpa using hown3
    have hr4 : Rd B w4 g v n p2 := (hr3.keepb (bAlloc (Below.refl _ _) _)).grown hgrow (fun k e => by have := own_base hown k e; omega)
    have hx4 : Bx g w w4 := (x3.alloc _).grown hgrow (own_base hown)
    go_ret
    exact ⟨_, f ++ [(a, b)], rfl, by simp; omega, hown4, ⟨p2, by omega, by omega, hr4⟩, hx4⟩
  · have hkb : (k == 0) = false := by simpa using hk
    go_wp2_with fail
    go_ret
    exact ⟨_, f, rfl, by omega, HO2.out, ⟨_, by omega, by omega, hr2⟩, x2⟩

end Go.Proofs.Ytbmdfmboabfceaa
