/- What the drawing of fronts answers: contracts. -/
import Derived.Test.YtpmkhempkblokaaFr10
import Derived.Test.YtpmkhempkblokaaDraw2
namespace Go.Proofs.Ytpmkhempkblokaa
open Go.RowKit
theorem frontL_len (l : List (Int × Int)) : (frontL l).length ≤ 64 := by
  unfold frontL; split
  · exact frTo_len l 64
  · simp

set_option maxHeartbeats 1000000 in
theorem l71Front_any {B : Nat} {w : World} {g : Nat} {v : Value} {n : Nat} {p : Int} (h : Rd B w g v n p) (hp : 0 ≤ p) (hp' : p ≤ 800000) :
    Calls Try.prog 69 #[.pointer (some ⟨g, 0, none⟩)] w fun e w' => ∃ (o : Value) (f : List (Int × Int)), e = .returned o ∧ f.length ≤ 64 ∧ Own w' w.heap.size o f ∧ (∃ p' : Int, p ≤ p' ∧ p' ≤ p + 400 ∧ Rd B w' g v n p') ∧ Bx g w w' := by
  go_enter Try.func69, Try.ntmps69
  go_wp2_with fail
  refine (l71Times_any h hp hp' _ (by omega) (by omega)).mono ?_
  rintro e w1 ⟨o, l, rfl, hl, hown, ⟨p1, hp1, hp2, hr1⟩, hx1⟩
  have ts := hown.ts (by omega)
  clear hown
  go_wp2_with fail
  refine (specFrontOf_any o l w1 ts).mono ?_
  rintro e w2 ⟨o2, rfl, hown2, hb2⟩
  have hl2 := frontL_len l
  have hs := hx1.size
  have ho := own_less hown2 hs
  clear hown2
  go_wp2_with fail
  go_ret
  exact ⟨o2, frontL l, rfl, hl2, ho, ⟨p1, hp1, hp2, hr1.keepb hb2⟩, hx1.trans (Bx.of_below hb2)⟩

set_option maxRecDepth 100000 in
set_option maxHeartbeats 2000000 in
theorem l71Some_any {B : Nat} {w : World} {g : Nat} {v : Value} {n : Nat} {p : Int} (h : Rd B w g v n p) (hp : 0 ≤ p) (hp' : p ≤ 800000) :
    Calls Try.prog 55 #[.pointer (some ⟨g, 0, none⟩)] w fun e w' => ∃ (o : Value) (f : List (Int × Int)), e = .returned o ∧ f.length ≤ 65 ∧ Own w' w.heap.size o f ∧ (∃ p' : Int, p ≤ p' ∧ p' ≤ p + 410 ∧ Rd B w' g v n p') ∧ Bx g w w' := by
  obtain ⟨i0, hi, hz0, hz1, hz2⟩ := info_parts infoT
  have hg := h.blk.lt
  go_enter Try.func55, Try.ntmps55
  go_wp2_with fail
  refine (l71Front_any h hp hp').mono ?_
  rintro e w1 ⟨o, f, rfl, hl, hown, ⟨p1, hp1, hp2, hr1⟩, hx1⟩
  have HO := (show Hid _ from hown)
  clear hown
  go_wp2_with fail
  refine (pick_any hr1 (by omega) (by omega) _ (by omega) (by omega)).mono ?_
  rintro e w2 ⟨k, rfl, hk0, hk1, hr2, hx2⟩
  have HO2 := (show Hid _ from own_keepx HO.out hx2 hg)
  have x2 := hx1.trans hx2
  clear HO hx1 hx2
  by_cases hk : k = 0
  · subst hk
    go_wp2_with fail
    refine (l71Odd_any hr2 (by omega) (by omega)).mono ?_
    rintro e w3 ⟨a, b, rfl, ha0, ha1, hb0, hb1, ⟨p2, hp3, hp4, hr3⟩, hx3⟩
    have hown := own_keepx HO2.out hx3 hg
    have x3 := x2.trans hx3
    have hsz := x3.size
    go_wp2_with (at_builtin; refine wpList_append_lies _ rfl _ _ 23 rfl w.heap.size 29 i0 (.agg #[.int .i64 0, .int .i64 0]) 2 16 Try.underlying23 hi hz0 hz1 hz2 rfl (by decide) _ _ _ rfl (hown.alloc _) ⟨w3.heap.size, 0, none⟩ 1 1 [.int .i64 a, .int .i64 b] rfl rfl (news2 _ _ _ _) (ones2 _ _) (by omega) (by unfold maxLen; omega) (by omega) (by simp; omega) (w3.heap.size + 1) (by simp) ?_; intro g3 cap w4 hown3 hgrow hat hlg)
    have hown4 : Own w4 w.heap.size (.slice (some ⟨g3, 0, none⟩) (f.length + 1) cap) (f ++ [(a, b)]) := by
      show w4.ownsRow _ _ _ _ _ _
      rw [cellsL_snoc]; simpa using hown3
    have hr4 : Rd B w4 g v n p2 := (hr3.keepb (bAlloc (Below.refl _ _) _)).grown hgrow (fun k e => by have := own_base hown k e; omega)
    have hx4 : Bx g w w4 := (x3.alloc _).grown hgrow (own_base hown)
    go_ret
    exact ⟨_, f ++ [(a, b)], rfl, by simp; omega, hown4, ⟨p2, by omega, by omega, hr4⟩, hx4⟩
  · have hkb : (k == 0) = false := by simpa using hk
    go_wp2_with fail
    go_ret
    exact ⟨_, f, rfl, by omega, HO2.out, ⟨_, by omega, by omega, hr2⟩, x2⟩

set_option maxHeartbeats 2000000 in
theorem drawCovers_any (a : Option Addr) (len cap : Nat) (w : World) (h : Src w (.slice a len cap) len) :
    Calls Try.prog 25 #[.slice a len cap] w fun e w' => ∃ (o : Value) (f : List (Int × Int)) (x y : Int), e = .returned (.tuple #[o, tv x y]) ∧ f.length ≤ 65 ∧ Own w' w.heap.size o f ∧ Below w.heap.size w w' := by
  have bR : Bk (w.alloc (.cells #[.int .i64 0, .int .i64 0] 29)) w.heap.size #[.int .i64 0, .int .i64 0] 29 := Bk.new _ _ rfl
  have hb0 : Below w.heap.size w (w.alloc (.cells #[.int .i64 0, .int .i64 0] 29)) := bAlloc (Below.refl _ _) _
  have hsz : (w.alloc (.cells #[.int .i64 0, .int .i64 0] 29)).heap.size = w.heap.size + 1 := by simp
  go_enter Try.func25, Try.ntmps25
  go_wp2_with fail
  generalize (w.alloc (.cells #[.int .i64 0, .int .i64 0] 29)) = W at *
  refine (l6Open_any _ _ _ _ (h.keep hb0)).mono ?_
  rintro e w1 ⟨rfl, ⟨v, n, hr1⟩, hbw⟩
  have b1 := bR.keep hbw
  have hb1 := bStep hb0 hbw
  have HS : Hid (W.heap.size = w.heap.size + 1) := hsz
  clear hsz bR hb0 h
  have lg := hr1.blk.lt
  go_wp2_with fail
  refine (l71Some_any hr1 (by omega) (by omega)).mono ?_
  rintro e w2 ⟨o, f, rfl, hl, hown, ⟨p1, hp1, hp2, hr2⟩, hx2⟩
  have hsz := HS.out
  have b2 := b1.keepx hx2 (by omega)
  have hb2 : Below w.heap.size w w2 := hx2.below hb1 hb1.size (by omega)
  have HO := (show Hid _ from hown)
  clear hsz hown
  go_wp2_with fail
  refine (l71Odd_any hr2 (by omega) (by omega)).mono ?_
  rintro e w3 ⟨x, y, rfl, _, _, _, _, ⟨p2, hp3, hp4, hr3⟩, hx3⟩
  have hsz := HS.out
  have b3 := b2.keepx hx3 (by omega)
  have hb3 : Below w.heap.size w w3 := hx3.below hb2 hb2.size (by omega)
  have own3 := own_keepx HO.out hx3 (by omega)
  have n1 : W.heap.size ≤ w1.heap.size := hbw.size
  obtain ⟨r0, r1, f0, f1⟩ := b3.two
  have HO3 := (show Hid _ from own3)
  clear own3 hsz
  go_wp2_with fail
  refine bodyPost_ret (by simp [results, Try.results25, go_sem, set1a b3, set2b b3]; try rfl) rfl ?_
  refine ⟨o, f, x, y, rfl, hl, ?_, (hb3.setCell (by simp) _).setCell (by simp) _⟩
  have hsz := HS.out
  have : Own ((w3.setCell ⟨w.heap.size, 0, none⟩ (.int .i64 x)).setCell ⟨w.heap.size, 1, none⟩ (.int .i64 y)) w1.heap.size o f := by
    refine own_move HO3.out fun k hk hs => ?_
    rw [Below.heap_setCell _ _ _ _ (by simp; omega), Below.heap_setCell _ _ _ _ (by simp; omega)]
  exact own_less this (by omega)

set_option maxHeartbeats 2000000 in
theorem drawMove_any (a : Option Addr) (len cap : Nat) (w : World) (h : Src w (.slice a len cap) len) :
    Calls Try.prog 28 #[.slice a len cap] w fun e w' => ∃ (o : Value) (f : List (Int × Int)) (x y : Int), e = .returned (.tuple #[o, tv x y]) ∧ f.length ≤ 65 ∧ Own w' w.heap.size o f ∧ Below w.heap.size w w' := by
  have bR : Bk (w.alloc (.cells #[.int .i64 0, .int .i64 0] 29)) w.heap.size #[.int .i64 0, .int .i64 0] 29 := Bk.new _ _ rfl
  have hb0 : Below w.heap.size w (w.alloc (.cells #[.int .i64 0, .int .i64 0] 29)) := bAlloc (Below.refl _ _) _
  have hsz : (w.alloc (.cells #[.int .i64 0, .int .i64 0] 29)).heap.size = w.heap.size + 1 := by simp
  go_enter Try.func28, Try.ntmps28
  go_wp2_with fail
  refine (drawCovers_any _ _ _ _ (h.keep hb0)).mono ?_
  rintro e w1 ⟨o, f, x, y, rfl, hl, hown, hb1⟩
  rw [hsz] at hown
  have b1 := bR.keep hb1
  have hbw := bStep hb0 hb1
  have HO := (show Hid _ from hown)
  clear hown hsz
  obtain ⟨r0, r1, f0, f1⟩ := b1.two
  go_wp2_with fail
  refine bodyPost_ret (by simp [results, Try.results28, go_sem, set1a b1, set2b b1]; try rfl) rfl ?_
  refine ⟨o, f, x, y, rfl, hl, ?_, (hbw.setCell (by simp) _).setCell (by simp) _⟩
  refine own_less (own_move HO.out fun k hk hs => ?_) (by omega : w.heap.size ≤ w.heap.size + 1)
  rw [Below.heap_setCell _ _ _ _ (by simp; omega), Below.heap_setCell _ _ _ _ (by simp; omega)]
end Go.Proofs.Ytpmkhempkblokaa
