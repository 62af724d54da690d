/- What TimeLess, TimeJoin and TimeMeet answer, of the program and of its model: contracts. -/
import Derived.Test.YtbmdfmboabfceaaTimeA
import Derived.Deep.DeepCutAuto
import Derived.Deep.DrawnRows
import Derived.Deep.RegionHeld3
namespace Go.Proofs.Ytbmdfmboabfceaa
open Go.RowKit
attribute [local go_sem ↓] Go.wp_at_zero Go.wp_at_succ

def leB (a b c d : Int) : Bool := okB a b && okB c d && decide (a ≤ c) && decide (b ≤ d)

set_option maxHeartbeats 400000 in
theorem specLess_any (a b c d : Int) (w : World) :
    Calls Try.prog 129 #[tv a b, tv c d] w fun e w' => e = .returned (.bool (leB a b c d)) ∧ Below w.heap.size w w' := by
  have H : Hid (leB a b c d = (okB a b && okB c d && decide (a ≤ c) && decide (b ≤ d))) := rfl
  cases hs : okB a b
  · go_enter Try.func129, Try.ntmps129
    go_wp2_with fail
    refine (specOk_any _ _ _).mono ?_
    rintro e w1 ⟨rfl, hb1⟩
    go_wp2_with fail
    go_ret
    refine ⟨ret_bool (by rw [H.out]; simp [hs]), ?_⟩
    repeat' (first | (with_reducible exact Below.refl _ _) | (with_reducible assumption) | (with_reducible refine bStep ?_ (by with_reducible assumption)) | (with_reducible refine bAlloc ?_ _) | (with_reducible refine Below.drew ?_) | (with_reducible refine bDrewN ?_ _) | (with_reducible refine Below.setCell ?_ ?_ _) | (simp; done) | (simp; omega) | omega)
  · cases ht : okB c d
    · go_enter Try.func129, Try.ntmps129
      go_wp2_with fail
      refine (specOk_any _ _ _).mono ?_
      rintro e w1 ⟨rfl, hb1⟩
      obtain ⟨bs, bt⟩ := boxed2 hb1
      obtain ⟨t0, t1, _, _⟩ := bt.two
      go_wp2_with fail
      refine (specOk_any _ _ _).mono ?_
      rintro e w2 ⟨rfl, hb2⟩
      go_wp2_with fail
      go_ret
      refine ⟨ret_bool (by rw [H.out]; simp [ht]), ?_⟩
      repeat' (first | (with_reducible exact Below.refl _ _) | (with_reducible assumption) | (with_reducible refine bStep ?_ (by with_reducible assumption)) | (with_reducible refine bAlloc ?_ _) | (with_reducible refine Below.drew ?_) | (with_reducible refine bDrewN ?_ _) | (with_reducible refine Below.setCell ?_ ?_ _) | (simp; done) | (simp; omega) | omega)
    · by_cases h1 : a ≤ c
      · by_cases h2 : b ≤ d
        all_goals
          go_enter Try.func129, Try.ntmps129
          go_wp2_with fail
          refine (specOk_any _ _ _).mono ?_
          rintro e w1 ⟨rfl, hb1⟩
          obtain ⟨bs, bt⟩ := boxed2 hb1
          obtain ⟨s0, s1, _, _⟩ := bs.two
          obtain ⟨t0, t1, _, _⟩ := bt.two
          go_wp2_with fail
          refine (specOk_any _ _ _).mono ?_
          rintro e w2 ⟨rfl, hb2⟩
          obtain ⟨x0, x1, _, _⟩ := (bs.keep hb2).two
          obtain ⟨y0, y1, _, _⟩ := (bt.keep hb2).two
          go_wp2_with fail
          go_ret
          refine ⟨ret_bool (by rw [H.out]; simp [*]), ?_⟩
          repeat' (first | (with_reducible exact Below.refl _ _) | (with_reducible assumption) | (with_reducible refine bStep ?_ (by with_reducible assumption)) | (with_reducible refine bAlloc ?_ _) | (with_reducible refine Below.drew ?_) | (with_reducible refine bDrewN ?_ _) | (with_reducible refine Below.setCell ?_ ?_ _) | (simp; done) | (simp; omega) | omega)
      · go_enter Try.func129, Try.ntmps129
        go_wp2_with fail
        refine (specOk_any _ _ _).mono ?_
        rintro e w1 ⟨rfl, hb1⟩
        obtain ⟨bs, bt⟩ := boxed2 hb1
        obtain ⟨s0, s1, _, _⟩ := bs.two
        obtain ⟨t0, t1, _, _⟩ := bt.two
        go_wp2_with fail
        refine (specOk_any _ _ _).mono ?_
        rintro e w2 ⟨rfl, hb2⟩
        obtain ⟨x0, x1, _, _⟩ := (bs.keep hb2).two
        obtain ⟨y0, y1, _, _⟩ := (bt.keep hb2).two
        go_wp2_with fail
        go_ret
        refine ⟨ret_bool (by rw [H.out]; simp; omega), ?_⟩
        repeat' (first | (with_reducible exact Below.refl _ _) | (with_reducible assumption) | (with_reducible refine bStep ?_ (by with_reducible assumption)) | (with_reducible refine bAlloc ?_ _) | (with_reducible refine Below.drew ?_) | (with_reducible refine bDrewN ?_ _) | (with_reducible refine Below.setCell ?_ ?_ _) | (simp; done) | (simp; omega) | omega)
end Go.Proofs.Ytbmdfmboabfceaa
