/- What TimeLess of the program answers. -/
import Derived.Test.YtjlaeeccnbdghaaGreatGa1
import Derived.Deep.DeepCutAuto
import Derived.Deep.DrawnRows
import Derived.Deep.RegionHeld3
import Derived.BigRegion
/-! What TimeLess of the program answers. -/
namespace Go.Proofs.YtjlaeeccnbdghaaGreat
open Go.RowKit
attribute [local go_sem ↓] Go.wp_at_zero Go.wp_at_succ

set_option maxHeartbeats 8000000 in
theorem implLess_any (a b c d : Int) (w : World) :
    Calls Tryz.prog 68 #[tv a b, tv c d] w fun e w' => e = .returned (.bool (leB a b c d)) ∧ Below w.heap.size w w' := by
  have H : Hid (leB a b c d = (okB a b && okB c d && decide (a ≤ c) && decide (b ≤ d))) := rfl
  cases hs : okB a b
  · go_enter Tryz.func68, Tryz.ntmps68
    go_wp2_with fail
    refine (implOk_any _ _ _).mono ?_
    rintro e w1 ⟨rfl, hb1⟩
    go_wp2_with fail
    go_ret
    refine ⟨ret_bool (by rw [H.out]; simp [hs]), ?_⟩
    repeat' (first | (with_reducible exact Below.refl _ _) | (with_reducible assumption) | (with_reducible refine bStep ?_ (by with_reducible assumption)) | (with_reducible refine bAlloc ?_ _) | (with_reducible refine Below.drew ?_) | (with_reducible refine bDrewN ?_ _) | (with_reducible refine Below.setCell ?_ ?_ _) | (simp; done) | (simp; omega) | omega)
  · cases ht : okB c d
    · go_enter Tryz.func68, Tryz.ntmps68
      go_wp2_with fail
      refine (implOk_any _ _ _).mono ?_
      rintro e w1 ⟨rfl, hb1⟩
      obtain ⟨bs, bt⟩ := boxed2 hb1
      obtain ⟨t0, t1, _, _⟩ := bt.two
      go_wp2_with fail
      refine (implOk_any _ _ _).mono ?_
      rintro e w2 ⟨rfl, hb2⟩
      go_wp2_with fail
      go_ret
      refine ⟨ret_bool (by rw [H.out]; simp [ht]), ?_⟩
      repeat' (first | (with_reducible exact Below.refl _ _) | (with_reducible assumption) | (with_reducible refine bStep ?_ (by with_reducible assumption)) | (with_reducible refine bAlloc ?_ _) | (with_reducible refine Below.drew ?_) | (with_reducible refine bDrewN ?_ _) | (with_reducible refine Below.setCell ?_ ?_ _) | (simp; done) | (simp; omega) | omega)
    · go_enter Tryz.func68, Tryz.ntmps68
      go_wp2_with fail
      refine (implOk_any _ _ _).mono ?_
      rintro e w1 ⟨rfl, hb1⟩
      obtain ⟨bs, bt⟩ := boxed2 hb1
      obtain ⟨s0, s1, _, _⟩ := bs.two
      obtain ⟨t0, t1, _, _⟩ := bt.two
      go_wp2_with fail
      refine (implOk_any _ _ _).mono ?_
      rintro e w2 ⟨rfl, hb2⟩
      have bs2 := bs.keep hb2
      have bt2 := bt.keep hb2
      have ls := bs2.lt
      have lt := bt2.lt
      obtain ⟨x0, x1, _, _⟩ := bs2.two
      obtain ⟨y0, y1, _, _⟩ := bt2.two
      go_wp2_with fail
      go_cut [5, 6] (fun p q wc => ∃ g h : Nat, p = .pointer (some ⟨g, 0, none⟩) ∧ q = .pointer (some ⟨h, 0, none⟩) ∧ g ≠ h ∧ w2.heap.size ≤ g ∧ w2.heap.size ≤ h ∧ Bk wc g #[.int .i64 a, .int .i64 b] 88 ∧ Bk wc h #[.int .i64 c, .int .i64 d] 88 ∧ Below w2.heap.size w2 wc)
      case first =>
        go_region_held3 (fun w' => w'.cell? ⟨w.heap.size, 0, none⟩ = some (.int .i64 a) ∧ w'.cell? ⟨w.heap.size, 1, none⟩ = some (.int .i64 b) ∧ w'.cell? ⟨w.heap.size + 1, 0, none⟩ = some (.int .i64 c) ∧ w'.cell? ⟨w.heap.size + 1, 1, none⟩ = some (.int .i64 d)) (refine ⟨?_, ?_, ?_, ?_⟩ <;> repeat' (first | with_reducible assumption | with_reducible refine cell_drew ?_ | with_reducible refine cell_alloc ?_ | with_reducible refine cell_apart ?_ (by simp; omega))) (first | (go_at_call 66; refine (numbersOf_any _ _ _).mono ?_; rintro e w' ⟨rfl, rfl⟩))
        all_goals
          go_wp2_with fail
          go_meet
          case rel =>
            refine ⟨_, _, rfl, rfl, ?_, ?_, ?_, ?_, ?_, ?_⟩
            · first | omega | (simp; done) | (simp; omega)
            · first | omega | (simp; done) | (simp; omega)
            · first | omega | (simp; done) | (simp; omega)
            · repeat' (first | (with_reducible refine Bk.drew ?_) | (with_reducible refine Bk.drewN ?_ _) | (with_reducible refine Bk.new _ _ ?_; (first | with_reducible rfl | omega | (simp; done) | (simp; omega))) | (with_reducible refine Bk.alloc ?_ _) | (with_reducible refine Bk2.set01 ?_ _ _) | (with_reducible refine Bk2.drew ?_) | (with_reducible refine Bk2.new _ _ _ ?_; (first | with_reducible rfl | omega | (simp; done) | (simp; omega))) | (with_reducible refine Bk2.alloc ?_ _) | (with_reducible refine Bk2.keep ?_ (by with_reducible assumption)) | (with_reducible refine Bk.keep ?_ (by with_reducible assumption)))
            · repeat' (first | (with_reducible refine Bk.drew ?_) | (with_reducible refine Bk.drewN ?_ _) | (with_reducible refine Bk.new _ _ ?_; (first | with_reducible rfl | omega | (simp; done) | (simp; omega))) | (with_reducible refine Bk.alloc ?_ _) | (with_reducible refine Bk2.set01 ?_ _ _) | (with_reducible refine Bk2.drew ?_) | (with_reducible refine Bk2.new _ _ _ ?_; (first | with_reducible rfl | omega | (simp; done) | (simp; omega))) | (with_reducible refine Bk2.alloc ?_ _) | (with_reducible refine Bk2.keep ?_ (by with_reducible assumption)) | (with_reducible refine Bk.keep ?_ (by with_reducible assumption)))
            · repeat' (first | (with_reducible exact Below.refl _ _) | (with_reducible assumption) | (with_reducible refine bStep ?_ (by with_reducible assumption)) | (with_reducible refine bAlloc ?_ _) | (with_reducible refine Below.drew ?_) | (with_reducible refine bDrewN ?_ _) | (with_reducible refine Below.setCell ?_ ?_ _) | (simp; done) | (simp; omega) | omega)
      case rest =>
        obtain ⟨g, h, rfl, rfl, hgh, hg, hh, bg, bh, hbc⟩ := hcut
        obtain ⟨g0, g1, _, _⟩ := bg.two
        obtain ⟨h0, h1, _, _⟩ := bh.two
        by_cases c1 : a ≤ c
        · by_cases c2 : b ≤ d
          · go_wp2_with fail
            refine wp_loop_rounds 3 ?_
            rw [rounds_succ]
            go_wp2_with fail
            go_quiet (fail)
            go_wp2_with fail
            rw [rounds_succ]
            go_wp2_with fail
            go_quiet (fail)
            go_wp2_with fail
            rw [rounds_succ]
            go_wp2_with fail
            go_ret
            refine ⟨ret_bool (by rw [H.out]; simp [*]), ?_⟩
            repeat' (first | (with_reducible exact Below.refl _ _) | (with_reducible assumption) | (with_reducible refine bStep ?_ (by with_reducible assumption)) | (with_reducible refine bAlloc ?_ _) | (with_reducible refine Below.drew ?_) | (with_reducible refine bDrewN ?_ _) | (with_reducible refine Below.setCell ?_ ?_ _) | (simp; done) | (simp; omega) | omega)
          · go_wp2_with fail
            refine wp_loop_rounds 3 ?_
            rw [rounds_succ]
            go_wp2_with fail
            go_quiet (fail)
            go_wp2_with fail
            rw [rounds_succ]
            go_wp2_with fail
            go_quiet (fail)
            go_wp2_with fail
            go_ret
            refine ⟨ret_bool (by rw [H.out]; simp; omega), ?_⟩
            repeat' (first | (with_reducible exact Below.refl _ _) | (with_reducible assumption) | (with_reducible refine bStep ?_ (by with_reducible assumption)) | (with_reducible refine bAlloc ?_ _) | (with_reducible refine Below.drew ?_) | (with_reducible refine bDrewN ?_ _) | (with_reducible refine Below.setCell ?_ ?_ _) | (simp; done) | (simp; omega) | omega)
        · go_wp2_with fail
          refine wp_loop_rounds 3 ?_
          rw [rounds_succ]
          go_wp2_with fail
          go_quiet (fail)
          go_wp2_with fail
          go_ret
          refine ⟨ret_bool (by rw [H.out]; simp; omega), ?_⟩
          repeat' (first | (with_reducible exact Below.refl _ _) | (with_reducible assumption) | (with_reducible refine bStep ?_ (by with_reducible assumption)) | (with_reducible refine bAlloc ?_ _) | (with_reducible refine Below.drew ?_) | (with_reducible refine bDrewN ?_ _) | (with_reducible refine Below.setCell ?_ ?_ _) | (simp; done) | (simp; omega) | omega)
end Go.Proofs.YtjlaeeccnbdghaaGreat

/-! What TimeJoin answers, of the program and of its model: contracts. -/
namespace Go.Proofs.YtjlaeeccnbdghaaGreat
open Go.RowKit
attribute [local go_sem ↓] Go.wp_at_zero Go.wp_at_succ

def jnA (a b c d : Int) : Int := if okB a b && okB c d then max a c else 0
def jnB (a b c d : Int) : Int := if okB a b && okB c d then max b d else 0

end Go.Proofs.YtjlaeeccnbdghaaGreat

/-! What TimeMeet answers, of the program and of its model: contracts. -/
namespace Go.Proofs.YtjlaeeccnbdghaaGreat
open Go.RowKit
attribute [local go_sem ↓] Go.wp_at_zero Go.wp_at_succ

def mtA (a b c d : Int) : Int := if okB a b && okB c d then min a c else 0
def mtB (a b c d : Int) : Int := if okB a b && okB c d then min b d else 0

end Go.Proofs.YtjlaeeccnbdghaaGreat
