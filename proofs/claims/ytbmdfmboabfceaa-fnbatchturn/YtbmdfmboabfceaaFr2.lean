/- What FrontOk of the model answers: a contract. -/
import Derived.Test.YtbmdfmboabfceaaFr1
namespace Go.Proofs.Ytbmdfmboabfceaa
open Go.RowKit
theorem specOk_eq {a b : Int} {r : Bool} (h : okB a b = r) (w : World) : Calls Try.prog 67 #[tv a b] w fun e w' => e = .returned (.bool r) ∧ Below w.heap.size w w' := by
  rw [← h]; exact specOk_any a b w

set_option maxHeartbeats 4000000 in
theorem specFrontOk_any (v : Value) (l : List (Int × Int)) (w : World) (h : Ts w v l) :
    Calls Try.prog 58 #[v] w fun e w' => e = .returned (.bool (fokB l)) ∧ Below w.heap.size w w' := by
  obtain ⟨a, cap, rfl, hc, hm, hn, hcells⟩ := h
  unfold maxLen at hm
  have HC := (show Hid _ from hcells)
  clear hcells
  go_enter Try.func58, Try.ntmps58
  go_wp2_with fail
  go_loopw [3] (fun i wr => ∃ k : Nat, k ≤ l.length ∧ i = .int .i64 k ∧ (∀ j, j < k → stepOk l j = true) ∧ Below w.heap.size w wr) (fun i _ => l.length - (intOf i).toNat)
  case atStart => exact ⟨0, by omega, rfl, fun j hj => by omega, Below.refl _ _⟩
  case round =>
    obtain ⟨k, hk, rfl, hall, hb⟩ := hrel
    by_cases hlt : k < l.length
    · obtain ⟨g, off, rfl, hg, c0, c1⟩ := HC.out k hlt
      generalize hX : tA l k = X at *
      generalize hY : tB l k = Y at *
      have EX : Hid (tA l k = X) := hX
      have EY : Hid (tB l k = Y) := hY
      clear hX hY
      have HA := (show Hid _ from hall)
      clear hall
      have hne := bel_some wr
      have ik : ((k : Int) < (l.length : Int)) := by omega
      cases ho : okB X Y
      · have d0 : ∀ p : Bel wr, p.ww.cell? ⟨g, off + k * 2, none⟩ = some (.int .i64 X) := fun p => cell_below p.below (cell_below hb c0)
        have d1 : ∀ p : Bel wr, p.ww.cell? ⟨g, off + k * 2 + 1, none⟩ = some (.int .i64 Y) := fun p => cell_below p.below (cell_below hb c1)
        have hfin : Hid (fokB l = false) := fok_false hlt (by simp [stepOk, EX.out, EY.out, ho])
        clear c0 c1
        go_wp2_with fail
        (refine wp_region_bel (by kernel_rfl) (by kernel_rfl) ?_; (repeat (go_big_quiet_step ((first | (go_at_call 67; exact calls_bel (specOk_eq (by with_reducible assumption) _)))))); refine wpQuiet_nil ?_)
        intro w1 hw1
        replace hw1 := bel_out hw1
        go_wp2_with fail
        go_ret
        refine ⟨ret_bool hfin.out.symm, ?_⟩
        repeat' (first | (with_reducible exact Below.refl _ _) | (with_reducible assumption) | (with_reducible refine bStep ?_ (by with_reducible assumption)) | (with_reducible refine bAlloc ?_ _) | (with_reducible refine Below.drew ?_) | (with_reducible refine bDrewN ?_ _) | (with_reducible refine Below.setCell ?_ ?_ _) | (simp; done) | (simp; omega) | omega)
      · rcases k with _ | m
        · have hst : stepOk l 0 = true := by rw [stepOk_zero EX.out EY.out]; exact ho
          simp only [Nat.zero_mul, Nat.add_zero] at c0 c1
          have d0 : ∀ p : Bel wr, p.ww.cell? ⟨g, off, none⟩ = some (.int .i64 X) := fun p => cell_below p.below (cell_below hb c0)
          have d1 : ∀ p : Bel wr, p.ww.cell? ⟨g, off + 1, none⟩ = some (.int .i64 Y) := fun p => cell_below p.below (cell_below hb c1)
          clear c0 c1
          go_wp2_with fail
          (refine wp_region_bel (by kernel_rfl) (by kernel_rfl) ?_; (repeat (go_big_quiet_step ((first | (go_at_call 67; exact calls_bel (specOk_eq (by with_reducible assumption) _)))))); refine wpQuiet_nil ?_)
          intro w1 hw1
          replace hw1 := bel_out hw1
          have hbw := bStep hb hw1
          go_wp2_with fail
          exact ⟨⟨1, by omega, rfl, fun j hj => upto_one hst hj, hbw⟩, by simp [intOf]; omega⟩
        · have hm1 : m < l.length := by omega
          have im0 : (0 : Int) ≤ (m : Int) := by omega
          have im1 : (m : Int) < (l.length : Int) := by omega
          have im2 : (l.length : Int) ≤ 2097152 := by omega
          have iw : IntKind.i64.wrap (m : Int) = (m : Int) := by rw [IntKind.wrap_i64]; omega
          obtain ⟨g', off', he, hg', p0, p1⟩ := HC.out m hm1
          simp at he
          obtain ⟨rfl, rfl⟩ := he
          generalize hX' : tA l m = X' at *
          generalize hY' : tB l m = Y' at *
          have hst := stepOk_succ EX.out EY.out hX' hY'
          have HST := (show Hid _ from hst)
          clear hX' hY' hst
          have d0 : ∀ p : Bel wr, p.ww.cell? ⟨g, off + (m + 1) * 2, none⟩ = some (.int .i64 X) := fun p => cell_below p.below (cell_below hb c0)
          have d1 : ∀ p : Bel wr, p.ww.cell? ⟨g, off + (m + 1) * 2 + 1, none⟩ = some (.int .i64 Y) := fun p => cell_below p.below (cell_below hb c1)
          have e0 : ∀ p : Bel wr, p.ww.cell? ⟨g, off + m * 2, none⟩ = some (.int .i64 X') := fun p => cell_below p.below (cell_below hb p0)
          have e1 : ∀ p : Bel wr, p.ww.cell? ⟨g, off + m * 2 + 1, none⟩ = some (.int .i64 Y') := fun p => cell_below p.below (cell_below hb p1)
          clear c0 c1 p0 p1
          by_cases h1 : X' < X
          · by_cases h2 : Y < Y'
            · have hok : Hid (stepOk l (m + 1) = true) := by show _ = true; rw [HST.out, ho]; simp [h1, h2]
              have n1 : decide (X ≤ X') = false := by simp; omega
              have n2 : decide (Y' ≤ Y) = false := by simp; omega
              go_wp2_with fail
              (refine wp_region_bel (by kernel_rfl) (by kernel_rfl) ?_; (repeat (go_big_quiet_step ((first | (go_at_call 67; exact calls_bel (specOk_eq (by with_reducible assumption) _)))))); refine wpQuiet_nil ?_)
              intro w1 hw1
              replace hw1 := bel_out hw1
              have hbw := bStep hb hw1
              go_wp2_with fail
              go_roundw
              case rel => exact ⟨m + 1 + 1, by omega, by go_num, fun j hj => upto_succ HA.out hok.out hj, hbw⟩
              case measure => simp [intOf]; omega
            · have hfin : Hid (fokB l = false) := fok_false hlt (by rw [HST.out]; simp [h2])
              have n1 : decide (X ≤ X') = false := by simp; omega
              have n2 : decide (Y' ≤ Y) = true := by simp; omega
              go_wp2_with fail
              (refine wp_region_bel (by kernel_rfl) (by kernel_rfl) ?_; (repeat (go_big_quiet_step ((first | (go_at_call 67; exact calls_bel (specOk_eq (by with_reducible assumption) _)))))); refine wpQuiet_nil ?_)
              intro w1 hw1
              replace hw1 := bel_out hw1
              go_wp2_with fail
              go_ret
              refine ⟨ret_bool hfin.out.symm, ?_⟩
              repeat' (first | (with_reducible exact Below.refl _ _) | (with_reducible assumption) | (with_reducible refine bStep ?_ (by with_reducible assumption)) | (with_reducible refine bAlloc ?_ _) | (with_reducible refine Below.drew ?_) | (with_reducible refine bDrewN ?_ _) | (with_reducible refine Below.setCell ?_ ?_ _) | (simp; done) | (simp; omega) | omega)
          · have hfin : Hid (fokB l = false) := fok_false hlt (by rw [HST.out]; simp [h1])
            go_wp2_with fail
            (refine wp_region_bel (by kernel_rfl) (by kernel_rfl) ?_; (repeat (go_big_quiet_step ((first | (go_at_call 67; exact calls_bel (specOk_eq (by with_reducible assumption) _)))))); refine wpQuiet_nil ?_)
            intro w1 hw1
            replace hw1 := bel_out hw1
            go_wp2_with fail
            go_ret
            refine ⟨ret_bool hfin.out.symm, ?_⟩
            repeat' (first | (with_reducible exact Below.refl _ _) | (with_reducible assumption) | (with_reducible refine bStep ?_ (by with_reducible assumption)) | (with_reducible refine bAlloc ?_ _) | (with_reducible refine Below.drew ?_) | (with_reducible refine bDrewN ?_ _) | (with_reducible refine Below.setCell ?_ ?_ _) | (simp; done) | (simp; omega) | omega)
    · have hfin : Hid (fokB l = true) := fok_true fun j hj => hall j (by omega)
      clear hall
      go_wp2_with fail
      go_ret
      exact ⟨ret_bool hfin.out.symm, hb⟩
end Go.Proofs.Ytbmdfmboabfceaa
