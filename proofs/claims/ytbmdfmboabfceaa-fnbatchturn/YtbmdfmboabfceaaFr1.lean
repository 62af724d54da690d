/- What FrontOk answers, of the program and of its model: contracts. -/
import Derived.Test.YtbmdfmboabfceaaFr0
namespace Go.Proofs.Ytbmdfmboabfceaa
open Go.RowKit

theorem upto_one {l : List (Int × Int)} (h : stepOk l 0 = true) {j : Nat} (hj : j < 1) : stepOk l j = true := by
  obtain rfl : j = 0 := by omega
  exact h
theorem upto_succ {l : List (Int × Int)} {k : Nat} (h : ∀ j, j < k → stepOk l j = true) (hk : stepOk l k = true) {j : Nat} (hj : j < k + 1) : stepOk l j = true := by
  by_cases e : j = k
  · subst e; exact hk
  · exact h j (by omega)

set_option maxHeartbeats 4000000 in
theorem implFrontOk_any (v : Value) (l : List (Int × Int)) (w : World) (h : Ts w v l) :
    Calls Try.prog 118 #[v] w fun e w' => e = .returned (.bool (fokB l)) ∧ Below w.heap.size w w' := by
  obtain ⟨a, cap, rfl, hc, hm, hn, hcells⟩ := h
  unfold maxLen at hm
  have HC := (show Hid _ from hcells)
  clear hcells
  go_enter Try.func118, Try.ntmps118
  go_wp2_with fail
  go_loopw [7] (fun i wr => ∃ k : Nat, k ≤ l.length ∧ i = .int .i64 k ∧ (∀ j, j < k → stepOk l j = true) ∧ Below w.heap.size w wr) (fun i _ => l.length - (intOf i).toNat)
  case atStart => exact ⟨0, by omega, rfl, fun j hj => by omega, Below.refl _ _⟩
  case round =>
    obtain ⟨k, hk, rfl, hall, hb⟩ := hrel
    by_cases hlt : k < l.length
    · obtain ⟨g, off, rfl, hg, c0, c1⟩ := HC.out k hlt
      generalize hX : tA l k = X at *
      generalize hY : tB l k = Y at *
      have EX : Hid (tA l k = X) := hX
      have EY : Hid (tB l k = Y) := hY
      clear hX hY
      have d0 := cell_below hb c0
      have d1 := cell_below hb c1
      have HA := (show Hid _ from hall)
      clear hall c0 c1
      go_wp2_with fail
      refine (implOk_any _ _ _).mono ?_
      rintro e w1 ⟨rfl, hb1⟩
      have bt := (Bk.new (w := wr) #[.int .i64 X, .int .i64 Y] 31 rfl).keep hb1
      have hbw : Below w.heap.size w w1 := by
        repeat' (first | (with_reducible exact Below.refl _ _) | (with_reducible assumption) | (with_reducible refine bStep ?_ (by with_reducible assumption)) | (with_reducible refine bAlloc ?_ _) | (with_reducible refine Below.drew ?_) | (with_reducible refine bDrewN ?_ _) | (with_reducible refine Below.setCell ?_ ?_ _) | (simp; done) | (simp; omega) | omega)
      cases ho : okB X Y
      · have hfin : Hid (fokB l = false) := fok_false hlt (by simp [stepOk, EX.out, EY.out, ho])
        go_wp2_with fail
        go_ret
        exact ⟨ret_bool hfin.out.symm, hbw⟩
      · obtain ⟨t0, t1, _, _⟩ := bt.two
        rcases k with _ | m
        · have hst : stepOk l 0 = true := by rw [stepOk_zero EX.out EY.out]; exact ho
          go_wp2_with fail
          go_quiet (fail)
          go_wp2_with fail
          exact ⟨⟨1, by omega, rfl, fun j hj => upto_one hst hj, bDrewN hbw _⟩, by simp [intOf]; omega⟩
        · have hm1 : m < l.length := by omega
          have im0 : (0 : Int) ≤ (m : Int) := by omega
          have im1 : (m : Int) < (l.length : Int) := by omega
          have im2 : (l.length : Int) ≤ 2097152 := by omega
          have iw : IntKind.i64.wrap (m : Int) = (m : Int) := by rw [IntKind.wrap_i64]; omega
          obtain ⟨g', off', he, hg', p0, p1⟩ := HC.out m hm1
          simp at he
          obtain ⟨rfl, rfl⟩ := he
          generalize hX' : tA l m = X' at *
          generalize hY' : tB l m = Y' at *
          have hst := stepOk_succ EX.out EY.out hX' hY'
          have HST := (show Hid _ from hst)
          clear hX' hY' hst
          have q0 := cell_below hbw p0
          have q1 := cell_below hbw p1
          clear p0 p1
          by_cases h1 : X' < X
          · by_cases h2 : Y < Y'
            · have hok : Hid (stepOk l (m + 1) = true) := by show _ = true; rw [HST.out, ho]; simp [h1, h2]
              go_wp2_with fail
              go_quiet (fail)
              go_wp2_with fail
              go_roundw
              case rel => exact ⟨m + 1 + 1, by omega, by go_num, fun j hj => upto_succ HA.out hok.out hj, bDrewN hbw _⟩
              case measure => simp [intOf]; omega
            · have hfin : Hid (fokB l = false) := fok_false hlt (by rw [HST.out]; simp [h2])
              go_wp2_with fail
              go_quiet (fail)
              go_wp2_with fail
              go_ret
              exact ⟨ret_bool hfin.out.symm, bDrewN hbw _⟩
          · have hfin : Hid (fokB l = false) := fok_false hlt (by rw [HST.out]; simp [h1])
            go_wp2_with fail
            go_quiet (fail)
            go_wp2_with fail
            go_ret
            exact ⟨ret_bool hfin.out.symm, bDrewN hbw _⟩
    · have hfin : Hid (fokB l = true) := fok_true fun j hj => hall j (by omega)
      clear hall
      go_wp2_with fail
      go_ret
      exact ⟨ret_bool hfin.out.symm, hb⟩
end Go.Proofs.Ytbmdfmboabfceaa
