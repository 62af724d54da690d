/- What RowsOk answers, of the program and of its model: contracts. -/
import Derived.Test.YtbmdfmboabfceaaBa2
import Derived.Test.YtbmdfmboabfceaaFr2
namespace Go.Proofs.Ytbmdfmboabfceaa
open Go.RowKit

theorem l6In_eq {n lo hi : Int} {r : Bool} (h : inB n lo hi = r) (w : World) : Calls Try.prog 131 #[.int .i64 n, .int .i64 lo, .int .i64 hi] w fun e w' => e = .returned (.bool r) ∧ w' = w := by
  rw [← h]; exact l6In_any n lo hi w
theorem implOk_is {a b : Int} {r : Bool} (h : okB a b = r) (w : World) : Calls Try.prog 112 #[tv a b] w fun e w' => e = .returned (.bool r) ∧ Below w.heap.size w w' := by
  rw [← h]; exact implOk_any a b w
set_option maxHeartbeats 2000000 in
theorem specRow_any (k v a b d : Int) (w : World) :
    Calls Try.prog 103 #[rv k v a b d] w fun e w' => e = .returned (.bool (rwOkB (((k, v), (a, b)), d))) ∧ Below w.heap.size w w' := by
  have H : Hid (rwOkB (((k, v), (a, b)), d) = (inB k 0 3 && inB v 0 99 && okB a b && inB d (-99999) 99999)) := rfl
  have bk := Bk.new (w := w) #[.int .i64 k, .int .i64 v, .int .i64 a, .int .i64 b, .int .i64 d] 33 rfl
  have hb0 : Below w.heap.size w (w.alloc (.cells #[.int .i64 k, .int .i64 v, .int .i64 a, .int .i64 b, .int .i64 d] 33)) := bAlloc (Below.refl _ _) _
  cases h1 : inB k 0 3
  · go_enter Try.func103, Try.ntmps103
    go_wp2_with (go_at_call 131; refine (l6In_eq (by with_reducible assumption) _).mono ?_; rintro e w' ⟨rfl, rfl⟩)
    go_ret
    exact ⟨ret_bool (by rw [H.out, h1]; rfl), hb0⟩
  cases h2 : inB v 0 99
  · go_enter Try.func103, Try.ntmps103
    go_wp2_with (go_at_call 131; refine (l6In_eq (by with_reducible assumption) _).mono ?_; rintro e w' ⟨rfl, rfl⟩)
    go_ret
    exact ⟨ret_bool (by rw [H.out, h1, h2]; rfl), hb0⟩
  cases h3 : okB a b
  · go_enter Try.func103, Try.ntmps103
    go_wp2_with (first | (go_at_call 131; refine (l6In_eq (by with_reducible assumption) _).mono ?_; rintro e w' ⟨rfl, rfl⟩) | (go_at_call 67; refine (specOk_eq (by with_reducible assumption) _).mono ?_; rintro e w1 ⟨rfl, hb1⟩))
    go_ret
    exact ⟨ret_bool (by rw [H.out, h1, h2, h3]; rfl), bStep hb0 hb1⟩
  cases h4 : inB d (-99999) 99999
  all_goals
    go_enter Try.func103, Try.ntmps103
    go_wp2_with (first | (go_at_call 131; refine (l6In_eq (by with_reducible assumption) _).mono ?_; rintro e w' ⟨rfl, rfl⟩) | (go_at_call 67; refine (specOk_eq (by with_reducible assumption) _).mono ?_; rintro e w1 ⟨rfl, hb1⟩; obtain ⟨q0, q1, q2, q3, q4⟩ := (bk.keep hb1).five))
    go_ret
    exact ⟨ret_bool (by rw [H.out, h1, h2, h3, h4]; rfl), bStep hb0 hb1⟩
theorem specRow_eq {k v a b d : Int} {r : Bool} (h : rwOkB (((k, v), (a, b)), d) = r) (w : World) : Calls Try.prog 103 #[rv k v a b d] w fun e w' => e = .returned (.bool r) ∧ Below w.heap.size w w' := by
  rw [← h]; exact specRow_any k v a b d w
set_option maxHeartbeats 2000000 in
theorem thingOk_any (k v : Int) (w : World) : Calls Try.prog 155 #[.int .i64 k, .int .i64 v] w fun e w' => e = .returned (.bool (inB k 0 3 && inB v 0 99)) ∧ w' = w := by
  have H1 : Hid (inB k 0 3 = decide (0 ≤ k ∧ k ≤ 3)) := rfl
  have H2 : Hid (inB v 0 99 = decide (0 ≤ v ∧ v ≤ 99)) := rfl
  by_cases h1 : 0 ≤ k
  · by_cases h2 : k < 4
    · by_cases h3 : 0 ≤ v
      · by_cases h4 : v < 100
        all_goals
          go_enter Try.func155, Try.ntmps155
          go_wp2_with fail
          go_ret
          exact ⟨ret_bool (by rw [H1.out, H2.out]; simp; omega), rfl⟩
      · go_enter Try.func155, Try.ntmps155
        go_wp2_with fail
        go_ret
        exact ⟨ret_bool (by rw [H1.out, H2.out]; simp; omega), rfl⟩
    · go_enter Try.func155, Try.ntmps155
      go_wp2_with fail
      go_ret
      exact ⟨ret_bool (by rw [H1.out, H2.out]; simp; omega), rfl⟩
  · go_enter Try.func155, Try.ntmps155
    go_wp2_with fail
    go_ret
    exact ⟨ret_bool (by rw [H1.out, H2.out]; simp; omega), rfl⟩
theorem thingOk_eq {k v : Int} {r : Bool} (h : (inB k 0 3 && inB v 0 99) = r) (w : World) : Calls Try.prog 155 #[.int .i64 k, .int .i64 v] w fun e w' => e = .returned (.bool r) ∧ w' = w := by
  rw [← h]; exact thingOk_any k v w
set_option maxHeartbeats 2000000 in
theorem implRow_any (k v a b d : Int) (w : World) :
    Calls Try.prog 104 #[rv k v a b d] w fun e w' => e = .returned (.bool (rwOkB (((k, v), (a, b)), d))) ∧ Below w.heap.size w w' := by
  have H : Hid (rwOkB (((k, v), (a, b)), d) = (inB k 0 3 && inB v 0 99 && okB a b && decide (-99999 ≤ d ∧ d ≤ 99999))) := rfl
  have bk := Bk.new (w := w) #[.int .i64 k, .int .i64 v, .int .i64 a, .int .i64 b, .int .i64 d] 33 rfl
  have hb0 : Below w.heap.size w (w.alloc (.cells #[.int .i64 k, .int .i64 v, .int .i64 a, .int .i64 b, .int .i64 d] 33)) := bAlloc (Below.refl _ _) _
  cases h1 : (inB k 0 3 && inB v 0 99)
  · go_enter Try.func104, Try.ntmps104
    go_wp2_with (go_at_call 155; refine (thingOk_eq (by with_reducible assumption) _).mono ?_; rintro e w' ⟨rfl, rfl⟩)
    go_ret
    exact ⟨ret_bool (by rw [H.out, h1]; rfl), hb0⟩
  cases h3 : okB a b
  · go_enter Try.func104, Try.ntmps104
    go_wp2_with (first | (go_at_call 155; refine (thingOk_eq (by with_reducible assumption) _).mono ?_; rintro e w' ⟨rfl, rfl⟩) | (go_at_call 112; refine (implOk_is (by with_reducible assumption) _).mono ?_; rintro e w1 ⟨rfl, hb1⟩))
    go_ret
    exact ⟨ret_bool (by rw [H.out, h1, h3]; rfl), bStep hb0 hb1⟩
  by_cases h4 : -99999 ≤ d
  · by_cases h5 : d ≤ 99999
    all_goals
      go_enter Try.func104, Try.ntmps104
      go_wp2_with (first | (go_at_call 155; refine (thingOk_eq (by with_reducible assumption) _).mono ?_; rintro e w' ⟨rfl, rfl⟩) | (go_at_call 112; refine (implOk_is (by with_reducible assumption) _).mono ?_; rintro e w1 ⟨rfl, hb1⟩; obtain ⟨q0, q1, q2, q3, q4⟩ := (bk.keep hb1).five))
      go_ret
      exact ⟨ret_bool (by rw [H.out, h1, h3]; simp; omega), bStep hb0 hb1⟩
  · go_enter Try.func104, Try.ntmps104
    go_wp2_with (first | (go_at_call 155; refine (thingOk_eq (by with_reducible assumption) _).mono ?_; rintro e w' ⟨rfl, rfl⟩) | (go_at_call 112; refine (implOk_is (by with_reducible assumption) _).mono ?_; rintro e w1 ⟨rfl, hb1⟩; obtain ⟨q0, q1, q2, q3, q4⟩ := (bk.keep hb1).five))
    go_ret
    exact ⟨ret_bool (by rw [H.out, h1, h3]; simp; omega), bStep hb0 hb1⟩
theorem implRow_eq {k v a b d : Int} {r : Bool} (h : rwOkB (((k, v), (a, b)), d) = r) (w : World) : Calls Try.prog 104 #[rv k v a b d] w fun e w' => e = .returned (.bool r) ∧ Below w.heap.size w w' := by
  rw [← h]; exact implRow_any k v a b d w

theorem rok_yes {l : List Rw} (h : l.length ≤ 400) (ha : ∀ j r, j < l.length → l[j]? = some r → rwOkB r = true) : rokB l = true :=
  rok_mk h fun r hr => by
    obtain ⟨i, hi, e⟩ := List.getElem_of_mem hr
    exact ha i r hi (by rw [List.getElem?_eq_getElem hi, e])
theorem upto_row {l : List Rw} {k : Nat} {q : Rw} (h : ∀ j r, j < k → l[j]? = some r → rwOkB r = true) (hq : l[k]? = some q) (hk : rwOkB q = true) {j : Nat} {r : Rw} (hj : j < k + 1) (hr : l[j]? = some r) : rwOkB r = true := by
  by_cases e : j = k
  · subst e; rw [hq] at hr; cases hr; exact hk
  · exact h j r (by omega) hr
set_option maxHeartbeats 4000000 in
theorem specRowsOk_any (v : Value) (l : List Rw) (w : World) (h : Rs w v l) :
    Calls Try.prog 38 #[v] w fun e w' => e = .returned (.bool (rokB l)) ∧ Below w.heap.size w w' := by
  obtain ⟨a, cap, rfl, hc, hm, hn, hcells⟩ := Rs.open h
  unfold maxLen at hm
  have HC := (show Hid _ from hcells)
  clear hcells h
  by_cases hlong : 400 < l.length
  · have HK : Hid (rokB l = false) := rok_long hlong
    have hl4 : decide ((l.length : Int) > 400) = true := by simp; omega
    go_enter Try.func38, Try.ntmps38
    go_wp2_with fail
    go_ret
    exact ⟨ret_bool HK.out.symm, Below.refl _ _⟩
  have hl4 : decide ((l.length : Int) > 400) = false := by simp; omega
  go_enter Try.func38, Try.ntmps38
  go_wp2_with fail
  go_loopw [3] (fun i wr => ∃ k : Nat, k ≤ l.length ∧ i = .int .i64 k ∧ (∀ j r, j < k → l[j]? = some r → rwOkB r = true) ∧ Below w.heap.size w wr) (fun i _ => l.length - (intOf i).toNat)
  case atStart => exact ⟨0, by omega, rfl, fun j r hj => by omega, Below.refl _ _⟩
  case round =>
    obtain ⟨k, hk, rfl, hall, hb⟩ := hrel
    have HA := (show Hid _ from hall)
    clear hall
    by_cases hlt : k < l.length
    · obtain ⟨g, off, K, V, A, B, D, rfl, hg, hr, c0, c1, c2, c3, c4⟩ := HC.out k hlt
      have d0 := cell_below hb c0
      have d1 := cell_below hb c1
      have d2 := cell_below hb c2
      have d3 := cell_below hb c3
      have d4 := cell_below hb c4
      have HR := (show Hid _ from hr)
      clear c0 c1 c2 c3 c4 hr
      cases ho : rwOkB (((K, V), (A, B)), D)
      · have HK : Hid (rokB l = false) := rok_no (List.mem_of_getElem? HR.out) ho
        go_wp2_with fail
        refine (specRow_eq ho _).mono ?_
        rintro e w1 ⟨rfl, hb1⟩
        go_wp2_with fail
        go_ret
        exact ⟨ret_bool HK.out.symm, bStep hb hb1⟩
      · go_wp2_with fail
        refine (specRow_eq ho _).mono ?_
        rintro e w1 ⟨rfl, hb1⟩
        have hbw := bStep hb hb1
        go_wp2_with fail
        go_roundw
        case rel => exact ⟨k + 1, by omega, by go_num, fun j r hj hr => upto_row HA.out HR.out ho hj hr, hbw⟩
        case measure => simp [intOf]; omega
    · have HK : Hid (rokB l = true) := rok_yes (by omega) fun j r hj hr => HA.out j r (by omega) hr
      go_wp2_with fail
      go_ret
      exact ⟨ret_bool HK.out.symm, hb⟩
theorem specRowsOk_eq {l : List Rw} {r : Bool} (h : rokB l = r) {v : Value} {w : World} (hs : Rs w v l) :
    Calls Try.prog 38 #[v] w fun e w' => e = .returned (.bool r) ∧ Below w.heap.size w w' := by
  rw [← h]; exact specRowsOk_any v l w hs

set_option maxHeartbeats 4000000 in
theorem implRowsOk_any (v : Value) (l : List Rw) (w : World) (h : Rs w v l) :
    Calls Try.prog 39 #[v] w fun e w' => e = .returned (.bool (rokB l)) ∧ Below w.heap.size w w' := by
  obtain ⟨a, cap, rfl, hc, hm, hn, hcells⟩ := Rs.open h
  unfold maxLen at hm
  have HC := (show Hid _ from hcells)
  clear hcells h
  by_cases hlong : 400 < l.length
  · have HK : Hid (rokB l = false) := rok_long hlong
    have hl4 : decide ((l.length : Int) > 400) = true := by simp; omega
    go_enter Try.func39, Try.ntmps39
    go_wp2_with fail
    go_ret
    exact ⟨ret_bool HK.out.symm, Below.refl _ _⟩
  have hl4 : decide ((l.length : Int) > 400) = false := by simp; omega
  go_enter Try.func39, Try.ntmps39
  go_wp2_with fail
  go_loopw [10] (fun i wr => ∃ k : Nat, k ≤ l.length ∧ i = .int .i64 k ∧ (∀ j r, j < k → l[j]? = some r → rwOkB r = true) ∧ Below w.heap.size w wr) (fun i _ => l.length - (intOf i).toNat)
  case atStart => exact ⟨0, by omega, rfl, fun j r hj => by omega, Below.refl _ _⟩
  case round =>
    obtain ⟨k, hk, rfl, hall, hb⟩ := hrel
    have HA := (show Hid _ from hall)
    clear hall
    by_cases hlt : k < l.length
    · obtain ⟨g, off, K, V, A, B, D, rfl, hg, hr, c0, c1, c2, c3, c4⟩ := HC.out k hlt
      have d0 := cell_below hb c0
      have d1 := cell_below hb c1
      have d2 := cell_below hb c2
      have d3 := cell_below hb c3
      have d4 := cell_below hb c4
      have HR := (show Hid _ from hr)
      clear c0 c1 c2 c3 c4 hr
      cases ho : rwOkB (((K, V), (A, B)), D)
      · have HK : Hid (rokB l = false) := rok_no (List.mem_of_getElem? HR.out) ho
        go_wp2_with fail
        refine (implRow_eq ho _).mono ?_
        rintro e w1 ⟨rfl, hb1⟩
        go_wp2_with fail
        go_ret
        refine ⟨ret_bool HK.out.symm, ?_⟩
        repeat' (first | (with_reducible exact Below.refl _ _) | (with_reducible assumption) | (with_reducible refine bStep ?_ (by with_reducible assumption)) | (with_reducible refine bAlloc ?_ _) | (with_reducible refine Below.drew ?_) | (with_reducible refine bDrewN ?_ _) | (with_reducible refine Below.setCell ?_ ?_ _) | (simp; done) | (simp; omega) | omega)
      · go_wp2_with fail
        refine (implRow_eq ho _).mono ?_
        rintro e w1 ⟨rfl, hb1⟩
        have hbw : Below w.heap.size w w1 := by
          repeat' (first | (with_reducible exact Below.refl _ _) | (with_reducible assumption) | (with_reducible refine bStep ?_ (by with_reducible assumption)) | (with_reducible refine bAlloc ?_ _) | (with_reducible refine Below.drew ?_) | (with_reducible refine bDrewN ?_ _) | (with_reducible refine Below.setCell ?_ ?_ _) | (simp; done) | (simp; omega) | omega)
        go_wp2_with fail
        go_roundw
        case rel => exact ⟨k + 1, by omega, by go_num, fun j r hj hr => upto_row HA.out HR.out ho hj hr, hbw⟩
        case measure => simp [intOf]; omega
    · have HK : Hid (rokB l = true) := rok_yes (by omega) fun j r hj hr => HA.out j r (by omega) hr
      go_wp2_with fail
      go_ret
      exact ⟨ret_bool HK.out.symm, hb⟩
theorem implRowsOk_eq {l : List Rw} {r : Bool} (h : rokB l = r) {v : Value} {w : World} (hs : Rs w v l) :
    Calls Try.prog 39 #[v] w fun e w' => e = .returned (.bool r) ∧ Below w.heap.size w w' := by
  rw [← h]; exact implRowsOk_any v l w hs
end Go.Proofs.Ytbmdfmboabfceaa
