/- Drawing for LoopSet; its contracts as the laws use them; plain facts. -/
import Derived.Test.YtjlaeeccnbdghaaTp1
import Derived.Test.YtjlaeeccnbdghaaGd4
import Derived.Test.YtjlaeeccnbdghaaGd3
namespace Go.Proofs.Ytjlaeeccnbdghaa
open Go.RowKit

set_option maxHeartbeats 4000000 in
theorem drawLoopSet_any (a : Option Addr) (len cap : Nat) (w : World) (h : Src w (.slice a len cap) len) :
    Calls Try.prog 17 #[.slice a len cap] w fun e w' => ∃ (o1 o2 : Value) (l1 l2 : List It) (n : Int), e = .returned (.tuple #[o1, o2, .int .i64 n]) ∧ drS l1 ∧ drS l2 ∧ -1 ≤ n ∧ n ≤ 7 ∧ Is w' o1 l1 ∧ Is w' o2 l2 ∧ Below w.heap.size w w' := by
  go_enter Try.func17, Try.ntmps17
  go_wp2_with fail
  refine (l6Open_any _ _ _ _ h).mono ?_
  rintro e w1 ⟨rfl, ⟨v, m, hr1⟩, hb1⟩
  clear h
  have hs1 := hb1.size
  have hg := hr1.blk.lt
  go_wp2_with fail
  refine (pick_any hr1 (by omega) (by omega) _ (by omega) (by omega)).mono ?_
  rintro e w2 ⟨n, rfl, hn0, hn1, hr2, hx2⟩
  go_wp2_with fail
  refine (pick_any hr2 (by omega) (by omega) _ (by omega) (by omega)).mono ?_
  rintro e w3 ⟨k, rfl, hk0, hk1, hr3, hx3⟩
  have hx13 := hx2.trans hx3
  clear hx2 hx3 hr2 hr1
  by_cases hk : k = 0
  · subst hk
    have hx4 : Bx w.heap.size w1 (w3.alloc (.cells #[.int .i64 (-1), .int .i64 7] 3)) := hx13.alloc _
    have hr4 := hr3.keepb (bAlloc (Below.refl _ _) (.cells #[.int .i64 (-1), .int .i64 7] 3))
    have bi : Bk (w3.alloc (.cells #[.int .i64 (-1), .int .i64 7] 3)) w3.heap.size #[.int .i64 (-1), .int .i64 7] 3 := Bk.new _ _ rfl
    have hne : w3.heap.size ≠ w.heap.size := by have := hr3.blk.lt; omega
    go_wp2_with fail
    refine (pick_any hr4 (by omega) (by omega) _ (by omega) (by omega)).mono ?_
    rintro e w5 ⟨j, rfl, hj0, hj1, hr5, hx5⟩
    have bi5 := bi.keepx hx5 hne
    obtain ⟨c0, c1, -, -⟩ := bi5.two
    have hx15 := hx4.trans hx5
    have hg5 : w.heap.size < w5.heap.size := hr5.blk.lt
    clear hx4 hx5 hr4 bi hr3 hx13
    obtain rfl | rfl : j = 0 ∨ j = 1 := by omega
    all_goals
      go_wp2_with fail
      refine (l71Set_any hr5 (by omega) (by omega)).mono ?_
      rintro e w6 ⟨o1, l1, rfl, hd1, hown1, ⟨p6, hp6, hp6', hr6⟩, hx6⟩
      have HO1 : Hid (∀ W', Bx w.heap.size w6 W' → Is W' o1 l1) := fun W' hW => OwnI.is (own_keepx hown1 hW hg5) (by have := hd1.1; omega)
      have hx16 := hx15.trans hx6
      clear hown1 hx6 hx15
      go_wp2_with fail
      refine (l71Set_any hr6 (by omega) (by omega)).mono ?_
      rintro e w7 ⟨o2, l2, rfl, hd2, hown2, -, hx7⟩
      have R2 : Hid (Is w7 o2 l2) := OwnI.is hown2 (by have := hd2.1; omega)
      have R1 : Hid (Is w7 o1 l1) := HO1.out _ hx7
      have hbE := (hx16.trans hx7).below hb1 hs1 (Nat.le_refl _)
      clear hown2 HO1
      go_wp2_with fail
      refine bodyPost_ret (by simp [results, Try.results17, go_sem]; try rfl) rfl ?_
      exact ⟨o1, o2, l1, l2, _, rfl, hd1, hd2, by omega, by omega, R1.out, R2.out, hbE⟩
  have hkb : (k == 0) = false := by simpa using hk
  have hr5 := hr3
  have hx15 := hx13
  have hg5 : w.heap.size < w3.heap.size := hr3.blk.lt
  clear hr3 hx13
  go_wp2_with fail
  refine (l71Set_any hr5 (by omega) (by omega)).mono ?_
  rintro e w6 ⟨o1, l1, rfl, hd1, hown1, ⟨p6, hp6, hp6', hr6⟩, hx6⟩
  have HO1 : Hid (∀ W', Bx w.heap.size w6 W' → Is W' o1 l1) := fun W' hW => OwnI.is (own_keepx hown1 hW hg5) (by have := hd1.1; omega)
  have hx16 := hx15.trans hx6
  clear hown1 hx6 hx15
  go_wp2_with fail
  refine (l71Set_any hr6 (by omega) (by omega)).mono ?_
  rintro e w7 ⟨o2, l2, rfl, hd2, hown2, -, hx7⟩
  have R2 : Hid (Is w7 o2 l2) := OwnI.is hown2 (by have := hd2.1; omega)
  have R1 : Hid (Is w7 o1 l1) := HO1.out _ hx7
  have hbE := (hx16.trans hx7).below hb1 hs1 (Nat.le_refl _)
  clear hown2 HO1
  go_wp2_with fail
  refine bodyPost_ret (by simp [results, Try.results17, go_sem]; try rfl) rfl ?_
  exact ⟨o1, o2, l1, l2, _, rfl, hd1, hd2, by omega, by omega, R1.out, R2.out, hbE⟩
theorem implLoopSet_k {ties first L : List It} {n : Int} (e : setL ties first n = L) {v1 v2 : Value} {w : World} (ht : Is w v1 ties) (hf : Is w v2 first) :
    Calls Try.prog 18 #[v1, v2, .int .i64 n] w fun e w' => ∃ o : Value, e = .returned o ∧ Is w' o L ∧ Below w.heap.size w w' :=
  ofOwnI e (by have := setL_len ties first n; omega) (implLoopSet_any v1 v2 ties first n w ht hf)
theorem specLoopSet_k {ties first L : List It} {n : Int} (e : setL ties first n = L) {v1 v2 : Value} {w : World} (ht : Is w v1 ties) (hf : Is w v2 first) :
    Calls Try.prog 19 #[v1, v2, .int .i64 n] w fun e w' => ∃ o : Value, e = .returned o ∧ Is w' o L ∧ Below w.heap.size w w' :=
  ofOwnI e (by have := setL_len ties first n; omega) (specLoopSet_any v1 v2 ties first n w ht hf)
theorem setL_abs (ties first : List It) (n : Int) : absum (setL ties first n) ≤ 600 := by
  unfold setL; split
  · exact rnd_abs _ _ _
  · simp [absum]
theorem set_fix {ties first : List It} {n : Int} (h1 : sokB ties = true) (h2 : sokB first = true) (h0 : 0 ≤ n) (h6 : n < 6) (h : stepL ties first (setL ties first n) = setL ties first n) : setL ties first 6 = setL ties first n ∧ setL ties first (n + 1) = setL ties first n := by
  obtain ⟨m, rfl⟩ := Int.eq_ofNat_of_zero_le h0
  have e1 : setL ties first (m : Int) = rndL ties first m := setL_yes h1 h2 (by simp [inB]; omega)
  have e2 : setL ties first 6 = rndL ties first 6 := setL_yes h1 h2 (by simp [inB])
  have e3 : setL ties first ((m : Int) + 1) = rndL ties first (m + 1) := setL_yes h1 h2 (by simp [inB]; omega)
  rw [e1] at h
  have hf : rndL ties first (m + 1) = rndL ties first m := h
  have := rnd_fix hf (6 - m)
  rw [show m + (6 - m) = 6 by omega] at this
  rw [e1, e2, e3]
  exact ⟨this, hf⟩
theorem set_four {ties first : List It} (h1 : sokB ties = true) (h2 : sokB first = true) (p1 : plusB ties = true) (p2 : plusB first = true) (a1 : absum ties ≤ 600) (a2 : absum first ≤ 600) : setL ties first 4 = setL ties first 6 := by
  rw [setL_yes h1 h2 (by simp [inB]), setL_yes h1 h2 (by simp [inB])]
  exact rnd_four h1 h2 (plus_pos h1 p1) (plus_pos h2 p2) a1 a2
theorem set_more {ties first : List It} {n : Int} (h1 : sokB ties = true) (h2 : sokB first = true) (p1 : plusB ties = true) (p2 : plusB first = true) (a1 : absum ties ≤ 600) (a2 : absum first ≤ 600) (h0 : 0 ≤ n) (h6 : n < 6) :
    (∀ r ∈ setL ties first n, r ∈ setL ties first (n + 1)) ∧ stepL ties first (setL ties first n) = setL ties first (n + 1) ∧ absum (setL ties first n) ≤ 600 := by
  obtain ⟨m, rfl⟩ := Int.eq_ofNat_of_zero_le h0
  have e1 : setL ties first (m : Int) = rndL ties first m := setL_yes h1 h2 (by simp [inB]; omega)
  have e3 : setL ties first ((m : Int) + 1) = rndL ties first (m + 1) := setL_yes h1 h2 (by simp [inB]; omega)
  rw [e1, e3]
  exact ⟨rnd_mono h1 h2 (plus_pos h1 p1) (plus_pos h2 p2) a1 a2 m, rfl, rnd_abs _ _ _⟩
end Go.Proofs.Ytjlaeeccnbdghaa
