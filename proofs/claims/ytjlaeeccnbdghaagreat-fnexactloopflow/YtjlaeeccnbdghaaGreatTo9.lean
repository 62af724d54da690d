/- LoopSet of the program, where Counts are few: the contract. -/
import Derived.Test.YtjlaeeccnbdghaaGreatTo8
import Derived.WalkMore
namespace Go.Proofs.YtjlaeeccnbdghaaGreat
open Go.RowKit
attribute [local go_sem ↓] Go.wp_at_zero Go.wp_at_succ

theorem isSl {w : World} {B : Nat} {v : Value} {l : List It} (h : OwnI w B v l) : ∃ a c, v = .slice a l.length c := by
  rcases ownK_open h itC_len with ⟨rfl, rfl⟩ | ⟨g, cap, c, rfl, _⟩
  · exact ⟨_, _, rfl⟩
  · exact ⟨_, _, rfl⟩
set_option maxHeartbeats 4000000 in
theorem round_few (b1 b2 b3 : Nat) (v u x : Value) (ties first now : List It) (W : World) (k1 : Bk W b1 #[v] 31) (k2 : Bk W b2 #[u] 31) (k3 : Bk W b3 #[x] 31) (ht : Is W v ties) (hf : Is W u first) (hn : Is W x now) (at' : absum ties ≤ 562949953421312) (af' : absum first ≤ 562949953421312) (an' : absum now ≤ 600) :
    Calls Tryz.prog 59 #[.pointer (some ⟨b1, 0, none⟩), .pointer (some ⟨b2, 0, none⟩), .pointer (some ⟨b3, 0, none⟩)] W fun e W' => ∃ o : Value, e = .returned o ∧ OwnI W' W.heap.size o (stepL ties first now) ∧ Bk W' b3 #[o] 31 ∧ Bx b3 W W' := by
  have hlt := k3.lt
  have c1 : W.cell? ⟨b1, 0, none⟩ = some v := Bk.cell k1 rfl
  have c2 : W.cell? ⟨b2, 0, none⟩ = some u := Bk.cell k2 rfl
  have c3 : W.cell? ⟨b3, 0, none⟩ = some x := Bk.cell k3 rfl
  go_enter Tryz.func59, Tryz.ntmps59
  go_wp2_with fail
  refine (implLoopStep_few v u x ties first now W ht hf hn at' af' an').mono ?_
  rintro e w1 ⟨o, rfl, own1, hb1⟩
  obtain ⟨a, c, rfl⟩ := isSl own1
  have k31 := k3.keep hb1
  have d3 : w1.cell? ⟨b3, 0, none⟩ = some x := Bk.cell k31 rfl
  have f3 := k31.free 0
  have k32 : Bk (w1.setCell ⟨b3, 0, none⟩ (.slice a (stepL ties first now).length c)) b3 #[.slice a (stepL ties first now).length c] 31 := k31.set 0 _
  have d4 : (w1.setCell ⟨b3, 0, none⟩ (.slice a (stepL ties first now).length c)).cell? ⟨b3, 0, none⟩ = some (.slice a (stepL ties first now).length c) := Bk.cell k32 rfl
  have HO : Hid (OwnI (w1.setCell ⟨b3, 0, none⟩ (.slice a (stepL ties first now).length c)) W.heap.size (.slice a (stepL ties first now).length c) (stepL ties first now)) := own_move own1 fun k hk _ => Below.heap_setCell _ _ _ _ (show k ≠ b3 by omega)
  have hx : Bx b3 W (w1.setCell ⟨b3, 0, none⟩ (.slice a (stepL ties first now).length c)) := Bx.setG (g := b3) (p := ⟨b3, 0, none⟩) (Bx.of_below hb1) rfl _
  clear own1
  go_wp2_with fail
  go_ret
  exact ⟨_, rfl, HO.out, k32, hx⟩
theorem roundsOf_any (a b : Option Addr) (n c n' c' : Nat) (w : World) :
    Calls Tryz.prog 36 #[.slice a n c, .slice b n' c'] w fun e w' => e = .returned (.func (.func 59) #[] #[.pointer (some ⟨w.heap.size, 0, none⟩), .pointer (some ⟨w.heap.size + 1, 0, none⟩), .pointer (some ⟨w.heap.size + 2, 0, none⟩)]) ∧ w' = (((w.alloc (.cells #[.slice a n c] 31)).alloc (.cells #[.slice b n' c'] 31)).alloc (.cells #[.slice none 0 0] 31)) := by
  go_enter Tryz.func36, Tryz.ntmps36
  go_wp2_with fail
  go_ret
  exact ⟨rfl, rfl⟩
set_option maxRecDepth 100000 in
set_option maxHeartbeats 8000000 in
theorem implLoopSet_any (v u : Value) (ties first : List It) (n : Int) (w : World) (ht : Is w v ties) (hf : Is w u first) :
    Calls Tryz.prog 13 #[v, u, .int .i64 n] w fun e w' => ∃ o : Value, e = .returned o ∧ OwnI w' w.heap.size o (setL ties first n) ∧ Below w.heap.size w w' := by
  have HT : Hid (∀ W, Below w.heap.size w W → Is W v ties) := fun W hW => SlK.keep ht hW
  have HU : Hid (∀ W, Below w.heap.size w W → Is W u first) := fun W hW => SlK.keep hf hW
  obtain ⟨a, c, rfl, -⟩ := Is.open ht
  obtain ⟨b, c', rfl, -⟩ := Is.open hf
  clear ht hf
  cases k1 : sokB ties
  · have HF : Hid (setL ties first n = []) := setL_no1 k1
    go_enter Tryz.func13, Tryz.ntmps13
    go_wp2_with fail
    go_step3
    go_wp2_with fail
    refine (implSetOk_eq k1 (HT.out _ (Below.refl _ _))).mono ?_
    rintro e w1 ⟨rfl, hb1⟩
    go_wp2_with fail
    try rw [Exit.noGoto_ret]
    go_ret
    refine ⟨_, rfl, ?_, hb1⟩
    rw [HF.out]
    exact ownK_nil _ _ _ _ _
  cases k2 : sokB first
  · have HF : Hid (setL ties first n = []) := setL_no2 k2
    go_enter Tryz.func13, Tryz.ntmps13
    go_wp2_with fail
    go_step3
    go_wp2_with fail
    refine (implSetOk_eq k1 (HT.out _ (Below.refl _ _))).mono ?_
    rintro e w1 ⟨rfl, hb1⟩
    go_wp2_with fail
    refine (implSetOk_eq k2 (HU.out _ hb1)).mono ?_
    rintro e w2 ⟨rfl, hb2⟩
    go_wp2_with fail
    try rw [Exit.noGoto_ret]
    go_ret
    refine ⟨_, rfl, ?_, bStep hb1 hb2⟩
    rw [HF.out]
    exact ownK_nil _ _ _ _ _
  by_cases hn : 0 ≤ n ∧ n ≤ 6
  case neg =>
    have HF : Hid (setL ties first n = []) := setL_no3 (by simp [inB]; omega)
    have hn' : n < 0 ∨ ¬ n < 0 ∧ 6 < n := by omega
    clear hn
    rcases hn' with hn | ⟨hn, hn6⟩
    all_goals
      go_enter Tryz.func13, Tryz.ntmps13
      go_wp2_with fail
      go_step3
      go_wp2_with fail
      refine (implSetOk_eq k1 (HT.out _ (Below.refl _ _))).mono ?_
      rintro e w1 ⟨rfl, hb1⟩
      go_wp2_with fail
      refine (implSetOk_eq k2 (HU.out _ hb1)).mono ?_
      rintro e w2 ⟨rfl, hb2⟩
      go_wp2_with fail
      try rw [Exit.noGoto_ret]
      go_ret
      refine ⟨_, rfl, ?_, bStep hb1 hb2⟩
      rw [HF.out]
      exact ownK_nil _ _ _ _ _
  have at' : absum ties ≤ 562949953421312 := by have := sok_abs k1; omega
  have af' : absum first ≤ 562949953421312 := by have := sok_abs k2; omega
  have HF : Hid (setL ties first n = rndL ties first n.toNat) := setL_yes k1 k2 (by simp [inB]; omega)
  obtain ⟨m, rfl⟩ := Int.eq_ofNat_of_zero_le hn.1
  have hm6 : m ≤ 6 := by omega
  have hmA : ¬ ((m : Int) < 0) := by omega
  have hmB : ¬ ((6 : Int) < (m : Int)) := by omega
  clear hn
  go_enter Tryz.func13, Tryz.ntmps13
  go_wp2_with fail
  go_step3
  go_wp2_with fail
  refine (implSetOk_eq k1 (HT.out _ (Below.refl _ _))).mono ?_
  rintro e w1 ⟨rfl, hb1⟩
  go_wp2_with fail
  refine (implSetOk_eq k2 (HU.out _ hb1)).mono ?_
  rintro e w2 ⟨rfl, hb2⟩
  have hbw2 := bStep hb1 hb2
  clear hb1 hb2 k1 k2
  go_wp2_with fail
  refine (roundsOf_any a b _ c _ c' w2).mono ?_
  rintro e w3 ⟨rfl, hw3⟩
  have hb3 : Below w2.heap.size w2 w3 := by rw [hw3]; exact bAlloc (bAlloc (bAlloc (Below.refl _ _) _) _) _
  have g1 : Bk w3 w2.heap.size #[.slice a ties.length c] 31 := by rw [hw3]; exact ((Bk.new _ _ rfl).alloc _).alloc _
  have g2 : Bk w3 (w2.heap.size + 1) #[.slice b first.length c'] 31 := by rw [hw3]; exact (Bk.new (w := w2.alloc _) _ _ (by simp)).alloc _
  have g3 : Bk w3 (w2.heap.size + 2) #[.slice none 0 0] 31 := by rw [hw3]; exact Bk.new (w := (w2.alloc _).alloc _) _ _ (by simp)
  have hs3 : w2.heap.size + 2 < w3.heap.size := g3.lt
  have hbw3 := bStep hbw2 hb3
  have hsw := hbw2.size
  clear hw3 hb3 hbw2
  generalize w2.heap.size = b1 at *
  go_wp2_with fail
  go_step3
  go_wp2_with fail
  go_loopw [8, 30] (fun o i wr => ∃ k : Nat, k ≤ m ∧ i = .int .i64 k ∧ OwnI wr w3.heap.size o (rndL ties first k) ∧ Bk wr b1 #[.slice a ties.length c] 31 ∧ Bk wr (b1 + 1) #[.slice b first.length c'] 31 ∧ Bk wr (b1 + 2) #[o] 31 ∧ w3.heap.size ≤ wr.heap.size ∧ Below w.heap.size w wr) (fun _ i _ => m - (intOf i).toNat)
  case atStart => exact ⟨0, by omega, rfl, ownK_nil _ _ _ _ _, g1, g2, g3, Nat.le_refl _, hbw3⟩
  case round =>
    clear g1 g2 g3 hbw3
    obtain ⟨k, hkl, rfl, hown, g1, g2, g3, hsr, hb⟩ := hrel
    by_cases hlt : k < m
    · have ik : (k : Int) < (m : Int) := by omega
      have I1 : Is wr u8 (rndL ties first k) := OwnI.is hown (by have := rnd_len ties first k; omega)
      have HO0 := (show Hid _ from hown)
      have HFX : Hid (rndL ties first (k + 1) = rndL ties first k → rndL ties first m = rndL ties first (k + 1)) := fun e => by
        have := rnd_fix e (m - k)
        rw [show k + (m - k) = m by omega] at this
        rw [this, e]
      clear hown
      go_wp2_with fail
      refine (round_few b1 (b1 + 1) (b1 + 2) _ _ u8 ties first (rndL ties first k) wr g1 g2 g3 (HT.out _ hb) (HU.out _ hb) I1 at' af' (rnd_abs _ _ _)).mono ?_
      rintro e w4 ⟨o4, rfl, own4, g34, hx4⟩
      have g14 := g1.keepx hx4 (by omega)
      have g24 := g2.keepx hx4 (by omega)
      have hbw4 : Below w.heap.size w w4 := hx4.below hb hb.size (by omega)
      have I0 : Is w4 u8 (rndL ties first k) := OwnI.is (own_keepx HO0.out hx4 (by omega)) (by have := rnd_len ties first k; omega)
      have HO4 : Hid (OwnI w4 w3.heap.size o4 (rndL ties first (k + 1))) := own_less own4 hsr
      have I4 : Is w4 o4 (rndL ties first (k + 1)) := OwnI.is own4 (by have := rnd_len ties first (k + 1); omega)
      have hsr4 : w3.heap.size ≤ w4.heap.size := Nat.le_trans hsr hx4.size
      clear own4 I1 HO0 g1 g2 g3 hb hsr hx4
      go_wp2_with fail
      refine (equalI_any o4 u8 _ _ _ I4 I0).mono ?_
      rintro e w5 ⟨rfl, hb5⟩
      have O5 : Hid (OwnI w5 w3.heap.size o4 (rndL ties first (k + 1))) := own_keep HO4.out hb5
      have g15 := g14.keep hb5
      have g25 := g24.keep hb5
      have g35 := g34.keep hb5
      have hbw5 := bStep hbw4 hb5
      have hsr5 : w3.heap.size ≤ w5.heap.size := Nat.le_trans hsr4 hb5.size
      clear HO4 g14 g24 g34 hbw4 hb5 hsr4 I0 I4
      by_cases he : rndL ties first (k + 1) = rndL ties first k
      · have HE := (show Hid _ from HFX.out he)
        have hdec : decide (rndL ties first (k + 1) = rndL ties first k) = true := decide_eq_true he
        rw [hdec]
        clear he hdec HFX
        go_wp2_with fail
        try rw [Exit.noGoto_ret]
        go_ret
        refine ⟨_, rfl, ?_, hbw5⟩
        rw [HF.out]
        show OwnI _ _ _ (rndL ties first m)
        rw [HE.out]
        exact own_less O5.out (by omega)
      · have hdec : decide (rndL ties first (k + 1) = rndL ties first k) = false := decide_eq_false he
        rw [hdec]
        clear he hdec HFX
        go_wp2_with fail
        go_roundw
        case rel => exact ⟨k + 1, by omega, by go_num, O5.out, g15, g25, g35, hsr5, hbw5⟩
        case measure => simp [intOf]; omega
    · obtain rfl : k = m := by omega
      have HO := (show Hid _ from hown)
      have ik : ¬ ((k : Int) < (k : Int)) := by omega
      clear hown
      go_wp2_with fail
      try rw [Exit.noGoto_ret]
      go_ret
      refine ⟨_, rfl, ?_, hb⟩
      rw [HF.out]
      exact own_less HO.out (by omega)
end Go.Proofs.YtjlaeeccnbdghaaGreat
