/- LoopSet of the model, where Counts are few; the rounds of the program: contracts. -/
import Derived.Test.YtjlaeeccnbdghaaTo6
namespace Go.Proofs.Ytjlaeeccnbdghaa
open Go.RowKit

def rndL (ties first : List It) : Nat → List It
  | 0 => []
  | n + 1 => stepL ties first (rndL ties first n)
def setL (ties first : List It) (n : Int) : List It := if sokB ties && sokB first && inB n 0 6 then rndL ties first n.toNat else []
theorem setL_no1 {ties first : List It} {n : Int} (h : sokB ties = false) : setL ties first n = [] := by simp [setL, h]
theorem setL_no2 {ties first : List It} {n : Int} (h : sokB first = false) : setL ties first n = [] := by simp [setL, h]
theorem setL_no3 {ties first : List It} {n : Int} (h : inB n 0 6 = false) : setL ties first n = [] := by simp [setL, h]
theorem setL_yes {ties first : List It} {n : Int} (h1 : sokB ties = true) (h2 : sokB first = true) (h3 : inB n 0 6 = true) : setL ties first n = rndL ties first n.toNat := by simp [setL, h1, h2, h3]
theorem ones_abs (l : List It) : absum (l.map fun r => (r.1, (1 : Int))) = l.length := by
  induction l with
  | nil => simp [absum]
  | cons r l ih => simp only [List.map_cons, absum, ih, List.length_cons]; omega
theorem step_abs (ties first now : List It) : absum (stepL ties first now) ≤ 600 := by
  have hl := stepL_len ties first now
  unfold stepL at hl ⊢
  split
  · rename_i h
    rw [if_pos h] at hl
    unfold onceS at hl ⊢
    split
    · rename_i h2
      rw [if_pos h2] at hl
      unfold onceT at hl ⊢
      rw [ones_abs]
      rw [List.length_map] at hl
      omega
    · simp [absum]
  · simp [absum]
theorem rnd_abs (ties first : List It) (n : Nat) : absum (rndL ties first n) ≤ 600 := by
  cases n with
  | zero => simp [rndL, absum]
  | succ n => exact step_abs _ _ _
theorem rnd_len (ties first : List It) (n : Nat) : (rndL ties first n).length ≤ 400 := by
  cases n with
  | zero => simp [rndL]
  | succ n => exact stepL_len _ _ _
theorem setL_len (ties first : List It) (n : Int) : (setL ties first n).length ≤ 400 := by
  unfold setL; split
  · exact rnd_len _ _ _
  · simp
/-- What a round does not change no further one does. -/
theorem rnd_fix {ties first : List It} {n : Nat} (h : rndL ties first (n + 1) = rndL ties first n) : ∀ k, rndL ties first (n + k) = rndL ties first n
  | 0 => rfl
  | k + 1 => by
    show stepL ties first (rndL ties first (n + k)) = _
    rw [rnd_fix h k]
    exact h
set_option maxRecDepth 100000 in
set_option maxHeartbeats 8000000 in
theorem specLoopSet_any (v u : Value) (ties first : List It) (n : Int) (w : World) (ht : Is w v ties) (hf : Is w u first) :
    Calls Try.prog 19 #[v, u, .int .i64 n] w fun e w' => ∃ o : Value, e = .returned o ∧ OwnI w' w.heap.size o (setL ties first n) ∧ Below w.heap.size w w' := by
  have oE := ownI_empty w rfl
  have hbE := bAlloc (Below.refl w.heap.size w) (.cells #[] 30)
  have HT : Hid (∀ W, Below w.heap.size w W → Is W v ties) := fun W hW => SlK.keep ht hW
  have HU : Hid (∀ W, Below w.heap.size w W → Is W u first) := fun W hW => SlK.keep hf hW
  clear ht hf
  cases k1 : sokB ties
  · have HF : Hid (setL ties first n = []) := setL_no1 k1
    go_enter Try.func19, Try.ntmps19
    go_wp2_with fail
    refine (specSetOk_eq k1 (HT.out _ hbE)).mono ?_
    rintro e w1 ⟨rfl, hb1⟩
    have O1 := (show Hid _ from own_keep oE hb1)
    go_wp2_with fail
    go_ret
    refine ⟨_, rfl, ?_, bStep hbE hb1⟩
    rw [HF.out]
    exact O1.out
  cases k2 : sokB first
  · have HF : Hid (setL ties first n = []) := setL_no2 k2
    go_enter Try.func19, Try.ntmps19
    go_wp2_with fail
    refine (specSetOk_eq k1 (HT.out _ hbE)).mono ?_
    rintro e w1 ⟨rfl, hb1⟩
    have hbw1 := bStep hbE hb1
    go_wp2_with fail
    refine (specSetOk_eq k2 (HU.out _ hbw1)).mono ?_
    rintro e w2 ⟨rfl, hb2⟩
    have O1 := (show Hid _ from own_keep (own_keep oE hb1) hb2)
    go_wp2_with fail
    go_ret
    refine ⟨_, rfl, ?_, bStep hbw1 hb2⟩
    rw [HF.out]
    exact O1.out
  cases k3 : inB n 0 6
  · have HF : Hid (setL ties first n = []) := setL_no3 k3
    go_enter Try.func19, Try.ntmps19
    go_wp2_with fail
    refine (specSetOk_eq k1 (HT.out _ hbE)).mono ?_
    rintro e w1 ⟨rfl, hb1⟩
    have hbw1 := bStep hbE hb1
    go_wp2_with fail
    refine (specSetOk_eq k2 (HU.out _ hbw1)).mono ?_
    rintro e w2 ⟨rfl, hb2⟩
    have hbw2 := bStep hbw1 hb2
    go_wp2_with fail
    refine (l6In_eq k3 _).mono ?_
    rintro e w3 ⟨rfl, rfl⟩
    have O1 := (show Hid _ from own_keep (own_keep oE hb1) hb2)
    go_wp2_with fail
    go_ret
    refine ⟨_, rfl, ?_, hbw2⟩
    rw [HF.out]
    exact O1.out
  have at' : absum ties ≤ 562949953421312 := by have := sok_abs k1; omega
  have af' : absum first ≤ 562949953421312 := by have := sok_abs k2; omega
  have HF : Hid (setL ties first n = rndL ties first n.toNat) := setL_yes k1 k2 k3
  have hn : 0 ≤ n ∧ n ≤ 6 := by simpa [inB] using k3
  obtain ⟨m, rfl⟩ := Int.eq_ofNat_of_zero_le hn.1
  have hm6 : m ≤ 6 := by omega
  go_enter Try.func19, Try.ntmps19
  go_wp2_with fail
  refine (specSetOk_eq k1 (HT.out _ hbE)).mono ?_
  rintro e w1 ⟨rfl, hb1⟩
  have hbw1 := bStep hbE hb1
  go_wp2_with fail
  refine (specSetOk_eq k2 (HU.out _ hbw1)).mono ?_
  rintro e w2 ⟨rfl, hb2⟩
  have hbw2 := bStep hbw1 hb2
  go_wp2_with fail
  refine (l6In_eq k3 _).mono ?_
  rintro e w3 ⟨rfl, rfl⟩
  have O3 := own_keep (own_keep oE hb1) hb2
  clear oE hbE hb1 hb2 hbw1 k1 k2 k3 hn
  go_wp2_with fail
  go_loopw [7, 8] (fun o i wr => ∃ k : Nat, k ≤ m ∧ i = .int .i64 k ∧ OwnI wr w.heap.size o (rndL ties first k) ∧ Below w.heap.size w wr) (fun _ i _ => m - (intOf i).toNat)
  case atStart => exact ⟨0, by omega, rfl, O3, hbw2⟩
  case round =>
    clear O3 hbw2
    obtain ⟨k, hkl, rfl, hown, hb⟩ := hrel
    by_cases hlt : k < m
    · have ik : (k : Int) < (m : Int) := by omega
      have I1 : Is wr u7 (rndL ties first k) := OwnI.is hown (by have := rnd_len ties first k; omega)
      have hs := hb.size
      clear hown
      go_wp2_with fail
      refine (specLoopStep_few _ _ _ ties first (rndL ties first k) _ (HT.out _ hb) (HU.out _ hb) I1 at' af' (rnd_abs _ _ _)).mono ?_
      rintro e w4 ⟨o4, rfl, own4, hb4⟩
      have HO : Hid (OwnI w4 w.heap.size o4 (rndL ties first (k + 1))) := own_less own4 hs
      clear own4 I1
      go_wp2_with fail
      go_roundw
      case rel => exact ⟨k + 1, by omega, by go_num, HO.out, bStep hb hb4⟩
      case measure => simp [intOf]; omega
    · obtain rfl : k = m := by omega
      have HO := (show Hid _ from hown)
      clear hown
      go_wp2_with fail
      go_ret
      refine ⟨_, rfl, ?_, hb⟩
      rw [HF.out]
      exact HO.out
end Go.Proofs.Ytjlaeeccnbdghaa
