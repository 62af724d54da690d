/- What FrontOf of the model answers: a contract. -/
import Derived.Test.YtbmdfmboabfceaaFr7
import Derived.Test.YtbmdfmboabfceaaFr8
namespace Go.Proofs.Ytbmdfmboabfceaa
open Go.RowKit

def aokB (l : List (Int × Int)) : Bool := (List.range l.length).all fun i => okB (tA l i) (tB l i)
theorem aok_false {l : List (Int × Int)} {k : Nat} (hk : k < l.length) (h : okB (tA l k) (tB l k) = false) : aokB l = false := by
  unfold aokB; rw [List.all_eq_false]; exact ⟨k, by simpa using hk, by simp [h]⟩
theorem aok_true {l : List (Int × Int)} (h : ∀ j, j < l.length → okB (tA l j) (tB l j) = true) : aokB l = true := by
  unfold aokB; rw [List.all_eq_true]; intro j hj; exact h j (by simpa using hj)
def eqAt (l : List (Int × Int)) (a b : Int) (i : Nat) : Bool := decide (tA l i = a ∧ tB l i = b)
def lowAt (l : List (Int × Int)) (a b : Int) (i : Nat) : Bool := !eqAt l a b i && leB (tA l i) (tB l i) a b
def memTo (l : List (Int × Int)) (a b : Int) (m : Nat) : Bool := (List.range m).any (eqAt l a b)
def lowTo (l : List (Int × Int)) (a b : Int) (m : Nat) : Bool := (List.range m).any (lowAt l a b)
def leastB (l : List (Int × Int)) (a b : Int) : Bool := memTo l a b l.length && !lowTo l a b l.length
def gA (i : Nat) : Int := ((i / 8 : Nat) : Int)
def gB (i : Nat) : Int := 7 - ((i % 8 : Nat) : Int)
theorem gA_at {k j : Nat} (hj : j < 8) : gA (8 * k + j) = k := by unfold gA; omega
theorem gB_at {k j : Nat} (hj : j < 8) : gB (8 * k + j) = 7 - (j : Int) := by unfold gB; omega
def frTo (l : List (Int × Int)) (n : Nat) : List (Int × Int) := ((List.range n).filter fun i => leastB l (gA i) (gB i)).map fun i => (gA i, gB i)
def frontL (l : List (Int × Int)) : List (Int × Int) := if aokB l then frTo l 64 else []
theorem memTo_succ (l : List (Int × Int)) (a b : Int) (m : Nat) : memTo l a b (m + 1) = (memTo l a b m || eqAt l a b m) := by
  unfold memTo; rw [List.range_succ, List.any_append]; simp
theorem lowTo_succ (l : List (Int × Int)) (a b : Int) (m : Nat) : lowTo l a b (m + 1) = (lowTo l a b m || lowAt l a b m) := by
  unfold lowTo; rw [List.range_succ, List.any_append]; simp
theorem frTo_len (l : List (Int × Int)) (n : Nat) : (frTo l n).length ≤ n := by
  unfold frTo; rw [List.length_map]; exact Nat.le_trans (List.length_filter_le _ _) (by simp)
theorem frTo_yes (l : List (Int × Int)) {k j : Nat} (hj : j < 8) (h : leastB l k (7 - (j : Int)) = true) : frTo l (8 * k + (j + 1)) = frTo l (8 * k + j) ++ [((k : Int), 7 - (j : Int))] := by
  have h' : leastB l (gA (8 * k + j)) (gB (8 * k + j)) = true := by rw [gA_at hj, gB_at hj]; exact h
  unfold frTo
  rw [← Nat.add_assoc, List.range_succ, List.filter_append, List.map_append, List.filter_cons_of_pos (p := fun i => leastB l (gA i) (gB i)) h', List.filter_nil, List.map_cons, List.map_nil, gA_at hj, gB_at hj]
theorem frTo_no (l : List (Int × Int)) {k j : Nat} (hj : j < 8) (h : leastB l k (7 - (j : Int)) = false) : frTo l (8 * k + (j + 1)) = frTo l (8 * k + j) := by
  have h' : ¬ leastB l (gA (8 * k + j)) (gB (8 * k + j)) = true := by rw [gA_at hj, gB_at hj, h]; simp
  unfold frTo
  rw [← Nat.add_assoc, List.range_succ, List.filter_append, List.map_append, List.filter_cons_of_neg (p := fun i => leastB l (gA i) (gB i)) h', List.filter_nil, List.map_nil, List.append_nil]

set_option maxHeartbeats 1000000 in
theorem l1Ok_any (v : Value) (l : List (Int × Int)) (w : World) (h : Ts w v l) :
    Calls Try.prog 211 #[v] w fun e w' => e = .returned (.bool (aokB l)) ∧ Below w.heap.size w w' := by
  obtain ⟨a, cap, rfl, hc, hm, hn, hcells⟩ := h
  unfold maxLen at hm
  have HC := (show Hid _ from hcells)
  clear hcells
  go_enter Try.func211, Try.ntmps211
  go_wp2_with fail
  go_loopw [3] (fun i wr => ∃ k : Nat, k ≤ l.length ∧ i = .int .i64 k ∧ (∀ j, j < k → okB (tA l j) (tB l j) = true) ∧ Below w.heap.size w wr) (fun i _ => l.length - (intOf i).toNat)
  case atStart => exact ⟨0, by omega, rfl, fun j hj => by omega, Below.refl _ _⟩
  case round =>
    obtain ⟨k, hk, rfl, hall, hb⟩ := hrel
    have HA := (show Hid _ from hall)
    clear hall
    by_cases hlt : k < l.length
    · obtain ⟨g, off, rfl, hg, c0, c1⟩ := HC.out k hlt
      have d0 := cell_below hb c0
      have d1 := cell_below hb c1
      clear c0 c1
      generalize hX : tA l k = X at *
      generalize hY : tB l k = Y at *
      have EX : Hid (tA l k = X) := hX
      have EY : Hid (tB l k = Y) := hY
      clear hX hY
      cases ho : okB X Y
      · have HK : Hid (aokB l = false) := aok_false hlt (by rw [EX.out, EY.out]; exact ho)
        go_wp2_with fail
        refine (specOk_eq ho _).mono ?_
        rintro e w1 ⟨rfl, hb1⟩
        go_wp2_with fail
        go_ret
        exact ⟨ret_bool HK.out.symm, bStep hb hb1⟩
      · have HK : Hid (okB (tA l k) (tB l k) = true) := by show _ = true; rw [EX.out, EY.out]; exact ho
        go_wp2_with fail
        refine (specOk_eq ho _).mono ?_
        rintro e w1 ⟨rfl, hb1⟩
        have hbw := bStep hb hb1
        go_wp2_with fail
        go_roundw
        case rel =>
          refine ⟨k + 1, by omega, by go_num, fun j hj => ?_, hbw⟩
          by_cases e : j = k
          · subst e; exact HK.out
          · exact HA.out j (by omega)
        case measure => simp [intOf]; omega
    · have HK : Hid (aokB l = true) := aok_true fun j hj => HA.out j (by omega)
      go_wp2_with fail
      go_ret
      exact ⟨ret_bool HK.out.symm, hb⟩
end Go.Proofs.Ytbmdfmboabfceaa
