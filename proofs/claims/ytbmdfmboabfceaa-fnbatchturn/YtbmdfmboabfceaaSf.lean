/- The clearing out of times that stand twice, one behind the other: the contract. -/
import Derived.Test.YtbmdfmboabfceaaSr
import Derived.Test.YtbmdfmboabfceaaFr16
namespace Go.Proofs.Ytbmdfmboabfceaa
open Go.RowKit

/-- The time at j stays: it is the first, or another one than that before it. -/
def kp (l : List (Int × Int)) (j : Nat) : Bool := decide (j = 0 ∨ ¬ (tA l j = tA l (j - 1) ∧ tB l j = tB l (j - 1)))
def compTo (l : List (Int × Int)) (m : Nat) : List (Int × Int) := ((List.range m).filter (kp l)).map fun j => (tA l j, tB l j)
theorem comp_succ (l : List (Int × Int)) (m : Nat) : compTo l (m + 1) = compTo l m ++ (if kp l m then [(tA l m, tB l m)] else []) := by
  unfold compTo
  rw [List.range_succ, List.filter_append, List.map_append]
  congr 1
  by_cases h : kp l m <;> simp [h]
theorem comp_len (l : List (Int × Int)) (m : Nat) : (compTo l m).length ≤ m := by
  unfold compTo
  rw [List.length_map]
  exact Nat.le_trans (List.length_filter_le _ _) (by simp)
theorem range_get (l : List (Int × Int)) : ∀ m, m ≤ l.length → (List.range m).map (fun j => (tA l j, tB l j)) = l.take m := by
  intro m hm
  apply List.ext_getElem?
  intro i
  by_cases hi : i < m
  · rw [List.getElem?_take, if_pos hi, List.getElem?_eq_getElem (show i < l.length by omega)]
    simp [hi, tA, tB, show i < l.length by omega]
  · rw [List.getElem?_take, if_neg hi, List.getElem?_eq_none (by simp; omega)]
theorem comp_all {l : List (Int × Int)} {m : Nat} (hm : m ≤ l.length) (h : ∀ j, j < m → kp l j = true) : compTo l m = l.take m := by
  unfold compTo
  rw [List.filter_eq_self.2 (fun j hj => h j (List.mem_range.1 hj)), range_get l m hm]
theorem kp_no {l : List (Int × Int)} {m : Nat} (hm : 0 < m) (h1 : tA l m = tA l (m - 1)) (h2 : tB l m = tB l (m - 1)) : kp l m = false := by
  have : m ≠ 0 := by omega
  simp [kp, h1, h2, this]
theorem kp_one {l : List (Int × Int)} {j : Nat} (h : j < 1) : kp l j = true := by
  have : j = 0 := by omega
  simp [kp, this]
theorem kp_yes {l : List (Int × Int)} {m : Nat} (h : ¬ (tA l m = tA l (m - 1) ∧ tB l m = tB l (m - 1))) : kp l m = true := by
  unfold kp; exact decide_eq_true (.inr h)
/-- How far it has come: i are kept of the first j. -/
structure CompI (l : List (Int × Int)) (i j : Nat) (c : Array Value) : Prop where
  lt : i < j
  le : j ≤ l.length
  len : (compTo l j).length = i
  low : Fill c (compTo l j) i
  high : ∀ m, i ≤ m → m < l.length → c[m * 2]? = some (.int .i64 (tA l m)) ∧ c[m * 2 + 1]? = some (.int .i64 (tB l m))
theorem CompI.start {l : List (Int × Int)} {k : Nat} {c : Array Value} (hk : k < l.length) (hno : kp l k = false) (hyes : ∀ i, i < k → kp l i = true) (hf : Fill c l l.length) : CompI l k (k + 1) c := by
  have e : compTo l (k + 1) = l.take k := by
    rw [comp_succ, hno, comp_all (by omega) hyes]; simp
  refine ⟨by omega, hk, by rw [e, List.length_take]; omega, fun i hi => ?_, fun m _ hm => hf m hm⟩
  have e1 : tA (l.take k) i = tA l i ∧ tB (l.take k) i = tB l i := by
    have : i < (l.take k).length := by rw [List.length_take]; omega
    simp [tA, tB, hi]
  rw [e, e1.1, e1.2]
  exact hf i (by omega)
theorem CompI.skip {l : List (Int × Int)} {i j : Nat} {c : Array Value} (h : CompI l i j c) (hj : j < l.length) (hy : kp l j = false) : CompI l i (j + 1) c := by
  have e : compTo l (j + 1) = compTo l j := by rw [comp_succ, hy]; simp
  exact ⟨by have := h.lt; omega, hj, by rw [e]; exact h.len, by rw [e]; exact h.low, h.high⟩
theorem CompI.keep {l : List (Int × Int)} {i j : Nat} {c : Array Value} (h : CompI l i j c) (hj : j < l.length) (hs : l.length * 2 ≤ c.size) (hy : kp l j = true) :
    CompI l (i + 1) (j + 1) ((c.setIfInBounds (i * 2) (.int .i64 (tA l j))).setIfInBounds (i * 2 + 1) (.int .i64 (tB l j))) := by
  have hlt := h.lt
  have hlen := h.len
  have e : compTo l (j + 1) = compTo l j ++ [(tA l j, tB l j)] := by rw [comp_succ, hy]; rfl
  have hlow := h.low
  have h0 : Fill c (compTo l (j + 1)) i := by
    intro q hq
    have := hlow q hq
    rw [e]
    have e1 : tA (compTo l j ++ [(tA l j, tB l j)]) q = tA (compTo l j) q ∧ tB (compTo l j ++ [(tA l j, tB l j)]) q = tB (compTo l j) q := by
      generalize compTo l j = F at *
      have : q < F.length := by omega
      simp [tA, tB, List.getElem?_append, this]
    rw [e1.1, e1.2]; exact this
  have h1 := h0.step (k := i) (by omega)
  have e2 : tA (compTo l (j + 1)) i = tA l j ∧ tB (compTo l (j + 1)) i = tB l j := by
    rw [e]
    generalize compTo l j = F at *
    generalize tA l j = X
    generalize tB l j = Y
    subst hlen
    simp [tA, tB]
  rw [e2.1, e2.2] at h1
  refine ⟨by omega, hj, by rw [e, List.length_append]; simp [hlen], h1, fun m a b => ?_⟩
  have n1 : ¬ i * 2 + 1 = m * 2 := by omega
  have n2 : ¬ i * 2 = m * 2 := by omega
  have n3 : ¬ i * 2 + 1 = m * 2 + 1 := by omega
  have n4 : ¬ i * 2 = m * 2 + 1 := by omega
  simp only [Array.getElem?_setIfInBounds, n1, n2, n3, n4, if_false]
  exact h.high m (by omega) b

set_option maxHeartbeats 8000000 in
theorem compact_any (g cap : Nat) (c : Array Value) (l : List (Int × Int)) (w : World) (h : Bk w g c 31) (hs : c.size = cap * 2) (hc : l.length ≤ cap) (hm : cap ≤ maxLen) (hn : l.length ≤ 2097152) (hfill : Fill c l l.length) :
    Calls Try.prog 124 #[.slice (some ⟨g, 0, none⟩) l.length cap] w fun e w' =>
      ∃ c' : Array Value, e = .returned (.slice (some ⟨g, 0, none⟩) (compTo l l.length).length cap) ∧ Bk w' g c' 31 ∧ c'.size = cap * 2 ∧ Fill c' (compTo l l.length) (compTo l l.length).length ∧ Bx g w w' := by
  have HF : Hid (Fill c l l.length) := hfill
  have HS : Hid (c.size = cap * 2) := hs
  have HM : Hid (cap ≤ maxLen) := hm
  unfold maxLen at hm
  clear hfill
  by_cases h2 : l.length < 2
  · have e : Hid (compTo l l.length = l) := by
      show _ = _
      rw [comp_all (Nat.le_refl _) (fun j hj => kp_one (by omega)), List.take_length]
    have ih : ((l.length : Int) < 2) := by omega
    go_enter Try.func124, Try.ntmps124
    go_wp2_with fail
    go_ret
    rw [e.out]
    exact ⟨c, rfl, h, HS.out, HF.out, Bx.refl _ _⟩
  · have ih : ¬ ((l.length : Int) < 2) := by omega
    go_enter Try.func124, Try.ntmps124
    go_wp2_with fail
    go_loopw [3] (fun b wr => ∃ k : Nat, 1 ≤ k ∧ k ≤ l.length ∧ b = .int .i64 k ∧ (∀ j, j < k → kp l j = true) ∧ Below w.heap.size w wr) (fun b _ => l.length - (intOf b).toNat)
    case atStart => exact ⟨1, by omega, by omega, rfl, fun j hj => kp_one hj, Below.refl _ _⟩
    case round =>
      obtain ⟨k, hk1, hk, rfl, hall, hb⟩ := hrel
      have HA : Hid (∀ j, j < k → kp l j = true) := hall
      clear hall
      have hbk := h.keep hb
      by_cases hlt : k < l.length
      · have ik : ((k : Int) < (l.length : Int)) := by omega
        have c0 := hbk.cell (HF.out k hlt).1
        have c1 := hbk.cell (HF.out k hlt).2
        have p0 := hbk.cell (HF.out (k - 1) (by omega)).1
        have p1 := hbk.cell (HF.out (k - 1) (by omega)).2
        generalize hX : tA l k = X at *
        generalize hY : tB l k = Y at *
        generalize hX' : tA l (k - 1) = X' at *
        generalize hY' : tB l (k - 1) = Y' at *
        have EX : Hid (tA l k = X ∧ tB l k = Y ∧ tA l (k - 1) = X' ∧ tB l (k - 1) = Y') := ⟨hX, hY, hX', hY'⟩
        clear hX hY hX' hY'
        have hsplit : (X = X' ∧ Y = Y') ∨ (X == X') = false ∨ (X = X' ∧ (Y == Y') = false) := by
          by_cases e1 : X = X'
          · by_cases e2 : Y = Y'
            · exact .inl ⟨e1, e2⟩
            · exact .inr (.inr ⟨e1, beq_eq_false_iff_ne.2 e2⟩)
          · exact .inr (.inl (beq_eq_false_iff_ne.2 e1))
        rcases hsplit with ⟨rfl, rfl⟩ | hne
        · have hsf := slice_from g k l.length cap hlt hc
          have HI : Hid (CompI l k (k + 1) c) := CompI.start hlt (kp_no (by omega) (by rw [EX.out.1, EX.out.2.2.1]) (by rw [EX.out.2.1, EX.out.2.2.2])) HA.out HF.out
          clear HA
          go_wp2_with fail
          go_quiet (fail)
          go_wp2_with fail
          go_loopw [3, 5] (fun a b wr => ∃ (i q : Nat) (c' : Array Value), a = .int .i64 i ∧ b = .int .i64 q ∧ 1 ≤ q ∧ k + q ≤ l.length ∧ Hid (CompI l i (k + q) c') ∧ Bk wr g c' 31 ∧ c'.size = cap * 2 ∧ Bx g w wr) (fun _ b _ => l.length - (intOf b).toNat)
          case atStart => exact ⟨k, 1, c, rfl, rfl, by omega, by omega, HI, hbk.drewN _, HS.out, (Bx.of_below hb).drewN _⟩
          case round =>
            clear c0 c1 p0 p1 hbk
            obtain ⟨i, q, c', rfl, rfl, hq1, hq, HI2, hk2, hs2, hx2⟩ := hrel
            have hij := HI2.out.lt
            by_cases hlt2 : k + q < l.length
            · have ik2 : ((q : Int) < (l.length : Int) - (k : Int)) := by omega
              obtain ⟨m0, m1⟩ := HI2.out.high (k + q) (by omega) hlt2
              obtain ⟨n0, n1⟩ := HI2.out.high (k + q - 1) (by omega) (by omega)
              have d0 := hk2.cell m0
              have d1 := hk2.cell m1
              have e0 := hk2.cell n0
              have e1 := hk2.cell n1
              rw [show (k + q) * 2 = k * 2 + q * 2 by omega] at d0 d1
              rw [show (k + q - 1) * 2 = k * 2 + (q - 1) * 2 by omega] at e0 e1
              clear m0 m1 n0 n1
              generalize hU : tA l (k + q) = U at *
              generalize hV : tB l (k + q) = V at *
              generalize hU' : tA l (k + q - 1) = U' at *
              generalize hV' : tB l (k + q - 1) = V' at *
              have EU : Hid (tA l (k + q) = U ∧ tB l (k + q) = V ∧ tA l (k + q - 1) = U' ∧ tB l (k + q - 1) = V') := ⟨hU, hV, hU', hV'⟩
              clear hU hV hU' hV'
              have hsplit : (U = U' ∧ V = V') ∨ (U == U') = false ∨ (U = U' ∧ (V == V') = false) := by
                by_cases e1 : U = U'
                · by_cases e2 : V = V'
                  · exact .inl ⟨e1, e2⟩
                  · exact .inr (.inr ⟨e1, beq_eq_false_iff_ne.2 e2⟩)
                · exact .inr (.inl (beq_eq_false_iff_ne.2 e1))
              rcases hsplit with ⟨rfl, rfl⟩ | hne
              · have HN : Hid (CompI l i (k + (q + 1)) c') := HI2.out.skip hlt2 (kp_no (by omega) (by rw [EU.out.1, EU.out.2.2.1]) (by rw [EU.out.2.1, EU.out.2.2.2]))
                clear HI2 EU
                go_wp2_with fail
                go_quiet (fail)
                go_wp2_with fail
                go_roundw
                case rel => exact ⟨i, q + 1, c', rfl, by go_num, by omega, by omega, HN, hk2.drewN _, hs2, hx2.drewN _⟩
                case measure => simp [intOf]; omega
              · have HN : Hid (CompI l (i + 1) (k + (q + 1)) ((c'.setIfInBounds (i * 2) (.int .i64 U)).setIfInBounds (i * 2 + 1) (.int .i64 V))) := by
                  have h1 := HI2.out.keep hlt2 (by omega) (kp_yes fun e => by
                    rw [EU.out.1, EU.out.2.1, EU.out.2.2.1, EU.out.2.2.2] at e
                    obtain ⟨rfl, rfl⟩ := e
                    rcases hne with h | ⟨_, h⟩ <;> simp at h)
                  rw [EU.out.1, EU.out.2.1] at h1
                  exact h1
                clear HI2 EU
                rcases hne with hne | ⟨rfl, hne⟩
                all_goals
                  go_wp2_with fail
                  go_quiet (fail)
                  have hk3 := hk2.drewN nq
                  obtain ⟨y0, q0⟩ := cell_bk hk3 (i := i * 2) (by omega)
                  obtain ⟨y1, q1⟩ := cell_bk hk3 (i := i * 2 + 1) (by omega)
                  have f0 := hk3.free (i * 2)
                  have f1 := hk3.free (i * 2 + 1)
                  go_wp2_with fail
                  go_roundw
                  case rel =>
                    have hbk := (hk3.set (i * 2) (.int .i64 U)).set (i * 2 + 1) (.int .i64 V)
                    exact ⟨i + 1, q + 1, _, by go_num, by go_num, by omega, by omega, HN, hbk, by simpa using hs2, ((hx2.drewN _).setG rfl _).setG rfl _⟩
                  case measure => simp [intOf]; omega
            · have hend : k + q = l.length := by omega
              obtain ⟨w3, c3, hcl, b3, s3, l3, x3⟩ := clear_times (n := l.length) hk2 hs2 (i := i) (by omega) hc (cap - i)
              have hsf2 := slice_from g i l.length cap (by omega) hc
              have hsu := slice_upto g i l.length cap (by omega) hc
              have ik2 : ¬ ((q : Int) < (l.length : Int) - (k : Int)) := by omega
              have L3 := (show Hid _ from l3)
              clear l3
              go_wp2_with fail
              go_ret
              have hI := HI2.out
              rw [hend] at hI
              have e2 := hI.len
              refine ⟨by rw [e2]; rfl, c3, b3, by rw [s3]; exact hs2, ?_, hx2.trans x3⟩
              rw [e2]
              intro z hz
              rw [L3.out _ (by omega), L3.out _ (by omega)]
              exact hI.low z hz
        · have HK : Hid (kp l k = true) := kp_yes fun e => by
            rw [EX.out.1, EX.out.2.1, EX.out.2.2.1, EX.out.2.2.2] at e
            obtain ⟨rfl, rfl⟩ := e
            rcases hne with h | ⟨_, h⟩ <;> simp at h
          have HN : Hid (∀ j, j < k + 1 → kp l j = true) := fun j hj => by
            by_cases e : j = k
            · subst e; exact HK.out
            · exact HA.out j (by omega)
          clear HA HK EX
          rcases hne with hne | ⟨rfl, hne⟩
          all_goals
            go_wp2_with fail
            go_quiet (fail)
            go_wp2_with fail
            go_roundw
            case rel => exact ⟨k + 1, by omega, by omega, by go_num, HN.out, bDrewN hb _⟩
            case measure => simp [intOf]; omega
      · obtain rfl : k = l.length := by omega
        have ik : ¬ ((l.length : Int) < (l.length : Int)) := by omega
        have e : Hid (compTo l l.length = l) := by
          show _ = _
          rw [comp_all (Nat.le_refl _) HA.out, List.take_length]
        go_wp2_with fail
        go_ret
        rw [e.out]
        exact ⟨rfl, c, hbk, HS.out, HF.out, Bx.of_below hb⟩
end Go.Proofs.Ytbmdfmboabfceaa
