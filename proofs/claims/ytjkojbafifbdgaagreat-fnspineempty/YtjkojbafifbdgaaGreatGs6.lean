/- The clearing out of times that stand twice, one behind the other: the contract. -/
import Derived.Test.YtjkojbafifbdgaaGreatGm1
import Derived.Test.YtjkojbafifbdgaaGreatGa8
import Derived.Test.YtjkojbafifbdgaaGreatGs2
/-! The clearing out of times that stand twice, one behind the other: the contract. -/
namespace Go.Proofs.YtjkojbafifbdgaaGreat
open Go.RowKit

/-- The time at j stays: it is the first, or another one than that before it. -/
def kp (l : List (Int × Int)) (j : Nat) : Bool := decide (j = 0 ∨ ¬ (tA l j = tA l (j - 1) ∧ tB l j = tB l (j - 1)))
def compTo (l : List (Int × Int)) (m : Nat) : List (Int × Int) := ((List.range m).filter (kp l)).map fun j => (tA l j, tB l j)
theorem comp_succ (l : List (Int × Int)) (m : Nat) : compTo l (m + 1) = compTo l m ++ (if kp l m then [(tA l m, tB l m)] else []) := by
  unfold compTo
  rw [List.range_succ, List.filter_append, List.map_append]
  congr 1
  by_cases h : kp l m <;> simp [h]
theorem comp_len (l : List (Int × Int)) (m : Nat) : (compTo l m).length ≤ m := by
  unfold compTo
  rw [List.length_map]
  exact Nat.le_trans (List.length_filter_le _ _) (by simp)
theorem range_get (l : List (Int × Int)) : ∀ m, m ≤ l.length → (List.range m).map (fun j => (tA l j, tB l j)) = l.take m := by
  intro m hm
  apply List.ext_getElem?
  intro i
  by_cases hi : i < m
  · rw [List.getElem?_take, if_pos hi, List.getElem?_eq_getElem (show i < l.length by omega)]
    simp [hi, tA, tB, show i < l.length by omega]
  · rw [List.getElem?_take, if_neg hi, List.getElem?_eq_none (by simp; omega)]
theorem comp_all {l : List (Int × Int)} {m : Nat} (hm : m ≤ l.length) (h : ∀ j, j < m → kp l j = true) : compTo l m = l.take m := by
  unfold compTo
  rw [List.filter_eq_self.2 (fun j hj => h j (List.mem_range.1 hj)), range_get l m hm]
theorem kp_no {l : List (Int × Int)} {m : Nat} (hm : 0 < m) (h1 : tA l m = tA l (m - 1)) (h2 : tB l m = tB l (m - 1)) : kp l m = false := by
  have : m ≠ 0 := by omega
  simp [kp, h1, h2, this]
theorem kp_one {l : List (Int × Int)} {j : Nat} (h : j < 1) : kp l j = true := by
  have : j = 0 := by omega
  simp [kp, this]
theorem kp_yes {l : List (Int × Int)} {m : Nat} (h : ¬ (tA l m = tA l (m - 1) ∧ tB l m = tB l (m - 1))) : kp l m = true := by
  unfold kp; exact decide_eq_true (.inr h)
/-- How far it has come: i are kept of the first j. -/
structure CompI (l : List (Int × Int)) (i j : Nat) (c : Array Value) : Prop where
  lt : i < j
  le : j ≤ l.length
  len : (compTo l j).length = i
  low : Fill c (compTo l j) i
  high : ∀ m, i ≤ m → m < l.length → c[m * 2]? = some (.int .i64 (tA l m)) ∧ c[m * 2 + 1]? = some (.int .i64 (tB l m))
theorem CompI.start {l : List (Int × Int)} {k : Nat} {c : Array Value} (hk : k < l.length) (hno : kp l k = false) (hyes : ∀ i, i < k → kp l i = true) (hf : Fill c l l.length) : CompI l k (k + 1) c := by
  have e : compTo l (k + 1) = l.take k := by
    rw [comp_succ, hno, comp_all (by omega) hyes]; simp
  refine ⟨by omega, hk, by rw [e, List.length_take]; omega, fun i hi => ?_, fun m _ hm => hf m hm⟩
  have e1 : tA (l.take k) i = tA l i ∧ tB (l.take k) i = tB l i := by
    have : i < (l.take k).length := by rw [List.length_take]; omega
    simp [tA, tB, hi]
  rw [e, e1.1, e1.2]
  exact hf i (by omega)
theorem CompI.skip {l : List (Int × Int)} {i j : Nat} {c : Array Value} (h : CompI l i j c) (hj : j < l.length) (hy : kp l j = false) : CompI l i (j + 1) c := by
  have e : compTo l (j + 1) = compTo l j := by rw [comp_succ, hy]; simp
  exact ⟨by have := h.lt; omega, hj, by rw [e]; exact h.len, by rw [e]; exact h.low, h.high⟩
theorem CompI.keep {l : List (Int × Int)} {i j : Nat} {c : Array Value} (h : CompI l i j c) (hj : j < l.length) (hs : l.length * 2 ≤ c.size) (hy : kp l j = true) :
    CompI l (i + 1) (j + 1) ((c.setIfInBounds (i * 2) (.int .i64 (tA l j))).setIfInBounds (i * 2 + 1) (.int .i64 (tB l j))) := by
  have hlt := h.lt
  have hlen := h.len
  have e : compTo l (j + 1) = compTo l j ++ [(tA l j, tB l j)] := by rw [comp_succ, hy]; rfl
  have hlow := h.low
  have h0 : Fill c (compTo l (j + 1)) i := by
    intro q hq
    have := hlow q hq
    rw [e]
    have e1 : tA (compTo l j ++ [(tA l j, tB l j)]) q = tA (compTo l j) q ∧ tB (compTo l j ++ [(tA l j, tB l j)]) q = tB (compTo l j) q := by
      generalize compTo l j = F at *
      have : q < F.length := by omega
      simp [tA, tB, List.getElem?_append, this]
    rw [e1.1, e1.2]; exact this
  have h1 := h0.step (k := i) (by omega)
  have e2 : tA (compTo l (j + 1)) i = tA l j ∧ tB (compTo l (j + 1)) i = tB l j := by
    rw [e]
    generalize compTo l j = F at *
    generalize tA l j = X
    generalize tB l j = Y
    subst hlen
    simp [tA, tB]
  rw [e2.1, e2.2] at h1
  refine ⟨by omega, hj, by rw [e, List.length_append]; simp [hlen], h1, fun m a b => ?_⟩
  have n1 : ¬ i * 2 + 1 = m * 2 := by omega
  have n2 : ¬ i * 2 = m * 2 := by omega
  have n3 : ¬ i * 2 + 1 = m * 2 + 1 := by omega
  have n4 : ¬ i * 2 = m * 2 + 1 := by omega
  simp only [Array.getElem?_setIfInBounds, n1, n2, n3, n4, if_false]
  exact h.high m (by omega) b

set_option maxHeartbeats 8000000 in
theorem compact_any (g cap : Nat) (c : Array Value) (l : List (Int × Int)) (w : World) (h : Bk w g c 71) (hs : c.size = cap * 2) (hc : l.length ≤ cap) (hm : cap ≤ maxLen) (hn : l.length ≤ 2097152) (hfill : Fill c l l.length) :
    Calls Tryz.prog 96 #[.slice (some ⟨g, 0, none⟩) l.length cap] w fun e w' =>
      ∃ c' : Array Value, e = .returned (.slice (some ⟨g, 0, none⟩) (compTo l l.length).length cap) ∧ Bk w' g c' 71 ∧ c'.size = cap * 2 ∧ Fill c' (compTo l l.length) (compTo l l.length).length ∧ Bx g w w' := by
  have HF : Hid (Fill c l l.length) := hfill
  have HS : Hid (c.size = cap * 2) := hs
  have HM : Hid (cap ≤ maxLen) := hm
  unfold maxLen at hm
  clear hfill
  by_cases h2 : l.length < 2
  · have e : Hid (compTo l l.length = l) := by
      show _ = _
      rw [comp_all (Nat.le_refl _) (fun j hj => kp_one (by omega)), List.take_length]
    have ih : ((l.length : Int) < 2) := by omega
    go_enter Tryz.func96, Tryz.ntmps96
    go_wp2_with fail
    go_ret
    rw [e.out]
    exact ⟨c, rfl, h, HS.out, HF.out, Bx.refl _ _⟩
  · have ih : ¬ ((l.length : Int) < 2) := by omega
    go_enter Tryz.func96, Tryz.ntmps96
    go_wp2_with fail
    go_loopw [3] (fun b wr => ∃ k : Nat, 1 ≤ k ∧ k ≤ l.length ∧ b = .int .i64 k ∧ (∀ j, j < k → kp l j = true) ∧ Below w.heap.size w wr) (fun b _ => l.length - (intOf b).toNat)
    case atStart => exact ⟨1, by omega, by omega, rfl, fun j hj => kp_one hj, Below.refl _ _⟩
    case round =>
      obtain ⟨k, hk1, hk, rfl, hall, hb⟩ := hrel
      have HA : Hid (∀ j, j < k → kp l j = true) := hall
      clear hall
      have hbk := h.keep hb
      by_cases hlt : k < l.length
      · have ik : ((k : Int) < (l.length : Int)) := by omega
        have c0 := hbk.cell (HF.out k hlt).1
        have c1 := hbk.cell (HF.out k hlt).2
        have p0 := hbk.cell (HF.out (k - 1) (by omega)).1
        have p1 := hbk.cell (HF.out (k - 1) (by omega)).2
        generalize hX : tA l k = X at *
        generalize hY : tB l k = Y at *
        generalize hX' : tA l (k - 1) = X' at *
        generalize hY' : tB l (k - 1) = Y' at *
        have EX : Hid (tA l k = X ∧ tB l k = Y ∧ tA l (k - 1) = X' ∧ tB l (k - 1) = Y') := ⟨hX, hY, hX', hY'⟩
        clear hX hY hX' hY'
        have hsplit : (X = X' ∧ Y = Y') ∨ (X == X') = false ∨ (X = X' ∧ (Y == Y') = false) := by
          by_cases e1 : X = X'
          · by_cases e2 : Y = Y'
            · exact .inl ⟨e1, e2⟩
            · exact .inr (.inr ⟨e1, beq_eq_false_iff_ne.2 e2⟩)
          · exact .inr (.inl (beq_eq_false_iff_ne.2 e1))
        rcases hsplit with ⟨rfl, rfl⟩ | hne
        · have hsf := slice_from g k l.length cap hlt hc
          have HI : Hid (CompI l k (k + 1) c) := CompI.start hlt (kp_no (by omega) (by rw [EX.out.1, EX.out.2.2.1]) (by rw [EX.out.2.1, EX.out.2.2.2])) HA.out HF.out
          clear HA
          go_wp2_with fail
          go_quiet (fail)
          go_wp2_with fail
          go_loopw [3, 5] (fun a b wr => ∃ (i q : Nat) (c' : Array Value), a = .int .i64 i ∧ b = .int .i64 q ∧ 1 ≤ q ∧ k + q ≤ l.length ∧ Hid (CompI l i (k + q) c') ∧ Bk wr g c' 71 ∧ c'.size = cap * 2 ∧ Bx g w wr) (fun _ b _ => l.length - (intOf b).toNat)
          case atStart => exact ⟨k, 1, c, rfl, rfl, by omega, by omega, HI, hbk.drewN _, HS.out, (Bx.of_below hb).drewN _⟩
          case round =>
            clear c0 c1 p0 p1 hbk
            obtain ⟨i, q, c', rfl, rfl, hq1, hq, HI2, hk2, hs2, hx2⟩ := hrel
            have hij := HI2.out.lt
            by_cases hlt2 : k + q < l.length
            · have ik2 : ((q : Int) < (l.length : Int) - (k : Int)) := by omega
              obtain ⟨m0, m1⟩ := HI2.out.high (k + q) (by omega) hlt2
              obtain ⟨n0, n1⟩ := HI2.out.high (k + q - 1) (by omega) (by omega)
              have d0 := hk2.cell m0
              have d1 := hk2.cell m1
              have e0 := hk2.cell n0
              have e1 := hk2.cell n1
              rw [show (k + q) * 2 = k * 2 + q * 2 by omega] at d0 d1
              rw [show (k + q - 1) * 2 = k * 2 + (q - 1) * 2 by omega] at e0 e1
              clear m0 m1 n0 n1
              generalize hU : tA l (k + q) = U at *
              generalize hV : tB l (k + q) = V at *
              generalize hU' : tA l (k + q - 1) = U' at *
              generalize hV' : tB l (k + q - 1) = V' at *
              have EU : Hid (tA l (k + q) = U ∧ tB l (k + q) = V ∧ tA l (k + q - 1) = U' ∧ tB l (k + q - 1) = V') := ⟨hU, hV, hU', hV'⟩
              clear hU hV hU' hV'
              have hsplit : (U = U' ∧ V = V') ∨ (U == U') = false ∨ (U = U' ∧ (V == V') = false) := by
                by_cases e1 : U = U'
                · by_cases e2 : V = V'
                  · exact .inl ⟨e1, e2⟩
                  · exact .inr (.inr ⟨e1, beq_eq_false_iff_ne.2 e2⟩)
                · exact .inr (.inl (beq_eq_false_iff_ne.2 e1))
              rcases hsplit with ⟨rfl, rfl⟩ | hne
              · have HN : Hid (CompI l i (k + (q + 1)) c') := HI2.out.skip hlt2 (kp_no (by omega) (by rw [EU.out.1, EU.out.2.2.1]) (by rw [EU.out.2.1, EU.out.2.2.2]))
                clear HI2 EU
                go_wp2_with fail
                go_quiet (fail)
                go_wp2_with fail
                go_roundw
                case rel => exact ⟨i, q + 1, c', rfl, by go_num, by omega, by omega, HN, hk2.drewN _, hs2, hx2.drewN _⟩
                case measure => simp [intOf]; omega
              · have HN : Hid (CompI l (i + 1) (k + (q + 1)) ((c'.setIfInBounds (i * 2) (.int .i64 U)).setIfInBounds (i * 2 + 1) (.int .i64 V))) := by
                  have h1 := HI2.out.keep hlt2 (by omega) (kp_yes fun e => by
                    rw [EU.out.1, EU.out.2.1, EU.out.2.2.1, EU.out.2.2.2] at e
                    obtain ⟨rfl, rfl⟩ := e
                    rcases hne with h | ⟨_, h⟩ <;> simp at h)
                  rw [EU.out.1, EU.out.2.1] at h1
                  exact h1
                clear HI2 EU
                rcases hne with hne | ⟨rfl, hne⟩
                all_goals
                  go_wp2_with fail
                  go_quiet (fail)
                  have hk3 := hk2.drewN nq
                  obtain ⟨y0, q0⟩ := cell_bk hk3 (i := i * 2) (by omega)
                  obtain ⟨y1, q1⟩ := cell_bk hk3 (i := i * 2 + 1) (by omega)
                  have f0 := hk3.free (i * 2)
                  have f1 := hk3.free (i * 2 + 1)
                  go_wp2_with fail
                  go_roundw
                  case rel =>
                    have hbk := (hk3.set (i * 2) (.int .i64 U)).set (i * 2 + 1) (.int .i64 V)
                    exact ⟨i + 1, q + 1, _, by go_num, by go_num, by omega, by omega, HN, hbk, by simpa using hs2, ((hx2.drewN _).setG rfl _).setG rfl _⟩
                  case measure => simp [intOf]; omega
            · have hend : k + q = l.length := by omega
              obtain ⟨w3, c3, hcl, b3, s3, l3, x3⟩ := clear_times (n := l.length) hk2 hs2 (i := i) (by omega) hc (cap - i)
              have hsf2 := slice_from g i l.length cap (by omega) hc
              have hsu := slice_upto g i l.length cap (by omega) hc
              have ik2 : ¬ ((q : Int) < (l.length : Int) - (k : Int)) := by omega
              have L3 := (show Hid _ from l3)
              clear l3
              go_wp2_with fail
              go_ret
              have hI := HI2.out
              rw [hend] at hI
              have e2 := hI.len
              refine ⟨by rw [e2]; rfl, c3, b3, by rw [s3]; exact hs2, ?_, hx2.trans x3⟩
              rw [e2]
              intro z hz
              rw [L3.out _ (by omega), L3.out _ (by omega)]
              exact hI.low z hz
        · have HK : Hid (kp l k = true) := kp_yes fun e => by
            rw [EX.out.1, EX.out.2.1, EX.out.2.2.1, EX.out.2.2.2] at e
            obtain ⟨rfl, rfl⟩ := e
            rcases hne with h | ⟨_, h⟩ <;> simp at h
          have HN : Hid (∀ j, j < k + 1 → kp l j = true) := fun j hj => by
            by_cases e : j = k
            · subst e; exact HK.out
            · exact HA.out j (by omega)
          clear HA HK EX
          rcases hne with hne | ⟨rfl, hne⟩
          all_goals
            go_wp2_with fail
            go_quiet (fail)
            go_wp2_with fail
            go_roundw
            case rel => exact ⟨k + 1, by omega, by omega, by go_num, HN.out, bDrewN hb _⟩
            case measure => simp [intOf]; omega
      · obtain rfl : k = l.length := by omega
        have ik : ¬ ((l.length : Int) < (l.length : Int)) := by omega
        have e : Hid (compTo l l.length = l) := by
          show _ = _
          rw [comp_all (Nat.le_refl _) HA.out, List.take_length]
        go_wp2_with fail
        go_ret
        rw [e.out]
        exact ⟨rfl, c, hbk, HS.out, HF.out, Bx.of_below hb⟩
end Go.Proofs.YtjkojbafifbdgaaGreat

/-! The times of rows, in order: plain facts. -/
namespace Go.Proofs.YtjkojbafifbdgaaGreat

/-- The times, one by one, in order. -/
def gT (i : Nat) : Int × Int := (((i / 8 : Nat) : Int), ((i % 8 : Nat) : Int))
def hasT (l : List Rw) (t : Int × Int) : Bool := l.any fun r => decide (r.1.2 = t)
def timesTo (l : List Rw) (n : Nat) : List (Int × Int) := ((List.range n).map gT).filter (hasT l)
def timesL (l : List Rw) : List (Int × Int) := if rokB l then timesTo l 64 else []
theorem timesTo_succ (l : List Rw) (n : Nat) : timesTo l (n + 1) = timesTo l n ++ (if hasT l (gT n) then [gT n] else []) := by
  unfold timesTo
  rw [List.range_succ, List.map_append, List.filter_append]
  congr 1
  by_cases h : hasT l (gT n) <;> simp [h]
theorem timesTo_len (l : List Rw) (n : Nat) : (timesTo l n).length ≤ n := by
  unfold timesTo
  exact Nat.le_trans (List.length_filter_le _ _) (by simp)
theorem times_len (l : List Rw) : (timesL l).length ≤ 400 := by
  unfold timesL
  split
  · exact Nat.le_trans (timesTo_len l 64) (by omega)
  · simp
theorem times_no {l : List Rw} (h : rokB l = false) : timesL l = [] := by simp [timesL, h]
theorem times_yes {l : List Rw} (h : rokB l = true) : timesL l = timesTo l 64 := by simp [timesL, h]
theorem ltT_iff {a b c d : Int} : ltT (a, b) (c, d) = true ↔ a < c ∨ (a = c ∧ b < d) := by simp [ltT]
theorem times_srt (l : List Rw) (n : Nat) : (timesTo l n).Pairwise fun p q => ltT p q = true := by
  refine List.Pairwise.filter _ ?_
  rw [List.pairwise_map]
  refine List.pairwise_lt_range.imp ?_
  intro a b h
  exact ltT_iff.2 (by omega)
theorem has_iff {l : List Rw} {t : Int × Int} : hasT l t = true ↔ ∃ r ∈ l, r.1.2 = t := by simp [hasT]
theorem times_mem {l : List Rw} (h : rokB l = true) (t : Int × Int) : t ∈ timesTo l 64 ↔ ∃ r ∈ l, r.1.2 = t := by
  unfold timesTo
  rw [List.mem_filter, has_iff]
  constructor
  · exact fun h => h.2
  · rintro ⟨r, hr, rfl⟩
    refine ⟨?_, r, hr, rfl⟩
    have h2 := rw_time (rok_at h hr)
    rw [okB_iff] at h2
    obtain ⟨⟨kv, A, B⟩, d⟩ := r
    dsimp only at h2 ⊢
    rw [List.mem_map]
    refine ⟨A.toNat * 8 + B.toNat, by rw [List.mem_range]; omega, ?_⟩
    unfold gT
    refine Prod.ext ?_ ?_
    · show ((_ / 8 : Nat) : Int) = A
      omega
    · show ((_ % 8 : Nat) : Int) = B
      omega
theorem order_ext {l m : List (Int × Int)} (hl : l.Pairwise fun p q => ltT p q = true) (hm : m.Pairwise fun p q => ltT p q = true) (h : ∀ t, t ∈ l ↔ t ∈ m) : l = m := by
  have e : l.map (fun t => (t, (1 : Int))) = m.map (fun t => (t, (1 : Int))) := by
    refine srt_ext ltT_ord ?_ ?_ ?_
    · unfold Srt; rw [List.pairwise_map]; exact hl
    · unfold Srt; rw [List.pairwise_map]; exact hm
    · intro r
      constructor
      · intro hr
        obtain ⟨t, ht, rfl⟩ := List.mem_map.1 hr
        exact List.mem_map.2 ⟨t, (h t).1 ht, rfl⟩
      · intro hr
        obtain ⟨t, ht, rfl⟩ := List.mem_map.1 hr
        exact List.mem_map.2 ⟨t, (h t).2 ht, rfl⟩
  have := congrArg (List.map Prod.fst) e
  simpa [Function.comp_def] using this
theorem tm_at {l : List (Int × Int)} {i : Nat} (h : i < l.length) : l[i] = (tA l i, tB l i) := by simp [tA, tB, h]
theorem comp_srt {l : List (Int × Int)} (hs : l.Pairwise fun p q => ltT q p = false) : (compTo l l.length).Pairwise fun p q => ltT p q = true := by
  have hg : ∀ i j, i < j → j < l.length → ¬ (tA l j < tA l i ∨ (tA l j = tA l i ∧ tB l j < tB l i)) := by
    intro i j hij hj
    have h1 := List.pairwise_iff_getElem.1 hs i j (by omega) hj hij
    rw [tm_at (show i < l.length by omega), tm_at hj] at h1
    intro hn
    rw [ltT_iff.2 hn] at h1; cases h1
  unfold compTo
  rw [List.pairwise_map]
  have h0 : ((List.range l.length).filter (kp l)).Pairwise (fun a b => a < b ∧ b < l.length ∧ kp l b = true) := by
    rw [List.pairwise_filter]
    have h1 : (List.range l.length).Pairwise (fun a b => a < b) := List.pairwise_lt_range
    rw [List.pairwise_iff_getElem] at h1 ⊢
    intro i j hi hj hij _ hk
    refine ⟨h1 i j hi hj hij, ?_, hk⟩
    simpa using hj
  refine h0.imp ?_
  rintro a b ⟨hab, hb, hk⟩
  refine ltT_iff.2 ?_
  have h1 := hg a b hab hb
  have h2 : ¬ (tA l b = tA l (b - 1) ∧ tB l b = tB l (b - 1)) := by
    simp only [kp, decide_eq_true_eq] at hk
    rcases hk with e | e
    · omega
    · exact e
  have h3 := hg (b - 1) b (by omega) hb
  have h4 : a = b - 1 ∨ ¬ (tA l (b - 1) < tA l a ∨ (tA l (b - 1) = tA l a ∧ tB l (b - 1) < tB l a)) := by
    by_cases e : a = b - 1
    · exact .inl e
    · exact .inr (hg a (b - 1) (by omega) (by omega))
  rcases h4 with e | h4
  · rw [← e] at h2; omega
  · omega
theorem comp_has (l : List (Int × Int)) : ∀ m i, i < m → (tA l i, tB l i) ∈ compTo l m
  | 0, i, h => by omega
  | m + 1, i, h => by
    rw [comp_succ]
    by_cases e : i < m
    · exact List.mem_append_left _ (comp_has l m i e)
    · obtain rfl : i = m := by omega
      by_cases hk : kp l i = true
      · rw [if_pos hk]; exact List.mem_append_right _ (by simp)
      · have h2 : ¬ (i = 0 ∨ ¬ (tA l i = tA l (i - 1) ∧ tB l i = tB l (i - 1))) := fun h => hk (by unfold kp; exact decide_eq_true h)
        have h3 : i ≠ 0 := fun h => h2 (.inl h)
        have h4 : tA l i = tA l (i - 1) ∧ tB l i = tB l (i - 1) := Classical.byContradiction fun h => h2 (.inr h)
        rw [h4.1, h4.2]
        exact List.mem_append_left _ (comp_has l i (i - 1) (by omega))
theorem comp_mem (l : List (Int × Int)) (t : Int × Int) : t ∈ compTo l l.length ↔ t ∈ l := by
  constructor
  · intro h
    unfold compTo at h
    obtain ⟨j, hj, rfl⟩ := List.mem_map.1 h
    have hj' : j < l.length := by simpa using (List.mem_filter.1 hj).1
    have := List.getElem_mem hj'
    rwa [tm_at hj'] at this
  · intro h
    obtain ⟨j, hj, rfl⟩ := List.getElem_of_mem h
    rw [tm_at hj]
    exact comp_has l _ j hj
theorem comp_times {l : List Rw} {m : List (Int × Int)} (h : rokB l = true) (hp : m.Perm (l.map fun r => r.1.2)) (hs : m.Pairwise fun p q => ltT q p = false) : compTo m m.length = timesL l := by
  rw [times_yes h]
  refine order_ext (comp_srt hs) (times_srt l 64) fun t => ?_
  rw [comp_mem, times_mem h, hp.mem_iff, List.mem_map]
end Go.Proofs.YtjkojbafifbdgaaGreat

/-! BatchTimes of the program: the contract. -/
namespace Go.Proofs.YtjkojbafifbdgaaGreat
open Go.RowKit

set_option maxHeartbeats 2000000 in
theorem compactN_any (w : World) :
    Calls Tryz.prog 96 #[.slice none 0 0] w fun e w' => e = .returned (.slice none 0 0) ∧ w' = w := by
  go_enter Tryz.func96, Tryz.ntmps96
  go_wp2_with fail
  go_ret
  exact ⟨rfl, rfl⟩
theorem compactO_any {B : Nat} {v : Value} {l : List (Int × Int)} {w : World} (h : Own w B v l) (hn : l.length ≤ 2097152) (hB : B ≤ w.heap.size) :
    Calls Tryz.prog 96 #[v] w fun e w' => ∃ o, e = .returned o ∧ Own w' B o (compTo l l.length) ∧ Below B w w' := by
  rcases own_open h with ⟨rfl, rfl⟩ | ⟨g, cap, c, rfl, hg, hb, hs, hc, hm, hfill⟩
  · refine (compactN_any w).mono ?_
    rintro e w' ⟨rfl, rfl⟩
    exact ⟨_, rfl, h, Below.refl _ _⟩
  · refine (compact_any g cap c l w hb hs hc hm hn hfill).mono ?_
    rintro e w' ⟨c', rfl, b', s', f', x'⟩
    have hle : (compTo l l.length).length ≤ cap := Nat.le_trans (comp_len _ _) hc
    exact ⟨_, rfl, own_of_fill b' f' s' hle hm hg, x'.bel hB hg⟩
theorem at_snoc {l : List Rw} {k : Nat} {r : Rw} (h : l[k]? = some r) : (l.take (k + 1)).map (fun r => r.1.2) = (l.take k).map (fun r => r.1.2) ++ [r.1.2] := by
  rw [take_snoc h, List.map_append]; rfl
set_option maxRecDepth 100000 in
set_option maxHeartbeats 4000000 in
theorem implTimes2_any (v : Value) (l : List Rw) (w : World) (h : Rs w v l) :
    Calls Tryz.prog 53 #[v] w fun e w' => ∃ o : Value, e = .returned o ∧ Own w' w.heap.size o (timesL l) ∧ Below w.heap.size w w' := by
  cases hk : rokB l
  · have HF : Hid (timesL l = []) := times_no hk
    go_enter Tryz.func53, Tryz.ntmps53
    go_wp2_with fail
    refine (implRowsOk_eq hk h).mono ?_
    rintro e w1 ⟨rfl, hb1⟩
    go_wp2_with fail
    go_ret
    refine ⟨_, rfl, ?_, hb1⟩
    rw [HF.out]
    exact ⟨rfl, .inl ⟨rfl, rfl⟩⟩
  have hl := rok_len hk
  have HT : Hid (∀ m : List (Int × Int), m.Perm (l.map fun r => r.1.2) → m.Pairwise (fun p q => ltT q p = false) → compTo m m.length = timesL l) := fun m => comp_times hk
  go_enter Tryz.func53, Tryz.ntmps53
  go_wp2_with fail
  refine (implRowsOk_eq hk h).mono ?_
  rintro e w1 ⟨rfl, hb1⟩
  have h1 := h.keep hb1
  clear h
  obtain ⟨a, cap, rfl, hc, hm, hn, hcells⟩ := Rs.open h1
  unfold maxLen at hm
  have HC := (show Hid _ from hcells)
  have hs1 := hb1.size
  clear hcells h1
  go_wp2_with fail
  go_loopw [3, 11] (fun o i wr => ∃ k : Nat, k ≤ l.length ∧ i = .int .i64 k ∧ Own wr w1.heap.size o ((l.take k).map fun r => r.1.2) ∧ Below w1.heap.size w1 wr) (fun _ i _ => l.length - (intOf i).toNat)
  case atStart => exact ⟨0, by omega, rfl, ⟨rfl, .inl ⟨rfl, rfl⟩⟩, Below.refl _ _⟩
  case round =>
    obtain ⟨k, hkl, rfl, hown, hb⟩ := hrel
    have HO : Hid (Own wr w1.heap.size u3 ((l.take k).map fun r => r.1.2)) := hown
    clear hown
    by_cases hlt : k < l.length
    · obtain ⟨g, off, K, V, A, B, D, rfl, hg, hr, c0, c1, c2, c3, c4⟩ := HC.out k hlt
      have HZ : Hid ((l.take (k + 1)).map (fun r => r.1.2) = (l.take k).map (fun r => r.1.2) ++ [(A, B)]) := at_snoc hr
      have d0 := cell_below hb c0
      have d1 := cell_below hb c1
      have d2 := cell_below hb c2
      have d3 := cell_below hb c3
      have d4 := cell_below hb c4
      have hL : ((l.take k).map fun r => r.1.2).length ≤ 400 := by simp; omega
      have ik : ((k : Int) < (l.length : Int)) := by omega
      have bt0 := Bk.new (w := wr) #[.int .i64 K, .int .i64 V, .int .i64 A, .int .i64 B, .int .i64 D] 74 rfl
      have hb' : Below w1.heap.size w1 (wr.alloc (.cells #[.int .i64 K, .int .i64 V, .int .i64 A, .int .i64 B, .int .i64 D] 74)) := bAlloc hb _
      have O1 : Own (wr.alloc (.cells #[.int .i64 K, .int .i64 V, .int .i64 A, .int .i64 B, .int .i64 D] 74)) w1.heap.size u3 ((l.take k).map fun r => r.1.2) := HO.out.alloc _
      clear c0 c1 c2 c3 c4 hr HO hb
      go_upto_region 7 with fail
      clear d0 d1 d2 d3 d4
      generalize wr.heap.size = tb at *
      generalize World.alloc _ _ = wt at *
      obtain ⟨y0, y1, y2, y3, y4⟩ := bt0.five
      have hs2 := hb'.size
      generalize (l.take k).map (fun r => r.1.2) = L at *
      go_wp2_with (at_builtin; refine appT _ rfl _ _ rfl w1.heap.size _ _ rfl (O1.alloc _) _ _ _ rfl (Bk.new _ _ rfl) (by omega) (by simp; omega) ?_; intro g7 cap7 w7 own7 hgrow hlg)
      have hb7 : Below w1.heap.size w1 w7 := Below.grew (bAlloc hb' _) hgrow (by simp; omega) (ownK_base O1)
      go_roundw
      case rel =>
        refine ⟨k + 1, by omega, by go_num, ?_, hb7⟩
        rw [HZ.out]; exact own7
      case measure => simp [intOf]; omega
    · obtain rfl : k = l.length := by omega
      have O1 : Own wr w1.heap.size u3 (l.map fun r => r.1.2) := by have := HO.out; rw [List.take_length] at this; exact this
      have hs2 := hb.size
      have hlen : (l.map fun r => r.1.2).length = l.length := by simp
      clear HO
      go_wp2_with fail
      refine (sortT_any O1 (by omega) hs2).mono ?_
      rintro e w2 ⟨rfl, m, hp, hso, own2, hb2⟩
      have hml : m.length = l.length := by rw [hp.length_eq, hlen]
      have HE : Hid (compTo m m.length = timesL l) := HT.out m hp hso
      have hb3 := hb.trans hb2
      have hs3 := hb3.size
      have O2 : Hid (Own w2 w1.heap.size u3 m) := own2
      clear own2 O1 HT hp hso
      go_wp2_with fail
      refine (compactO_any O2.out (by omega) hs3).mono ?_
      rintro e w3 ⟨o3, rfl, own3, hb4⟩
      have O3 : Hid (Own w3 w1.heap.size o3 (compTo m m.length)) := own3
      clear own3
      go_wp2_with fail
      go_ret
      refine ⟨_, rfl, ?_, bStep hb1 (hb3.trans hb4)⟩
      rw [← HE.out]
      exact own_less O3.out hs1
end Go.Proofs.YtjkojbafifbdgaaGreat

/-! BatchTimes of the model: the contract. -/
namespace Go.Proofs.YtjkojbafifbdgaaGreat
open Go.RowKit

theorem gT_at {k j : Nat} (h : j < 8) : gT (8 * k + j) = ((k : Int), (j : Int)) := by
  unfold gT
  rw [show (8 * k + j) / 8 = k by omega, show (8 * k + j) % 8 = j by omega]
theorem timesTo_no {l : List Rw} {k j : Nat} (hj : j < 8) (h : ∀ (i : Nat) (r : Rw), l[i]? = some r → r.1.2 ≠ ((k : Int), (j : Int))) : timesTo l (8 * k + (j + 1)) = timesTo l (8 * k + j) := by
  rw [← Nat.add_assoc, timesTo_succ, gT_at hj]
  have : hasT l ((k : Int), (j : Int)) = false := by
    rw [← Bool.not_eq_true, has_iff]
    rintro ⟨r, hr, e⟩
    obtain ⟨i, hi, rfl⟩ := List.getElem_of_mem hr
    exact h i _ (List.getElem?_eq_getElem hi) e
  rw [this]; simp
theorem timesTo_yes {l : List Rw} {k j i : Nat} {r : Rw} (hj : j < 8) (h : l[i]? = some r) (e : r.1.2 = ((k : Int), (j : Int))) : timesTo l (8 * k + (j + 1)) = timesTo l (8 * k + j) ++ [((k : Int), (j : Int))] := by
  rw [← Nat.add_assoc, timesTo_succ, gT_at hj, if_pos (has_iff.2 ⟨r, List.mem_of_getElem? h, e⟩)]
theorem own_empT (w : World) {B : Nat} (hB : B = w.heap.size) : Own (w.alloc (.cells #[] 71)) B (.slice (some ⟨B, 0, none⟩) 0 0) [] := by
  subst hB; exact own_empty w _ 2
end Go.Proofs.YtjkojbafifbdgaaGreat
