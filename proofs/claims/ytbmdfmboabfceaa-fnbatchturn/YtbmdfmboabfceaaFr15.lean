/- What DeleteFunc with the program's own function answers, of a row of its own. -/
import Derived.Test.YtbmdfmboabfceaaFr14
namespace Go.Proofs.Ytbmdfmboabfceaa
open Go.RowKit

/-- Those of the times than which x y is not earlier, or the same. -/
def offB (x y : Int) (p : Int × Int) : Bool := !leB x y p.1 p.2
theorem off_at {x y : Int} {l : List (Int × Int)} {j : Nat} (hj : j < l.length) : offB x y l[j] = !leB x y (tA l j) (tB l j) := by
  simp [offB, tA, tB, hj]
/-- How far it has come: i are kept of the first j. -/
structure DelInv (l : List (Int × Int)) (x y : Int) (i j : Nat) (c : Array Value) : Prop where
  lt : i < j
  le : j ≤ l.length
  len : ((l.take j).filter (offB x y)).length = i
  low : Fill c ((l.take j).filter (offB x y)) i
  high : ∀ m, j ≤ m → m < l.length → c[m * 2]? = some (.int .i64 (tA l m)) ∧ c[m * 2 + 1]? = some (.int .i64 (tB l m))
theorem take_filter (l : List (Int × Int)) (x y : Int) {j : Nat} (hj : j < l.length) : (l.take (j + 1)).filter (offB x y) = (l.take j).filter (offB x y) ++ (if leB x y (tA l j) (tB l j) then [] else [(tA l j, tB l j)]) := by
  have e : l[j] = (tA l j, tB l j) := by simp [tA, tB, hj]
  rw [List.take_add_one, List.getElem?_eq_getElem hj, List.filter_append]
  congr 1
  have := off_at (x := x) (y := y) hj
  cases h : leB x y (tA l j) (tB l j) <;> rw [h] at this <;> simp [this]
  exact e
theorem DelInv.start {l : List (Int × Int)} {x y : Int} {k : Nat} {c : Array Value} (hk : k < l.length) (hyes : leB x y (tA l k) (tB l k) = true) (hno : ∀ i, i < k → leB x y (tA l i) (tB l i) = false) (hf : Fill c l l.length) : DelInv l x y k (k + 1) c := by
  have e : (l.take (k + 1)).filter (offB x y) = l.take k := by
    rw [take_filter l x y hk, hyes, if_pos rfl, List.append_nil, List.filter_eq_self]
    intro a ha
    obtain ⟨i, hi, rfl⟩ := List.getElem_of_mem ha
    rw [List.length_take] at hi
    rw [List.getElem_take, off_at (by omega), hno i (by omega)]; rfl
  refine ⟨by omega, hk, by rw [e, List.length_take]; omega, fun i hi => ?_, fun m _ hm => hf m hm⟩
  have e1 : ∀ i, i < k → tA (l.take k) i = tA l i ∧ tB (l.take k) i = tB l i := by
    intro i hi
    have : i < (l.take k).length := by rw [List.length_take]; omega
    simp [tA, tB, hi]
  rw [e, (e1 i hi).1, (e1 i hi).2]
  exact hf i (by omega)
theorem DelInv.skip {l : List (Int × Int)} {x y : Int} {i j : Nat} {c : Array Value} (h : DelInv l x y i j c) (hj : j < l.length) (hy : leB x y (tA l j) (tB l j) = true) : DelInv l x y i (j + 1) c := by
  have e : (l.take (j + 1)).filter (offB x y) = (l.take j).filter (offB x y) := by rw [take_filter l x y hj, hy, if_pos rfl, List.append_nil]
  exact ⟨by have := h.lt; omega, hj, by rw [e]; exact h.len, by rw [e]; exact h.low, fun m h1 h2 => h.high m (by omega) h2⟩
theorem DelInv.keep {l : List (Int × Int)} {x y : Int} {i j : Nat} {c : Array Value} (h : DelInv l x y i j c) (hj : j < l.length) (hs : l.length * 2 ≤ c.size) (hy : leB x y (tA l j) (tB l j) = false) :
    DelInv l x y (i + 1) (j + 1) ((c.setIfInBounds (i * 2) (.int .i64 (tA l j))).setIfInBounds (i * 2 + 1) (.int .i64 (tB l j))) := by
  have hlt := h.lt
  have hlen := h.len
  have e : (l.take (j + 1)).filter (offB x y) = (l.take j).filter (offB x y) ++ [(tA l j, tB l j)] := by rw [take_filter l x y hj, hy]; rfl
  have hlow := h.low
  have h0 : Fill c ((l.take (j + 1)).filter (offB x y)) i := by
    intro q hq
    have := hlow q hq
    rw [e]
    have e1 : tA ((l.take j).filter (offB x y) ++ [(tA l j, tB l j)]) q = tA ((l.take j).filter (offB x y)) q ∧ tB ((l.take j).filter (offB x y) ++ [(tA l j, tB l j)]) q = tB ((l.take j).filter (offB x y)) q := by
      generalize (l.take j).filter (offB x y) = F at *
      have : q < F.length := by omega
      simp [tA, tB, List.getElem?_append, this]
    rw [e1.1, e1.2]; exact this
  have h1 := h0.step (k := i) (by omega)
  have e2 : tA ((l.take (j + 1)).filter (offB x y)) i = tA l j ∧ tB ((l.take (j + 1)).filter (offB x y)) i = tB l j := by
    rw [e]
    generalize (l.take j).filter (offB x y) = F at *
    generalize tA l j = X
    generalize tB l j = Y
    subst hlen
    simp [tA, tB]
  rw [e2.1, e2.2] at h1
  refine ⟨by omega, hj, by rw [e, List.length_append]; simp [hlen], h1, fun m a b => ?_⟩
  have n1 : ¬ i * 2 + 1 = m * 2 := by omega
  have n2 : ¬ i * 2 = m * 2 := by omega
  have n3 : ¬ i * 2 + 1 = m * 2 + 1 := by omega
  have n4 : ¬ i * 2 = m * 2 + 1 := by omega
  simp only [Array.getElem?_setIfInBounds, n1, n2, n3, n4, if_false]
  exact h.high m (by omega) b
theorem cell_bk {w : World} {g : Nat} {c : Array Value} {t : TypeId} (h : Bk w g c t) {i : Nat} (hi : i < c.size) : ∃ y, w.cell? ⟨g, i, none⟩ = some y := ⟨_, h.cell (Array.getElem?_eq_getElem hi)⟩
theorem Fk.keepx {g : Nat} {w w1 : World} {k : Nat} (h : Fk w k) (hb : Bx g w w1) (hk : k ≠ g) : Fk w1 k := by
  unfold Fk; rw [hb.block k (lt_of_block h) hk]; exact h

set_option maxHeartbeats 4000000 in
theorem deleteD_any (g cap : Nat) (c : Array Value) (l : List (Int × Int)) (x y : Int) (bn bx : Nat) (w : World) (h : Bk w g c 31) (hs : c.size = cap * 2) (hc : l.length ≤ cap) (hm : cap ≤ maxLen) (hn : l.length ≤ 2097152) (hfill : Fill c l l.length) (hf : Fk w bn) (hx : Bk w bx #[.int .i64 x, .int .i64 y] 31) (hbn : bn ≠ g) (hbx : bx ≠ g) :
    Calls Try.prog 170 #[.slice (some ⟨g, 0, none⟩) l.length cap, .func (.func 171) #[] #[.pointer (some ⟨bn, 0, none⟩), .pointer (some ⟨bx, 0, none⟩)]] w fun e w' =>
      ∃ c' : Array Value, e = .returned (.slice (some ⟨g, 0, none⟩) (l.filter (offB x y)).length cap) ∧ Bk w' g c' 31 ∧ c'.size = cap * 2 ∧ Fill c' (l.filter (offB x y)) (l.filter (offB x y)).length ∧ Bx g w w' := by
  go_enter Try.func170, Try.ntmps170
  go_wp2_with fail
  refine (indexD_any _ l x y bn bx w (Ts.of_blk h hfill hc hm hn) hf hx).mono ?_
  rintro e w1 ⟨r, rfl, hr, hb1⟩
  have hglt := h.lt
  rcases hr with ⟨rfl, hno⟩ | ⟨k, rfl, hk, hyes, hno⟩
  · have hfl : Hid (l.filter (offB x y) = l) := by
      show _ = _
      rw [List.filter_eq_self]
      intro a ha
      obtain ⟨i, hi, rfl⟩ := List.getElem_of_mem ha
      have : leB x y (tA l i) (tB l i) = false := hno i hi
      rw [off_at hi, this]; rfl
    have HF := (show Hid _ from hfill)
    clear hno hfill
    go_wp2_with fail
    go_ret
    rw [hfl.out]
    exact ⟨c, rfl, h.keep hb1, hs, HF.out, Bx.of_below hb1⟩
  · have HI : Hid (DelInv l x y k (k + 1) c) := DelInv.start hk hyes hno hfill
    have hne1 : ((k : Int) == -1) = false := beq_eq_false_iff_ne.2 (by omega)
    have h1 := h.keep hb1
    have HM := (show Hid _ from hm)
    clear hyes hno hfill
    unfold maxLen at hm
    go_wp2_with fail
    go_loopw [5, 6] (fun a b wr => ∃ (i j : Nat) (c' : Array Value), a = .int .i64 i ∧ b = .int .i64 j ∧ Hid (DelInv l x y i j c') ∧ Bk wr g c' 31 ∧ c'.size = cap * 2 ∧ Bx g w wr) (fun _ b _ => l.length - (intOf b).toNat)
    case atStart => exact ⟨k, k + 1, c, rfl, by go_num, HI, h1, hs, Bx.of_below hb1⟩
    case round =>
      obtain ⟨i, j, c', rfl, rfl, HI2, hk2, hs2, hx2⟩ := hrel
      have hij := HI2.out.lt
      have hjl := HI2.out.le
      by_cases hlt : j < l.length
      · obtain ⟨c0, c1⟩ := HI2.out.high j (Nat.le_refl _) hlt
        have d0 := hk2.cell c0
        have d1 := hk2.cell c1
        clear c0 c1
        generalize hX : tA l j = X at *
        generalize hY : tB l j = Y at *
        have EX : Hid (tA l j = X) := hX
        have EY : Hid (tB l j = Y) := hY
        clear hX hY
        have hglt2 := hk2.lt
        have fn2 := hf.keepx hx2 hbn
        have bx2 := hx.keepx hx2 hbx
        have hb2 : Below wr.heap.size wr (wr.alloc (.cells #[.int .i64 X, .int .i64 Y] 31)) := bAlloc (Below.refl _ _) _
        have bv := Bk.new (w := wr) #[.int .i64 X, .int .i64 Y] 31 rfl
        cases hp : leB x y X Y
        · go_wp2_with fail
          refine (closD_eq hp (fn2.keep hb2) (bx2.keep hb2)).mono ?_
          rintro e w2 ⟨rfl, hb3⟩
          have bv2 := bv.keep hb3
          have hk3 := (hk2.keep hb2).keep hb3
          have hb4 := bStep hb2 hb3
          obtain ⟨v0, v1, _, _⟩ := bv2.two
          obtain ⟨y0, q0⟩ := cell_bk hk3 (i := i * 2) (by omega)
          obtain ⟨y1, q1⟩ := cell_bk hk3 (i := i * 2 + 1) (by omega)
          have f0 := hk3.free (i * 2)
          have f1 := hk3.free (i * 2 + 1)
          clear hb2 hb3 bv bv2 fn2 bx2 d0 d1
          go_wp2_with fail
          go_roundw
          case rel =>
            have hbk := (hk3.set (i * 2) (.int .i64 X)).set (i * 2 + 1) (.int .i64 Y)
            refine ⟨i + 1, j + 1, _, by go_num, by go_num, ?_, hbk, by simpa using hs2, ?_⟩
            · have := HI2.out.keep hlt (by omega) (by rw [EX.out, EY.out]; exact hp)
              rw [EX.out, EY.out] at this
              exact this
            · exact (((hx2.trans (Bx.of_below hb4)).setG rfl _).setG rfl _)
          case measure => simp [intOf]; omega
        · go_wp2_with fail
          refine (closD_eq hp (fn2.keep hb2) (bx2.keep hb2)).mono ?_
          rintro e w2 ⟨rfl, hb3⟩
          have hk3 := (hk2.keep hb2).keep hb3
          have hb4 := bStep hb2 hb3
          clear hb2 hb3 bv fn2 bx2 d0 d1
          go_wp2_with fail
          go_roundw
          case rel =>
            refine ⟨i, j + 1, c', rfl, by go_num, ?_, hk3, hs2, hx2.trans (Bx.of_below hb4)⟩
            exact HI2.out.skip hlt (by rw [EX.out, EY.out]; exact hp)
          case measure => simp [intOf]; omega
      · obtain rfl : j = l.length := by omega
        obtain ⟨w3, c3, hcl, b3, s3, l3, x3⟩ := clear_times (n := l.length) hk2 hs2 hij hc (cap - i)
        have hsf := slice_from g i l.length cap hij hc
        have hsu := slice_upto g i l.length cap (Nat.le_of_lt hij) hc
        have L3 := (show Hid _ from l3)
        clear l3
        go_wp2_with fail
        go_ret
        have e1 : (l.take l.length).filter (offB x y) = l.filter (offB x y) := by rw [List.take_length]
        have e2 := HI2.out.len
        rw [e1] at e2
        refine ⟨c3, by rw [e2]; rfl, b3, by rw [s3]; exact hs2, ?_, hx2.trans x3⟩
        have e3 := HI2.out.low
        rw [e1] at e3
        rw [e2]
        intro q hq
        rw [L3.out _ (by omega), L3.out _ (by omega)]
        exact e3 q hq
end Go.Proofs.Ytbmdfmboabfceaa
