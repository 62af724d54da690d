/- What the clearing out of a list of times by a function that is handed on answers: contracts. -/
import Derived.Test.YtbmdfmboabfceaaGa5
import Derived.Test.YtbmdfmboabfceaaGa7
import Derived.Lib.SliceRun
import Derived.Test.YtbmdfmboabfceaaGa8
import Derived.Test.YtbmdfmboabfceaaGb3
/-! What the clearing out of a list of times by a function that is handed on answers: contracts. -/
namespace Go.Proofs.Ytbmdfmboabfceaa
open Go.RowKit

set_option maxHeartbeats 1000000 in
theorem closD_any (a b x y : Int) (bn bx : Nat) (w : World) (hf : Fk w bn) (hx : Bk w bx #[.int .i64 x, .int .i64 y] 31) :
    Calls Try.prog 171 #[tv a b, .pointer (some ⟨bn, 0, none⟩), .pointer (some ⟨bx, 0, none⟩)] w fun e w' => e = .returned (.bool (leB x y a b)) ∧ Below w.heap.size w w' := by
  have c0 := hf.cell
  obtain ⟨x0, x1, _, _⟩ := hx.two
  have l0 := lt_of_block hf
  have l1 := hx.lt
  go_enter Try.func171, Try.ntmps171
  go_wp2_with (go_at_call 68; refine (implLess_any _ _ _ _ _).mono ?_; rintro e w' ⟨rfl, hb⟩)
  go_ret
  refine ⟨rfl, ?_⟩
  repeat' (first | (with_reducible exact Below.refl _ _) | (with_reducible assumption) | (with_reducible refine bStep ?_ (by with_reducible assumption)) | (with_reducible refine bAlloc ?_ _) | (with_reducible refine Below.drew ?_) | (with_reducible refine bDrewN ?_ _) | (with_reducible refine Below.setCell ?_ ?_ _) | (simp; done) | (simp; omega) | omega)
theorem closD_eq {a b x y : Int} {r : Bool} (h : leB x y a b = r) {bn bx : Nat} {w : World} (hf : Fk w bn) (hx : Bk w bx #[.int .i64 x, .int .i64 y] 31) :
    Calls Try.prog 171 #[tv a b, .pointer (some ⟨bn, 0, none⟩), .pointer (some ⟨bx, 0, none⟩)] w fun e w' => e = .returned (.bool r) ∧ Below w.heap.size w w' := by
  rw [← h]; exact closD_any a b x y bn bx w hf hx

set_option maxHeartbeats 2000000 in
theorem indexD_any (v : Value) (l : List (Int × Int)) (x y : Int) (bn bx : Nat) (w : World) (h : Ts w v l) (hf : Fk w bn) (hx : Bk w bx #[.int .i64 x, .int .i64 y] 31) :
    Calls Try.prog 188 #[v, .func (.func 171) #[] #[.pointer (some ⟨bn, 0, none⟩), .pointer (some ⟨bx, 0, none⟩)]] w fun e w' => ∃ r : Int, e = .returned (.int .i64 r) ∧ IsFirst (fun i => leB x y (tA l i) (tB l i)) l.length r ∧ Below w.heap.size w w' := by
  obtain ⟨a, cap, rfl, hc, hm, hn, hcells⟩ := h
  unfold maxLen at hm
  have HC := (show Hid _ from hcells)
  clear hcells
  go_enter Try.func188, Try.ntmps188
  go_wp2_with fail
  go_loopw [8] (fun i wr => ∃ k : Nat, k ≤ l.length ∧ i = .int .i64 k ∧ (∀ j, j < k → leB x y (tA l j) (tB l j) = false) ∧ Below w.heap.size w wr) (fun i _ => l.length - (intOf i).toNat)
  case atStart => exact ⟨0, by omega, rfl, fun j hj => by omega, Below.refl _ _⟩
  case round =>
    obtain ⟨k, hk, rfl, hall, hb⟩ := hrel
    have HA := (show Hid _ from hall)
    clear hall
    by_cases hlt : k < l.length
    · obtain ⟨g, off, rfl, hg, c0, c1⟩ := HC.out k hlt
      have d0 := cell_below hb c0
      have d1 := cell_below hb c1
      clear c0 c1
      generalize hX : tA l k = X at *
      generalize hY : tB l k = Y at *
      have EX : Hid (tA l k = X) := hX
      have EY : Hid (tB l k = Y) := hY
      clear hX hY
      have hf2 := hf.keep hb
      have hx2 := hx.keep hb
      cases hp : leB x y X Y
      · have HK : Hid (leB x y (tA l k) (tB l k) = false) := by show _ = false; rw [EX.out, EY.out]; exact hp
        go_wp2_with fail
        refine (closD_eq hp hf2 hx2).mono ?_
        rintro e w1 ⟨rfl, hb1⟩
        have hbw := bStep hb hb1
        go_wp2_with fail
        go_roundw
        case rel =>
          refine ⟨k + 1, by omega, by go_num, fun j hj => ?_, hbw⟩
          by_cases e : j = k
          · subst e; exact HK.out
          · exact HA.out j (by omega)
        case measure => simp [intOf]; omega
      · have HK : Hid (leB x y (tA l k) (tB l k) = true) := by show _ = true; rw [EX.out, EY.out]; exact hp
        go_wp2_with fail
        refine (closD_eq hp hf2 hx2).mono ?_
        rintro e w1 ⟨rfl, hb1⟩
        have hbw := bStep hb hb1
        go_wp2_with fail
        go_ret
        exact ⟨_, rfl, .inr ⟨k, rfl, hlt, HK.out, HA.out⟩, hbw⟩
    · go_wp2_with fail
      go_ret
      exact ⟨_, rfl, .inl ⟨rfl, fun i hi => HA.out i (by omega)⟩, hb⟩


/-! ### Rows that are written into. -/
theorem take_of_fill {c : Array Value} {F : List (Int × Int)} (h : Fill c F F.length) : c.toList.take (F.length * 2) = cellsL F := by
  apply List.ext_getElem?
  intro i
  by_cases hi : i < F.length * 2
  · rw [List.getElem?_take, if_pos hi, Array.getElem?_toList]
    rcases Nat.mod_two_eq_zero_or_one i with e | e
    · obtain ⟨q, rfl⟩ : ∃ q, i = q * 2 := ⟨i / 2, by omega⟩
      rw [(h q (by omega)).1, (cellsL_get F q (by omega)).1]
    · obtain ⟨q, rfl⟩ : ∃ q, i = q * 2 + 1 := ⟨i / 2, by omega⟩
      rw [(h q (by omega)).2, (cellsL_get F q (by omega)).2]
  · rw [List.getElem?_take, if_neg hi, List.getElem?_eq_none (by rw [cellsL_length]; omega)]
theorem own_of_fill {w : World} {B g cap : Nat} {c : Array Value} {F : List (Int × Int)} (h : Bk w g c 31) (hf : Fill c F F.length) (hs : c.size = cap * 2) (hc : F.length ≤ cap) (hm : cap ≤ maxLen) (hg : B ≤ g) :
    Own w B (.slice (some ⟨g, 0, none⟩) F.length cap) F :=
  ⟨cellsL_length F, .inr ⟨g, cap, c, rfl, hg, h, hc, hm, hs, take_of_fill hf⟩⟩
/-- An owned row: nil, or a block of its own. -/
theorem own_open {w : World} {B : Nat} {v : Value} {l : List (Int × Int)} (h : Own w B v l) : (v = .slice none 0 0 ∧ l = []) ∨
    ∃ g cap c, v = .slice (some ⟨g, 0, none⟩) l.length cap ∧ B ≤ g ∧ Bk w g c 31 ∧ c.size = cap * 2 ∧ l.length ≤ cap ∧ cap ≤ maxLen ∧ Fill c l l.length := by
  obtain ⟨h1, ⟨rfl, h2⟩ | ⟨g, cap, cur, rfl, hg, hh, hc, hm, hs, ht⟩⟩ := h
  · exact .inl ⟨rfl, List.eq_nil_of_length_eq_zero h2⟩
  · refine .inr ⟨g, cap, cur, rfl, hg, hh, hs, hc, hm, fun i hi => ?_⟩
    have e : ∀ j, j < l.length * 2 → cur[j]? = (cellsL l)[j]? := by
      intro j hj
      rw [← ht, List.getElem?_take, if_pos hj, Array.getElem?_toList]
    rw [e _ (by omega), e _ (by omega)]
    exact cellsL_get l i hi
theorem Bk.setCells {g : Nat} {t : TypeId} (vs : List Value) : ∀ {w : World} {c : Array Value} (o : Nat), Bk w g c t → ∃ c' : Array Value, Bk (w.setCells g o vs) g c' t ∧ c'.size = c.size ∧ (∀ i, i < o → c'[i]? = c[i]?) ∧ Bx g w (w.setCells g o vs) := by
  induction vs with
  | nil => exact fun o h => ⟨_, h, rfl, fun _ _ => rfl, Bx.refl _ _⟩
  | cons v r ih =>
    intro w c o h
    obtain ⟨c', h1, h2, h3, h4⟩ := ih (o + 1) (h.set o v)
    refine ⟨c', h1, by rw [h2]; simp, fun i hi => ?_, (Bx.setG (Bx.refl g w) rfl v).trans h4⟩
    rw [h3 i (by omega), Array.getElem?_setIfInBounds, if_neg (by omega)]
/-- 'clear' of a part of a row of times. -/
theorem clear_times {w : World} {g i n cap : Nat} {c : Array Value} (h : Bk w g c 31) (hs : c.size = cap * 2) (hi : i < n) (hn : n ≤ cap) (c0 : Nat) :
    ∃ w' c', (∀ ty, (Builtin.clear_ #[37] ty #[.slice (some ⟨g, i * 2, none⟩) (n - i) c0]).run Try.prog w = .ok (.tuple #[]) w') ∧ Bk w' g c' 31 ∧ c'.size = c.size ∧ (∀ j, j < i * 2 → c'[j]? = c[j]?) ∧ Bx g w w' := by
  have hv : ∀ w, (zeroValue 31).run Try.prog w = .ok (.agg #[.int .i64 0, .int .i64 0]) w := fun w => Try.zeroValue31 w
  have hcs : (Value.agg #[.int .i64 0, .int .i64 0]).cells = #[.int .i64 0, .int .i64 0] := by simp [Value.cells]
  obtain ⟨c', h1, h2, h3, h4⟩ := h.setCells (Builtin.zeroCells (Value.agg #[.int .i64 0, .int .i64 0]).cells (n - i)).toList (i * 2)
  refine ⟨_, c', fun ty => ?_, h1, h2, h3, h4⟩
  have hlen : (Builtin.zeroCells (Value.agg #[.int .i64 0, .int .i64 0]).cells (n - i)).toList.length = (n - i) * 2 := by simp [Builtin.zeroCells, hcs]
  have hst := run_storeCells_cells (P := Try.prog) g (i * 2) (Builtin.zeroCells (Value.agg #[.int .i64 0, .int .i64 0]).cells (n - i)).toList 0 w
    (fun j hj => by rw [hlen] at hj; rw [Nat.add_zero, h.cell (Array.getElem?_eq_getElem (show i * 2 + j < c.size by omega))]; rfl) (fun j _ => h.free _)
    (fun v hv => by
      rw [hcs] at hv
      simp [Builtin.zeroCells] at hv
      obtain ⟨a, _, rfl⟩ := hv
      rcases Nat.mod_two_eq_zero_or_one a with e | e <;> simp [e] <;> rfl)
  simp only [Nat.add_zero] at hst
  obtain ⟨m, hm⟩ : ∃ m, n - i = m + 1 := ⟨n - i - 1, by omega⟩
  rw [hm] at hst ⊢
  simp [Builtin.clear_, run_underlying Try.underlying37, hv, hst]
theorem slice_from (g i n cap : Nat) (hi : i < n) (hn : n ≤ cap) (u : World) : (Instr.slice 37 (.slice (some ⟨g, 0, none⟩) n cap) (some (.int .i64 i)) Option.none Option.none).run Try.prog u = .ok (.slice (some ⟨g, i * 2, none⟩) (n - i) (cap - i)) u := by
  have ht : Try.prog.underlying 37 = some (.slice (Try.prog.elem 37)) := by kernel_rfl
  have hs : ∀ u : World, (sizeOf (Try.prog.elem 37)).run Try.prog u = .ok 2 u := fun u => by kernel_rfl
  rw [run_slice_l (P := Try.prog) u 37 _ _ _ ht .i64 i (by omega) (by omega), hs u]
  have hne : ¬ cap = i := by omega
  simp [Result.andThen, sliced, Addr.add, hne]; omega
theorem slice_upto (g i n cap : Nat) (hi : i ≤ n) (hn : n ≤ cap) (u : World) : (Instr.slice 37 (.slice (some ⟨g, 0, none⟩) n cap) Option.none (some (.int .i64 i)) Option.none).run Try.prog u = .ok (.slice (some ⟨g, 0, none⟩) i cap) u := by
  have ht : Try.prog.underlying 37 = some (.slice (Try.prog.elem 37)) := by kernel_rfl
  have hs : ∀ u : World, (sizeOf (Try.prog.elem 37)).run Try.prog u = .ok 2 u := fun u => by kernel_rfl
  rw [run_slice_h (P := Try.prog) u 37 _ _ _ ht .i64 i (by omega) (by omega), hs u]
  simp [Result.andThen, sliced, Addr.add]
end Go.Proofs.Ytbmdfmboabfceaa

/-! What DeleteFunc with the program's own function answers, of a row of its own. -/
namespace Go.Proofs.Ytbmdfmboabfceaa
open Go.RowKit

/-- Those of the times than which x y is not earlier, or the same. -/
def offB (x y : Int) (p : Int × Int) : Bool := !leB x y p.1 p.2
theorem off_at {x y : Int} {l : List (Int × Int)} {j : Nat} (hj : j < l.length) : offB x y l[j] = !leB x y (tA l j) (tB l j) := by
  simp [offB, tA, tB, hj]
/-- How far it has come: i are kept of the first j. -/
structure DelInv (l : List (Int × Int)) (x y : Int) (i j : Nat) (c : Array Value) : Prop where
  lt : i < j
  le : j ≤ l.length
  len : ((l.take j).filter (offB x y)).length = i
  low : Fill c ((l.take j).filter (offB x y)) i
  high : ∀ m, j ≤ m → m < l.length → c[m * 2]? = some (.int .i64 (tA l m)) ∧ c[m * 2 + 1]? = some (.int .i64 (tB l m))
theorem take_filter (l : List (Int × Int)) (x y : Int) {j : Nat} (hj : j < l.length) : (l.take (j + 1)).filter (offB x y) = (l.take j).filter (offB x y) ++ (if leB x y (tA l j) (tB l j) then [] else [(tA l j, tB l j)]) := by
  have e : l[j] = (tA l j, tB l j) := by simp [tA, tB, hj]
  rw [List.take_add_one, List.getElem?_eq_getElem hj, List.filter_append]
  congr 1
  have := off_at (x := x) (y := y) hj
  cases h : leB x y (tA l j) (tB l j) <;> rw [h] at this <;> simp [this]
  exact e
theorem DelInv.start {l : List (Int × Int)} {x y : Int} {k : Nat} {c : Array Value} (hk : k < l.length) (hyes : leB x y (tA l k) (tB l k) = true) (hno : ∀ i, i < k → leB x y (tA l i) (tB l i) = false) (hf : Fill c l l.length) : DelInv l x y k (k + 1) c := by
  have e : (l.take (k + 1)).filter (offB x y) = l.take k := by
    rw [take_filter l x y hk, hyes, if_pos rfl, List.append_nil, List.filter_eq_self]
    intro a ha
    obtain ⟨i, hi, rfl⟩ := List.getElem_of_mem ha
    rw [List.length_take] at hi
    rw [List.getElem_take, off_at (by omega), hno i (by omega)]; rfl
  refine ⟨by omega, hk, by rw [e, List.length_take]; omega, fun i hi => ?_, fun m _ hm => hf m hm⟩
  have e1 : ∀ i, i < k → tA (l.take k) i = tA l i ∧ tB (l.take k) i = tB l i := by
    intro i hi
    have : i < (l.take k).length := by rw [List.length_take]; omega
    simp [tA, tB, hi]
  rw [e, (e1 i hi).1, (e1 i hi).2]
  exact hf i (by omega)
theorem DelInv.skip {l : List (Int × Int)} {x y : Int} {i j : Nat} {c : Array Value} (h : DelInv l x y i j c) (hj : j < l.length) (hy : leB x y (tA l j) (tB l j) = true) : DelInv l x y i (j + 1) c := by
  have e : (l.take (j + 1)).filter (offB x y) = (l.take j).filter (offB x y) := by rw [take_filter l x y hj, hy, if_pos rfl, List.append_nil]
  exact ⟨by have := h.lt; omega, hj, by rw [e]; exact h.len, by rw [e]; exact h.low, fun m h1 h2 => h.high m (by omega) h2⟩
theorem DelInv.keep {l : List (Int × Int)} {x y : Int} {i j : Nat} {c : Array Value} (h : DelInv l x y i j c) (hj : j < l.length) (hs : l.length * 2 ≤ c.size) (hy : leB x y (tA l j) (tB l j) = false) :
    DelInv l x y (i + 1) (j + 1) ((c.setIfInBounds (i * 2) (.int .i64 (tA l j))).setIfInBounds (i * 2 + 1) (.int .i64 (tB l j))) := by
  have hlt := h.lt
  have hlen := h.len
  have e : (l.take (j + 1)).filter (offB x y) = (l.take j).filter (offB x y) ++ [(tA l j, tB l j)] := by rw [take_filter l x y hj, hy]; rfl
  have hlow := h.low
  have h0 : Fill c ((l.take (j + 1)).filter (offB x y)) i := by
    intro q hq
    have := hlow q hq
    rw [e]
    have e1 : tA ((l.take j).filter (offB x y) ++ [(tA l j, tB l j)]) q = tA ((l.take j).filter (offB x y)) q ∧ tB ((l.take j).filter (offB x y) ++ [(tA l j, tB l j)]) q = tB ((l.take j).filter (offB x y)) q := by
      generalize (l.take j).filter (offB x y) = F at *
      have : q < F.length := by omega
      simp [tA, tB, List.getElem?_append, this]
    rw [e1.1, e1.2]; exact this
  have h1 := h0.step (k := i) (by omega)
  have e2 : tA ((l.take (j + 1)).filter (offB x y)) i = tA l j ∧ tB ((l.take (j + 1)).filter (offB x y)) i = tB l j := by
    rw [e]
    generalize (l.take j).filter (offB x y) = F at *
    generalize tA l j = X
    generalize tB l j = Y
    subst hlen
    simp [tA, tB]
  rw [e2.1, e2.2] at h1
  refine ⟨by omega, hj, by rw [e, List.length_append]; simp [hlen], h1, fun m a b => ?_⟩
  have n1 : ¬ i * 2 + 1 = m * 2 := by omega
  have n2 : ¬ i * 2 = m * 2 := by omega
  have n3 : ¬ i * 2 + 1 = m * 2 + 1 := by omega
  have n4 : ¬ i * 2 = m * 2 + 1 := by omega
  simp only [Array.getElem?_setIfInBounds, n1, n2, n3, n4, if_false]
  exact h.high m (by omega) b
theorem cell_bk {w : World} {g : Nat} {c : Array Value} {t : TypeId} (h : Bk w g c t) {i : Nat} (hi : i < c.size) : ∃ y, w.cell? ⟨g, i, none⟩ = some y := ⟨_, h.cell (Array.getElem?_eq_getElem hi)⟩
theorem Fk.keepx {g : Nat} {w w1 : World} {k : Nat} (h : Fk w k) (hb : Bx g w w1) (hk : k ≠ g) : Fk w1 k := by
  unfold Fk; rw [hb.block k (lt_of_block h) hk]; exact h

set_option maxHeartbeats 4000000 in
theorem deleteD_any (g cap : Nat) (c : Array Value) (l : List (Int × Int)) (x y : Int) (bn bx : Nat) (w : World) (h : Bk w g c 31) (hs : c.size = cap * 2) (hc : l.length ≤ cap) (hm : cap ≤ maxLen) (hn : l.length ≤ 2097152) (hfill : Fill c l l.length) (hf : Fk w bn) (hx : Bk w bx #[.int .i64 x, .int .i64 y] 31) (hbn : bn ≠ g) (hbx : bx ≠ g) :
    Calls Try.prog 170 #[.slice (some ⟨g, 0, none⟩) l.length cap, .func (.func 171) #[] #[.pointer (some ⟨bn, 0, none⟩), .pointer (some ⟨bx, 0, none⟩)]] w fun e w' =>
      ∃ c' : Array Value, e = .returned (.slice (some ⟨g, 0, none⟩) (l.filter (offB x y)).length cap) ∧ Bk w' g c' 31 ∧ c'.size = cap * 2 ∧ Fill c' (l.filter (offB x y)) (l.filter (offB x y)).length ∧ Bx g w w' := by
  go_enter Try.func170, Try.ntmps170
  go_wp2_with fail
  refine (indexD_any _ l x y bn bx w (Ts.of_blk h hfill hc hm hn) hf hx).mono ?_
  rintro e w1 ⟨r, rfl, hr, hb1⟩
  have hglt := h.lt
  rcases hr with ⟨rfl, hno⟩ | ⟨k, rfl, hk, hyes, hno⟩
  · have hfl : Hid (l.filter (offB x y) = l) := by
      show _ = _
      rw [List.filter_eq_self]
      intro a ha
      obtain ⟨i, hi, rfl⟩ := List.getElem_of_mem ha
      have : leB x y (tA l i) (tB l i) = false := hno i hi
      rw [off_at hi, this]; rfl
    have HF := (show Hid _ from hfill)
    clear hno hfill
    go_wp2_with fail
    go_ret
    rw [hfl.out]
    exact ⟨c, rfl, h.keep hb1, hs, HF.out, Bx.of_below hb1⟩
  · have HI : Hid (DelInv l x y k (k + 1) c) := DelInv.start hk hyes hno hfill
    have hne1 : ((k : Int) == -1) = false := beq_eq_false_iff_ne.2 (by omega)
    have h1 := h.keep hb1
    have HM := (show Hid _ from hm)
    clear hyes hno hfill
    unfold maxLen at hm
    go_wp2_with fail
    go_loopw [5, 6] (fun a b wr => ∃ (i j : Nat) (c' : Array Value), a = .int .i64 i ∧ b = .int .i64 j ∧ Hid (DelInv l x y i j c') ∧ Bk wr g c' 31 ∧ c'.size = cap * 2 ∧ Bx g w wr) (fun _ b _ => l.length - (intOf b).toNat)
    case atStart => exact ⟨k, k + 1, c, rfl, by go_num, HI, h1, hs, Bx.of_below hb1⟩
    case round =>
      obtain ⟨i, j, c', rfl, rfl, HI2, hk2, hs2, hx2⟩ := hrel
      have hij := HI2.out.lt
      have hjl := HI2.out.le
      by_cases hlt : j < l.length
      · obtain ⟨c0, c1⟩ := HI2.out.high j (Nat.le_refl _) hlt
        have d0 := hk2.cell c0
        have d1 := hk2.cell c1
        clear c0 c1
        generalize hX : tA l j = X at *
        generalize hY : tB l j = Y at *
        have EX : Hid (tA l j = X) := hX
        have EY : Hid (tB l j = Y) := hY
        clear hX hY
        have hglt2 := hk2.lt
        have fn2 := hf.keepx hx2 hbn
        have bx2 := hx.keepx hx2 hbx
        have hb2 : Below wr.heap.size wr (wr.alloc (.cells #[.int .i64 X, .int .i64 Y] 31)) := bAlloc (Below.refl _ _) _
        have bv := Bk.new (w := wr) #[.int .i64 X, .int .i64 Y] 31 rfl
        cases hp : leB x y X Y
        · go_wp2_with fail
          refine (closD_eq hp (fn2.keep hb2) (bx2.keep hb2)).mono ?_
          rintro e w2 ⟨rfl, hb3⟩
          have bv2 := bv.keep hb3
          have hk3 := (hk2.keep hb2).keep hb3
          have hb4 := bStep hb2 hb3
          obtain ⟨v0, v1, _, _⟩ := bv2.two
          obtain ⟨y0, q0⟩ := cell_bk hk3 (i := i * 2) (by omega)
          obtain ⟨y1, q1⟩ := cell_bk hk3 (i := i * 2 + 1) (by omega)
          have f0 := hk3.free (i * 2)
          have f1 := hk3.free (i * 2 + 1)
          clear hb2 hb3 bv bv2 fn2 bx2 d0 d1
          go_wp2_with fail
          go_roundw
          case rel =>
            have hbk := (hk3.set (i * 2) (.int .i64 X)).set (i * 2 + 1) (.int .i64 Y)
            refine ⟨i + 1, j + 1, _, by go_num, by go_num, ?_, hbk, by simpa using hs2, ?_⟩
            · have := HI2.out.keep hlt (by omega) (by rw [EX.out, EY.out]; exact hp)
              rw [EX.out, EY.out] at this
              exact this
            · exact (((hx2.trans (Bx.of_below hb4)).setG rfl _).setG rfl _)
          case measure => simp [intOf]; omega
        · go_wp2_with fail
          refine (closD_eq hp (fn2.keep hb2) (bx2.keep hb2)).mono ?_
          rintro e w2 ⟨rfl, hb3⟩
          have hk3 := (hk2.keep hb2).keep hb3
          have hb4 := bStep hb2 hb3
          clear hb2 hb3 bv fn2 bx2 d0 d1
          go_wp2_with fail
          go_roundw
          case rel =>
            refine ⟨i, j + 1, c', rfl, by go_num, ?_, hk3, hs2, hx2.trans (Bx.of_below hb4)⟩
            exact HI2.out.skip hlt (by rw [EX.out, EY.out]; exact hp)
          case measure => simp [intOf]; omega
      · obtain rfl : j = l.length := by omega
        obtain ⟨w3, c3, hcl, b3, s3, l3, x3⟩ := clear_times (n := l.length) hk2 hs2 hij hc (cap - i)
        have hsf := slice_from g i l.length cap hij hc
        have hsu := slice_upto g i l.length cap (Nat.le_of_lt hij) hc
        have L3 := (show Hid _ from l3)
        clear l3
        go_wp2_with fail
        go_ret
        have e1 : (l.take l.length).filter (offB x y) = l.filter (offB x y) := by rw [List.take_length]
        have e2 := HI2.out.len
        rw [e1] at e2
        refine ⟨c3, by rw [e2]; rfl, b3, by rw [s3]; exact hs2, ?_, hx2.trans x3⟩
        have e3 := HI2.out.low
        rw [e1] at e3
        rw [e2]
        intro q hq
        rw [L3.out _ (by omega), L3.out _ (by omega)]
        exact e3 q hq
end Go.Proofs.Ytbmdfmboabfceaa

/-! What the earliest of times are, and that the program's earliest answers so. -/
namespace Go.Proofs.Ytbmdfmboabfceaa
open Go.RowKit

theorem own_lt {w : World} {B : Nat} {v : Value} {l : List (Int × Int)} (h : Own w B v l) : ∀ k, v.ownBlock = some k → k < w.heap.size := by
  intro k hk
  rcases own_open h with ⟨rfl, _⟩ | ⟨g, cap, c, rfl, _, hb, _⟩
  · cases hk
  · have : g = k := by simpa [Value.ownBlock] using hk
    subst this; exact hb.lt

set_option maxHeartbeats 2000000 in
theorem deleteN_any (x y : Int) (bn bx : Nat) (w : World) (hf : Fk w bn) (hx : Bk w bx #[.int .i64 x, .int .i64 y] 31) :
    Calls Try.prog 170 #[.slice none 0 0, .func (.func 171) #[] #[.pointer (some ⟨bn, 0, none⟩), .pointer (some ⟨bx, 0, none⟩)]] w fun e w' => e = .returned (.slice none 0 0) ∧ Below w.heap.size w w' := by
  have ht : Ts w (.slice none 0 0) [] := ⟨none, 0, rfl, Nat.le_refl _, by unfold maxLen; omega, Nat.zero_le _, fun i hi => by simp at hi⟩
  go_enter Try.func170, Try.ntmps170
  go_wp2_with fail
  refine (indexD_any _ [] x y bn bx w ht hf hx).mono ?_
  rintro e w1 ⟨r, rfl, hr, hb1⟩
  rcases hr with ⟨rfl, _⟩ | ⟨k, _, hk, _, _⟩
  · go_wp2_with fail
    go_ret
    exact ⟨rfl, hb1⟩
  · simp at hk

theorem deleteO_any {B : Nat} {v : Value} {l : List (Int × Int)} {x y : Int} {bn bx : Nat} {w : World} (h : Own w B v l) (hn : l.length ≤ 2097152) (hf : Fk w bn) (hx : Bk w bx #[.int .i64 x, .int .i64 y] 31) (hbn : bn < B) (hB : B ≤ w.heap.size) (hbx : ∀ k, v.ownBlock = some k → k < bx) :
    Calls Try.prog 170 #[v, .func (.func 171) #[] #[.pointer (some ⟨bn, 0, none⟩), .pointer (some ⟨bx, 0, none⟩)]] w fun e w' =>
      ∃ o, e = .returned o ∧ Own w' B o (l.filter (offB x y)) ∧ Bk w' bx #[.int .i64 x, .int .i64 y] 31 ∧ Below B w w' := by
  rcases own_open h with ⟨rfl, rfl⟩ | ⟨g, cap, c, rfl, hg, hb, hs, hc, hm, hfill⟩
  · refine (deleteN_any x y bn bx w hf hx).mono ?_
    rintro e w' ⟨rfl, hb⟩
    exact ⟨_, rfl, own_keep h hb, hx.keep hb, Bx.bel (g := B) (Bx.of_below hb) hB (Nat.le_refl _)⟩
  · have hlt := hbx g rfl
    refine (deleteD_any g cap c l x y bn bx w hb hs hc hm hn hfill hf hx (by omega) (by omega)).mono ?_
    rintro e w' ⟨c', rfl, b', s', f', x'⟩
    have hle : (l.filter (offB x y)).length ≤ cap := Nat.le_trans (List.length_filter_le _ _) hc
    exact ⟨_, rfl, own_of_fill b' f' s' hle hm hg, hx.keepx x' (by omega), x'.bel hB hg⟩

/-- One more time: kept if none of those kept is not later; then those that it is not later than go. -/
def earlStep (acc : List (Int × Int)) (p : Int × Int) : List (Int × Int) := if anyB acc p.1 p.2 then acc else acc.filter (offB p.1 p.2) ++ [p]
def earlTo (l : List (Int × Int)) (k : Nat) : List (Int × Int) := (l.take k).foldl earlStep []
theorem earlTo_succ (l : List (Int × Int)) {k : Nat} (hk : k < l.length) : earlTo l (k + 1) = earlStep (earlTo l k) (tA l k, tB l k) := by
  have e : l[k] = (tA l k, tB l k) := by simp [tA, tB, hk]
  unfold earlTo
  rw [List.take_add_one, List.getElem?_eq_getElem hk, List.foldl_append, ← e]; rfl
theorem earlTo_len (l : List (Int × Int)) : ∀ k, k ≤ l.length → (earlTo l k).length ≤ k := by
  intro k
  induction k with
  | zero => intro _; simp [earlTo]
  | succ k ih =>
    intro hk
    have := ih (by omega)
    rw [earlTo_succ l (by omega)]
    unfold earlStep
    split
    · omega
    · have := List.length_filter_le (offB (tA l k) (tB l k)) (earlTo l k)
      simp; omega
theorem reaches_eq {l : List (Int × Int)} {x y : Int} {r : Bool} (h : anyB l x y = r) {v : Value} {w : World} (ht : Ts w v l) :
    Calls Try.prog 121 #[v, tv x y, .func (.func 68) #[] #[]] w fun e w' => e = .returned (.bool r) ∧ Below w.heap.size w w' := by
  rw [← h]; exact reaches_any v l x y w ht

set_option maxHeartbeats 8000000 in
theorem earliest_any (v : Value) (l : List (Int × Int)) (w : World) (h : Ts w v l) :
    Calls Try.prog 125 #[v, .func (.func 68) #[] #[]] w fun e w' => ∃ o : Value, e = .returned o ∧ Own w' w.heap.size o (earlTo l l.length) ∧ Below w.heap.size w w' := by
  obtain ⟨i0, hi, hz0, hz1, hz2⟩ := info_parts infoT
  obtain ⟨a, cap, rfl, hc, hm, hn, hcells⟩ := h
  unfold maxLen at hm
  have HC := (show Hid _ from hcells)
  clear hcells
  have hf0 : Fk (w.alloc (.cells #[.func (.func 68) #[] #[]] 56)) w.heap.size := heap_alloc_new w _
  have hb01 : Below w.heap.size w (w.alloc (.cells #[.func (.func 68) #[] #[]] 56)) := bAlloc (Below.refl _ _) _
  have hsz1 : (w.alloc (.cells #[.func (.func 68) #[] #[]] 56)).heap.size = w.heap.size + 1 := by simp
  go_enter Try.func125, Try.ntmps125
  go_wp2_with fail
  generalize w.alloc (.cells #[.func (.func 68) #[] #[]] 56) = w1 at *
  go_loopw [5, 10] (fun o b wr => ∃ k : Nat, k ≤ l.length ∧ b = .int .i64 k ∧ Own wr w1.heap.size o (earlTo l k) ∧ Below w1.heap.size w1 wr) (fun _ b _ => l.length - (intOf b).toNat)
  case atStart => exact ⟨0, by omega, rfl, ⟨rfl, .inl ⟨rfl, rfl⟩⟩, Below.refl _ _⟩
  case round =>
    obtain ⟨k, hk, rfl, hown, hb⟩ := hrel
    have HO := (show Hid _ from hown)
    have hlen := earlTo_len l k hk
    have hfr := hf0.keep hb
    have hszr := hb.size
    by_cases hlt : k < l.length
    · obtain ⟨g, off, rfl, hg, c0, c1⟩ := HC.out k hlt
      have d0 := cell_below hb (cell_below hb01 c0)
      have d1 := cell_below hb (cell_below hb01 c1)
      have HS : Hid (earlTo l (k + 1) = earlStep (earlTo l k) (tA l k, tB l k)) := earlTo_succ l hlt
      clear c0 c1 hown
      generalize earlTo l k = l1 at *
      generalize tA l k = X at *
      generalize tB l k = Y at *
      have hbx : Below wr.heap.size wr (wr.alloc (.cells #[.int .i64 X, .int .i64 Y] 31)) := bAlloc (Below.refl _ _) _
      have bv := Bk.new (w := wr) #[.int .i64 X, .int .i64 Y] 31 rfl
      have hfx := (hfr.keep hbx).cell
      have tsx := Own.ts (own_keep HO.out hbx) (by omega)
      cases hany : anyB l1 X Y
      · have HZ : Hid (earlTo l (k + 1) = l1.filter (offB X Y) ++ [(X, Y)]) := by show _ = _; rw [HS.out]; unfold earlStep; rw [if_neg (by rw [hany]; simp)]
        have hfl := List.length_filter_le (offB X Y) l1
        have hobl := own_lt HO.out
        go_wp2_with fail
        refine (reaches_eq hany tsx).mono ?_
        rintro e w2 ⟨rfl, hb2⟩
        have hb3 := bStep hbx hb2
        have bv2 := bv.keep hb2
        have hs2 := hb3.size
        have hf2 := hfr.keep hb3
        have hb4 := bStep hb hb3
        have o2 := own_keep HO.out hb3
        clear hbx hb2 bv tsx hfx d0 d1 HO
        go_wp2_with fail
        refine (deleteO_any o2 (by omega) hf2 bv2 (by omega) (by omega) hobl).mono ?_
        rintro e w3 ⟨o3, rfl, OW, bv3, hb5⟩
        have hbw := hb4.trans hb5
        have hs3 := hbw.size
        obtain ⟨v0, v1, _, _⟩ := bv3.two
        clear hb5 bv2 hf2 o2
        generalize l1.filter (offB X Y) = l3 at *
        go_wp2_with (at_builtin; refine wpList_append_lies _ rfl _ _ 37 rfl w1.heap.size 31 i0 (.agg #[.int .i64 0, .int .i64 0]) 2 16 Try.underlying37 hi hz0 hz1 hz2 rfl (by decide) _ _ _ rfl (OW.alloc _) ⟨w3.heap.size, 0, none⟩ 1 1 [.int .i64 X, .int .i64 Y] rfl rfl (news2 _ _ _ _) (ones2 _ _) (by omega) (by unfold maxLen; omega) (by omega) (by simp; omega) (w3.heap.size + 1) (by simp) ?_; intro g3 cap3 w4 hown3 hgrow hat hlg)
        have hb6 : Below w1.heap.size w1 w4 := (bAlloc hbw _).grown hgrow (by simp; omega) (own_base OW)
        go_roundw
        case rel =>
          refine ⟨k + 1, by omega, by go_num, ?_, hb6⟩
          rw [HZ.out]
          show w4.ownsRow _ _ _ _ _ _
          rw [cellsL_snoc]; simpa using hown3
        case measure => simp [intOf]; omega
      · have HZ : Hid (earlTo l (k + 1) = l1) := by show _ = _; rw [HS.out]; unfold earlStep; rw [if_pos hany]
        go_wp2_with fail
        refine (reaches_eq hany tsx).mono ?_
        rintro e w2 ⟨rfl, hb2⟩
        have hb3 := bStep hbx hb2
        have hb4 := bStep hb hb3
        clear hbx hb2 bv tsx
        go_wp2_with fail
        go_roundw
        case rel => exact ⟨k + 1, by omega, by go_num, by rw [HZ.out]; exact own_keep HO.out hb3, hb4⟩
        case measure => simp [intOf]; omega
    · obtain rfl : k = l.length := by omega
      go_wp2_with fail
      go_ret
      exact ⟨_, rfl, own_less HO.out (by omega), hb01.trans (Bx.bel (g := w.heap.size) (Bx.of_below hb) (by omega) (by omega))⟩
end Go.Proofs.Ytbmdfmboabfceaa

/-! What the sort of a short row of times by their first number answers. -/
namespace Go.Proofs.Ytbmdfmboabfceaa
open Go.RowKit

set_option maxHeartbeats 2000000 in
theorem closC_any (a b x y : Int) (w : World) : Calls Try.prog 126 #[tv a b, tv x y] w fun e w' => e = .returned (.int .i64 (cmpZ a x)) ∧ Below w.heap.size w w' := by
  go_enter Try.func126, Try.ntmps126
  go_wp2_with (go_at_call 127; refine (compare_any _ _ _).mono ?_; rintro e w' ⟨rfl, rfl⟩)
  go_ret
  refine ⟨rfl, ?_⟩
  repeat' (first | (with_reducible exact Below.refl _ _) | (with_reducible assumption) | (with_reducible refine bStep ?_ (by with_reducible assumption)) | (with_reducible refine bAlloc ?_ _) | (with_reducible refine Below.drew ?_) | (with_reducible refine bDrewN ?_ _) | (with_reducible refine Below.setCell ?_ ?_ _) | (simp; done) | (simp; omega) | omega)
theorem closC_eq {a x : Int} {r : Int} (h : cmpZ a x = r) (b y : Int) (w : World) : Calls Try.prog 126 #[tv a b, tv x y] w fun e w' => e = .returned (.int .i64 r) ∧ Below w.heap.size w w' := by
  rw [← h]; exact closC_any a b x y w
theorem tA_set (L : List (Int × Int)) {i : Nat} (hi : i < L.length) (p : Int × Int) (k : Nat) : tA (L.set i p) k = if i = k then p.1 else tA L k := by
  unfold tA; rw [List.getD_eq_getElem?_getD, List.getElem?_set]
  by_cases h : i = k
  · subst h; simp [hi]
  · simp [h]
theorem tB_set (L : List (Int × Int)) {i : Nat} (hi : i < L.length) (p : Int × Int) (k : Nat) : tB (L.set i p) k = if i = k then p.2 else tB L k := by
  unfold tB; rw [List.getD_eq_getElem?_getD, List.getElem?_set]
  by_cases h : i = k
  · subst h; simp [hi]
  · simp [h]
theorem Fill.set {c : Array Value} {L : List (Int × Int)} {n i : Nat} (h : Fill c L n) (hi : i < n) (hn : n = L.length) (hs : n * 2 ≤ c.size) (X Y : Int) :
    Fill ((c.setIfInBounds (i * 2) (.int .i64 X)).setIfInBounds (i * 2 + 1) (.int .i64 Y)) (L.set i (X, Y)) n := by
  intro k hk
  rw [tA_set L (by omega), tB_set L (by omega)]
  by_cases e : i = k
  · subst e
    rw [if_pos rfl, if_pos rfl]
    have n2 : i * 2 < c.size := by omega
    have n3 : i * 2 + 1 < c.size := by omega
    simp [n2, n3]
  · rw [if_neg e, if_neg e]
    have n1 : ¬ i * 2 + 1 = k * 2 := by omega
    have n2 : ¬ i * 2 = k * 2 := by omega
    have n3 : ¬ i * 2 + 1 = k * 2 + 1 := by omega
    have n4 : ¬ i * 2 = k * 2 + 1 := by omega
    simp only [Array.getElem?_setIfInBounds, n1, n2, n3, n4, if_false]
    exact h k hk
/-- Two neighbours turned. -/
def swp (L : List (Int × Int)) (j : Nat) : List (Int × Int) := (L.set (j + 1) (tA L j, tB L j)).set j (tA L (j + 1), tB L (j + 1))
theorem swp_len (L : List (Int × Int)) (j : Nat) : (swp L j).length = L.length := by simp [swp]
theorem swp_perm (L : List (Int × Int)) {j : Nat} (h : j + 1 < L.length) : (swp L j).Perm L := by
  have e1 : (tA L j, tB L j) = L[j] := by simp [tA, tB, show j < L.length by omega]
  have e2 : (tA L (j + 1), tB L (j + 1)) = L[j + 1] := by simp [tA, tB, h]
  unfold swp
  rw [e1, e2]
  exact List.set_set_perm h (by omega)
theorem swp_tA (L : List (Int × Int)) {j : Nat} (h : j + 1 < L.length) (k : Nat) : tA (swp L j) k = if j = k then tA L (j + 1) else if j + 1 = k then tA L j else tA L k := by
  unfold swp
  rw [tA_set _ (by simp; omega), tA_set _ h]
/-- How far the sort has come: the first i + 1 are in order, but for the one at j, which is not greater than those behind it. -/
structure InsInv (L : List (Int × Int)) (i j : Nat) : Prop where
  rest : ∀ a b, a < b → b ≤ i → a ≠ j → b ≠ j → tA L a ≤ tA L b
  here : ∀ b, j < b → b ≤ i → tA L j ≤ tA L b
def Sorted (L : List (Int × Int)) (i : Nat) : Prop := ∀ a b, a < b → b < i → tA L a ≤ tA L b
theorem InsInv.start {L : List (Int × Int)} {i : Nat} (h : Sorted L i) : InsInv L i i := ⟨fun a b h1 h2 _ h4 => h a b h1 (by omega), fun b h1 h2 => by omega⟩
theorem InsInv.end0 {L : List (Int × Int)} {i : Nat} (h : InsInv L i 0) : Sorted L (i + 1) := fun a b h1 h2 => by
  by_cases e : a = 0
  · subst e; exact h.here b h1 (by omega)
  · exact h.rest a b h1 (by omega) e (by omega)
theorem InsInv.end1 {L : List (Int × Int)} {i j : Nat} (h : InsInv L i (j + 1)) (hle : tA L j ≤ tA L (j + 1)) : Sorted L (i + 1) := fun a b h1 h2 => by
  by_cases e : a = j + 1
  · subst e; exact h.here b h1 (by omega)
  · by_cases e' : b = j + 1
    · subst e'
      by_cases e2 : a = j
      · subst e2; exact hle
      · exact Int.le_trans (h.rest a j (by omega) (by omega) e (by omega)) hle
    · exact h.rest a b h1 (by omega) e e'
theorem InsInv.step {L : List (Int × Int)} {i j : Nat} (h : InsInv L i (j + 1)) (hL : j + 1 < L.length) (hlt : tA L (j + 1) < tA L j) : InsInv (swp L j) i j := by
  constructor
  · intro a b h1 h2 h3 h4
    rw [swp_tA L hL a, swp_tA L hL b, if_neg (fun e => h3 e.symm), if_neg (fun e : j = b => h4 e.symm)]
    by_cases e : j + 1 = a
    · rw [if_pos e, if_neg (by omega)]
      exact h.rest j b (by omega) h2 (by omega) (by omega)
    · rw [if_neg e]
      by_cases e' : j + 1 = b
      · rw [if_pos e']
        exact h.rest a j (by omega) (by omega) (by omega) (by omega)
      · rw [if_neg e']
        exact h.rest a b h1 h2 (by omega) (by omega)
  · intro b h1 h2
    rw [swp_tA L hL j, swp_tA L hL b, if_pos rfl, if_neg (show ¬ j = b by omega)]
    by_cases e : j + 1 = b
    · rw [if_pos e]; omega
    · rw [if_neg e]; exact h.here b (by omega) h2

set_option maxHeartbeats 8000000 in
theorem insert_any (g cap : Nat) (c : Array Value) (l : List (Int × Int)) (w : World) (h : Bk w g c 31) (hs : c.size = cap * 2) (hc : l.length ≤ cap) (hn : l.length ≤ 12) (hfill : Fill c l l.length) :
    Calls Try.prog 189 #[.slice (some ⟨g, 0, none⟩) l.length cap, .int .i64 0, .int .i64 (l.length : Int), .func (.func 126) #[] #[]] w fun e w' =>
      ∃ (c' : Array Value) (l' : List (Int × Int)), e = .returned (.tuple #[]) ∧ l'.Perm l ∧ Sorted l' l.length ∧ Bk w' g c' 31 ∧ c'.size = cap * 2 ∧ Fill c' l' l.length ∧ Bx g w w' := by
  have HF := (show Hid _ from hfill)
  clear hfill
  have HP : Hid (∀ L : List (Int × Int), L.Perm l → L.length = l.length) := fun L h => h.length_eq
  have HR : Hid (l.Perm l) := List.Perm.refl l
  obtain ⟨n, hN⟩ : ∃ n, l.length = n := ⟨_, rfl⟩
  have HN : Hid (l.length = n) := hN
  rw [hN] at HF hc hn ⊢
  clear hN
  go_enter Try.func189, Try.ntmps189
  go_wp2_with fail
  go_loopw [8] (fun a wr => ∃ (i : Nat) (L : List (Int × Int)) (c' : Array Value), a = .int .i64 i ∧ 1 ≤ i ∧ (i ≤ n ∨ i = 1) ∧ Hid (L.Perm l) ∧ Hid (Sorted L i) ∧ Hid (Fill c' L n) ∧ Bk wr g c' 31 ∧ c'.size = cap * 2 ∧ Bx g w wr) (fun a _ => n - (intOf a).toNat)
  case atStart => exact ⟨1, l, c, by go_num, by omega, .inr rfl, HR, (fun a b h1 h2 => by omega), HF, h, hs, Bx.refl _ _⟩
  case round =>
    obtain ⟨i, L, c', rfl, hi1, hi2, HP2, HS2, HF2, hk2, hs2, hx2⟩ := hrel
    by_cases hlt : i < n
    · have hI : Hid (InsInv L i i) := InsInv.start HS2.out
      go_wp2_with fail
      go_loopw [9] (fun b wq => ∃ (j : Nat) (M : List (Int × Int)) (c1 : Array Value), b = .int .i64 j ∧ j ≤ i ∧ Hid (M.Perm l) ∧ Hid (InsInv M i j) ∧ Hid (Fill c1 M n) ∧ Bk wq g c1 31 ∧ c1.size = cap * 2 ∧ Bx g w wq) (fun b _ => (intOf b).toNat)
      case atStart => exact ⟨i, L, c', rfl, Nat.le_refl _, HP2, hI, HF2, hk2, hs2, hx2⟩
      case round =>
        clear HP2 HS2 HF2 hk2 hs2 hx2 hI
        obtain ⟨j, M, c1, rfl, hj, HP3, HI3, HF3, hk3, hs3, hx3⟩ := hrel
        have HLen : M.length = n := (HP.out M HP3.out).trans HN.out
        by_cases hj0 : j = 0
        · subst hj0
          have hS : Hid (Sorted M (i + 1)) := HI3.out.end0
          have hjp : decide ((0 : Int) < ((0 : Nat) : Int)) = false := rfl
          have hne := bel_some wr
          go_wp2_with fail
          (refine wp_region_bel (by kernel_rfl) (by kernel_rfl) ?_; (repeat (go_big_quiet_step ((first | (go_at_call 126; exact calls_bel (closC_eq rfl _ _ _)))))); refine wpQuiet_nil ?_)
          intro w9 hw9
          replace hw9 := bel_out hw9
          have hx9 := hx3.trans (Bx.of_below hw9)
          have hk9 := hk3.keep hw9
          go_wp2_with fail
          go_roundw
          case rel => exact ⟨i + 1, M, c1, by go_num, by omega, .inl (by omega), HP3, hS, HF3, hk9, hs3, hx9⟩
          case measure => simp [intOf]; omega
        · obtain ⟨q, rfl⟩ : ∃ q, j = q + 1 := ⟨j - 1, by omega⟩
          have hjp : decide ((0 : Int) < ((q + 1 : Nat) : Int)) = true := by simp
          have hj1 : ((q + 1 : Nat) : Int) - 1 = (q : Int) := by omega
          obtain ⟨c0, c2⟩ := HF3.out q (by omega)
          obtain ⟨c3, c4⟩ := HF3.out (q + 1) (by omega)
          have d0 : ∀ p : Bel wr, p.ww.cell? ⟨g, q * 2, none⟩ = some (.int .i64 (tA M q)) := fun p => cell_below p.below (hk3.cell c0)
          have d1 : ∀ p : Bel wr, p.ww.cell? ⟨g, q * 2 + 1, none⟩ = some (.int .i64 (tB M q)) := fun p => cell_below p.below (hk3.cell c2)
          have d2 : ∀ p : Bel wr, p.ww.cell? ⟨g, (q + 1) * 2, none⟩ = some (.int .i64 (tA M (q + 1))) := fun p => cell_below p.below (hk3.cell c3)
          have d3 : ∀ p : Bel wr, p.ww.cell? ⟨g, (q + 1) * 2 + 1, none⟩ = some (.int .i64 (tB M (q + 1))) := fun p => cell_below p.below (hk3.cell c4)
          have hne := bel_some wr
          clear c0 c2 c3 c4
          have HE1 : Hid (tA M (q + 1) < tA M q → InsInv (swp M q) i q) := fun e => HI3.out.step (by omega) e
          have HE2 : Hid (tA M q ≤ tA M (q + 1) → Sorted M (i + 1)) := fun e => HI3.out.end1 e
          have HE3 : Hid (Fill (((c1.setIfInBounds ((q + 1) * 2) (.int .i64 (tA M q))).setIfInBounds ((q + 1) * 2 + 1) (.int .i64 (tB M q))).setIfInBounds (q * 2) (.int .i64 (tA M (q + 1))) |>.setIfInBounds (q * 2 + 1) (.int .i64 (tB M (q + 1)))) (swp M q) n) :=
            (HF3.out.set (i := q + 1) (by omega) HLen.symm (by omega) (tA M q) (tB M q)).set (i := q) (by omega) (by simp [HLen]) (by simp; omega) (tA M (q + 1)) (tB M (q + 1))
          have HE4 : Hid ((swp M q).Perm l) := (swp_perm M (by omega)).trans HP3.out
          generalize tA M q = X at *
          generalize tB M q = Y at *
          generalize tA M (q + 1) = X' at *
          generalize tB M (q + 1) = Y' at *
          by_cases hcl : X' < X
          · have hcz : cmpZ X' X = -1 := by simp [cmpZ, hcl]
            go_wp2_with fail
            (refine wp_region_bel (by kernel_rfl) (by kernel_rfl) ?_; (repeat (go_big_quiet_step ((first | (go_at_call 126; exact calls_bel (closC_eq hcz _ _ _)))))); refine wpQuiet_nil ?_)
            intro w9 hw9
            replace hw9 := bel_out hw9
            have hx9 := hx3.trans (Bx.of_below hw9)
            have hk9 := hk3.keep hw9
            have e0 : w9.cell? ⟨g, q * 2, none⟩ = some (.int .i64 X) := cell_below hw9 (d0 ⟨wr, Below.refl _ _⟩)
            have e1 : w9.cell? ⟨g, q * 2 + 1, none⟩ = some (.int .i64 Y) := cell_below hw9 (d1 ⟨wr, Below.refl _ _⟩)
            have e2 : w9.cell? ⟨g, (q + 1) * 2, none⟩ = some (.int .i64 X') := cell_below hw9 (d2 ⟨wr, Below.refl _ _⟩)
            have e3 : w9.cell? ⟨g, (q + 1) * 2 + 1, none⟩ = some (.int .i64 Y') := cell_below hw9 (d3 ⟨wr, Below.refl _ _⟩)
            have f0 := hk9.free (q * 2)
            have f1 := hk9.free (q * 2 + 1)
            have f2 := hk9.free ((q + 1) * 2)
            have f3 := hk9.free ((q + 1) * 2 + 1)
            clear d0 d1 d2 d3 hne
            go_wp2_with fail
            go_region
            have hbk := ((((hk9.set ((q + 1) * 2) (.int .i64 X)).set ((q + 1) * 2 + 1) (.int .i64 Y)).set (q * 2) (.int .i64 X')).set (q * 2 + 1) (.int .i64 Y')).drew
            have hx10 := (((((hx9.setG (p := ⟨g, (q + 1) * 2, none⟩) rfl (.int .i64 X)).setG (p := ⟨g, (q + 1) * 2 + 1, none⟩) rfl (.int .i64 Y)).setG (p := ⟨g, q * 2, none⟩) rfl (.int .i64 X')).setG (p := ⟨g, q * 2 + 1, none⟩) rfl (.int .i64 Y'))).drew
            have HI4 : Hid (InsInv (swp M q) i q) := HE1.out hcl
            clear e0 e1 e2 e3 f0 f1 f2 f3 hk9
            generalize World.drew _ = W at *
            go_wp2_with fail
            go_roundw
            case rel => exact ⟨q, swp M q, _, by go_num, by omega, HE4, HI4, HE3, hbk, by simpa using hs3, hx10⟩
            case measure => simp [intOf]
          · have hcz : ∃ r, cmpZ X' X = r ∧ decide (r < 0) = false := ⟨_, rfl, decide_eq_false (by rw [cmpZ_neg]; exact hcl)⟩
            obtain ⟨r, hcz, hr0⟩ := hcz
            have hS : Hid (Sorted M (i + 1)) := HE2.out (by omega)
            go_wp2_with fail
            (refine wp_region_bel (by kernel_rfl) (by kernel_rfl) ?_; (repeat (go_big_quiet_step ((first | (go_at_call 126; exact calls_bel (closC_eq hcz _ _ _)))))); refine wpQuiet_nil ?_)
            intro w9 hw9
            replace hw9 := bel_out hw9
            have hx9 := hx3.trans (Bx.of_below hw9)
            have hk9 := hk3.keep hw9
            clear d0 d1 d2 d3 hne
            go_wp2_with fail
            go_roundw
            case rel => exact ⟨i + 1, M, c1, by go_num, by omega, .inl (by omega), HP3, hS, HF3, hk9, hs3, hx9⟩
            case measure => simp [intOf]; omega
    · go_wp2_with fail
      go_end0
      exact ⟨c', L, rfl, HP2.out, fun a b h1 h2 => HS2.out a b h1 (by omega), hk2, hs2, HF2.out, hx2⟩
end Go.Proofs.Ytbmdfmboabfceaa

/-! What SortFunc and FrontOf of the program answer. -/
namespace Go.Proofs.Ytbmdfmboabfceaa
open Go.RowKit

set_option maxHeartbeats 4000000 in
set_option maxRecDepth 100000 in
theorem len64_any (n : Nat) (hn : n ≤ 12) (w : World) : Calls Try.prog 198 #[.int .u64 n] w fun e w' => (∃ r : Int, e = .returned (.int .i64 r)) ∧ w' = w := by
  have h1 : ¬ (n : Int) ≥ 4294967296 := by omega
  have h2 : ¬ (n : Int) ≥ 65536 := by omega
  have h3 : ¬ (n : Int) ≥ 256 := by omega
  go_enter Try.func198, Try.ntmps198
  go_wp2_with fail
  go_ret
  exact ⟨⟨_, rfl⟩, rfl⟩
set_option maxHeartbeats 4000000 in
theorem len_any (n : Nat) (hn : n ≤ 12) (w : World) : Calls Try.prog 169 #[.int .u64 n] w fun e w' => (∃ r : Int, e = .returned (.int .i64 r)) ∧ w' = w := by
  go_enter Try.func169, Try.ntmps169
  go_wp2_with (go_at_call 198; refine (len64_any n hn _).mono ?_; rintro e w' ⟨⟨r, rfl⟩, rfl⟩)
  go_ret
  exact ⟨⟨_, rfl⟩, rfl⟩
set_option maxHeartbeats 4000000 in
theorem pdq_any (g cap : Nat) (c : Array Value) (l : List (Int × Int)) (r : Int) (w : World) (h : Bk w g c 31) (hs : c.size = cap * 2) (hc : l.length ≤ cap) (hn : l.length ≤ 12) (hfill : Fill c l l.length) :
    Calls Try.prog 168 #[.slice (some ⟨g, 0, none⟩) l.length cap, .int .i64 0, .int .i64 (l.length : Int), .int .i64 r, .func (.func 126) #[] #[]] w fun e w' =>
      ∃ (c' : Array Value) (l' : List (Int × Int)), e = .returned (.tuple #[]) ∧ l'.Perm l ∧ Sorted l' l.length ∧ Bk w' g c' 31 ∧ c'.size = cap * 2 ∧ Fill c' l' l.length ∧ Bx g w w' := by
  have H := insert_any g cap c l w h hs hc hn hfill
  clear h hfill
  have h12 : (l.length : Int) ≤ 12 := by omega
  generalize l.length = n at *
  go_enter Try.func168, Try.ntmps168
  go_wp2_with fail
  refine wp_loop_rounds 1 ?_
  rw [rounds_succ]
  go_wp2_with fail
  refine H.mono ?_
  rintro e w1 ⟨c', l', rfl, h1, h2, h3, h4, h5, h6⟩
  go_wp2_with fail
  (try simp only [Exit.inBlock, Exit.then])
  refine bodyPost_ret (results_none rfl _ _ _) rfl ?_
  exact ⟨c', l', rfl, h1, h2, h3, h4, h5, h6⟩
set_option maxHeartbeats 4000000 in
theorem sort_any (g cap : Nat) (c : Array Value) (l : List (Int × Int)) (w : World) (h : Bk w g c 31) (hs : c.size = cap * 2) (hc : l.length ≤ cap) (hn : l.length ≤ 12) (hfill : Fill c l l.length) :
    Calls Try.prog 122 #[.slice (some ⟨g, 0, none⟩) l.length cap, .func (.func 126) #[] #[]] w fun e w' =>
      ∃ (c' : Array Value) (l' : List (Int × Int)), e = .returned (.tuple #[]) ∧ l'.Perm l ∧ Sorted l' l.length ∧ Bk w' g c' 31 ∧ c'.size = cap * 2 ∧ Fill c' l' l.length ∧ Bx g w w' := by
  have H := fun r => pdq_any g cap c l r w h hs hc hn hfill
  clear h hfill
  generalize l.length = n at *
  go_enter Try.func122, Try.ntmps122
  go_wp2_with (first | (go_at_call 169; refine (len_any n hn _).mono ?_; rintro e w' ⟨⟨r, rfl⟩, rfl⟩) | (go_at_call 168; refine (H _).mono ?_; rintro e w1 ⟨c', l', rfl, h1, h2, h3, h4, h5, h6⟩))
  go_end0
  exact ⟨c', l', rfl, h1, h2, h3, h4, h5, h6⟩
end Go.Proofs.Ytbmdfmboabfceaa
