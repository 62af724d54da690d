import Derived.Test.YtbdpcngcbnoioaaGreatDoorGa6
import Derived.Test.YtbdpcngcbnoioaaGreatDoorGa4
import Derived.ProofKit
import Derived.OpenShut
import Derived.ShutString
import Derived.ChangeOld
import Derived.Below
import Derived.Lib.SmallJoins
import Derived.Test.YtbdpcngcbnoioaaGreatDoorGa5
import Derived.Lib.SliceRun
import Derived.Test.YtbdpcngcbnoioaaGreatDoorGb3
namespace Go.Proofs.YtbdpcngcbnoioaaGreatDoor
open Go.RowKit
end Go.Proofs.YtbdpcngcbnoioaaGreatDoor
namespace Go.Proofs.YtbdpcngcbnoioaaGreatDoor
open Go.RowKit
theorem leB_trans {a b c d e f : Int} (h : leB a b c d = true) (h' : leB c d e f = true) : leB a b e f = true := by
  simp [leB] at *; exact ⟨⟨⟨h.1.1.1, h'.1.1.2⟩, by omega⟩, by omega⟩
theorem leB_self (a b : Int) : leB a b a b = okB a b := by simp [leB]
theorem any_at {l : List (Int × Int)} {x y : Int} (h : anyB l x y = true) : ∃ k, k < l.length ∧ leB (tA l k) (tB l k) x y = true := by
  unfold anyB at h; rw [List.any_eq_true] at h
  obtain ⟨k, hk, h⟩ := h
  exact ⟨k, by simpa using hk, h⟩
theorem implCovers_eq {l : List (Int × Int)} {x y : Int} {r : Bool} (h : (fokB l && anyB l x y) = r) {v : Value} {w : World} (ht : Ts w v l) : Calls Tryz.prog 29 #[v, tv x y] w fun e w' => e = .returned (.bool r) ∧ Below w.heap.size w w' := by
  rw [← h]; exact implCovers_any v l x y w ht
end Go.Proofs.YtbdpcngcbnoioaaGreatDoor
namespace Go.Proofs.YtbdpcngcbnoioaaGreatDoor
open Go.RowKit
theorem okB_iff {a b : Int} : okB a b = true ↔ 0 ≤ a ∧ a ≤ 7 ∧ 0 ≤ b ∧ b ≤ 7 := by simp [okB]
theorem leB_iff {a b c d : Int} : leB a b c d = true ↔ okB a b = true ∧ okB c d = true ∧ a ≤ c ∧ b ≤ d := by simp [leB, and_assoc]
theorem jn_eq {a b c d : Int} (h : okB a b = true) (h' : okB c d = true) : jnA a b c d = max a c ∧ jnB a b c d = max b d := by simp [jnA, jnB, h, h']
theorem jn_ok {a b c d : Int} (h : okB a b = true) (h' : okB c d = true) : okB (jnA a b c d) (jnB a b c d) = true := by
  obtain ⟨e1, e2⟩ := jn_eq h h'; rw [e1, e2, okB_iff]; rw [okB_iff] at h h'; omega
end Go.Proofs.YtbdpcngcbnoioaaGreatDoor
namespace Go.Proofs.YtbdpcngcbnoioaaGreatDoor
open Go.RowKit
theorem take_of_fill {c : Array Value} {F : List (Int × Int)} (h : Fill c F F.length) : c.toList.take (F.length * 2) = cellsL F := by
  apply List.ext_getElem?
  intro i
  by_cases hi : i < F.length * 2
  · rw [List.getElem?_take, if_pos hi, Array.getElem?_toList]
    rcases Nat.mod_two_eq_zero_or_one i with e | e
    · obtain ⟨q, rfl⟩ : ∃ q, i = q * 2 := ⟨i / 2, by omega⟩
      rw [(h q (by omega)).1, (cellsL_get F q (by omega)).1]
    · obtain ⟨q, rfl⟩ : ∃ q, i = q * 2 + 1 := ⟨i / 2, by omega⟩
      rw [(h q (by omega)).2, (cellsL_get F q (by omega)).2]
  · rw [List.getElem?_take, if_neg hi, List.getElem?_eq_none (by rw [cellsL_length]; omega)]
theorem own_of_fill {w : World} {B g cap : Nat} {c : Array Value} {F : List (Int × Int)} (h : Bk w g c 32) (hf : Fill c F F.length) (hs : c.size = cap * 2) (hc : F.length ≤ cap) (hm : cap ≤ maxLen) (hg : B ≤ g) :
    Own w B (.slice (some ⟨g, 0, none⟩) F.length cap) F :=
  ⟨cellsL_length F, .inr ⟨g, cap, c, rfl, hg, h, hc, hm, hs, take_of_fill hf⟩⟩
theorem own_open {w : World} {B : Nat} {v : Value} {l : List (Int × Int)} (h : Own w B v l) : (v = .slice none 0 0 ∧ l = []) ∨
    ∃ g cap c, v = .slice (some ⟨g, 0, none⟩) l.length cap ∧ B ≤ g ∧ Bk w g c 32 ∧ c.size = cap * 2 ∧ l.length ≤ cap ∧ cap ≤ maxLen ∧ Fill c l l.length := by
  obtain ⟨h1, ⟨rfl, h2⟩ | ⟨g, cap, cur, rfl, hg, hh, hc, hm, hs, ht⟩⟩ := h
  · exact .inl ⟨rfl, List.eq_nil_of_length_eq_zero h2⟩
  · refine .inr ⟨g, cap, cur, rfl, hg, hh, hs, hc, hm, fun i hi => ?_⟩
    have e : ∀ j, j < l.length * 2 → cur[j]? = (cellsL l)[j]? := by
      intro j hj
      rw [← ht, List.getElem?_take, if_pos hj, Array.getElem?_toList]
    rw [e _ (by omega), e _ (by omega)]
    exact cellsL_get l i hi
theorem Bk.setCells {g : Nat} {t : TypeId} (vs : List Value) : ∀ {w : World} {c : Array Value} (o : Nat), Bk w g c t → ∃ c' : Array Value, Bk (w.setCells g o vs) g c' t ∧ c'.size = c.size ∧ (∀ i, i < o → c'[i]? = c[i]?) ∧ Bx g w (w.setCells g o vs) := by
  induction vs with
  | nil => exact fun o h => ⟨_, h, rfl, fun _ _ => rfl, Bx.refl _ _⟩
  | cons v r ih =>
    intro w c o h
    obtain ⟨c', h1, h2, h3, h4⟩ := ih (o + 1) (h.set o v)
    refine ⟨c', h1, by rw [h2]; simp, fun i hi => ?_, (Bx.setG (Bx.refl g w) rfl v).trans h4⟩
    rw [h3 i (by omega), Array.getElem?_setIfInBounds, if_neg (by omega)]
end Go.Proofs.YtbdpcngcbnoioaaGreatDoor
namespace Go.Proofs.YtbdpcngcbnoioaaGreatDoor
open Go.RowKit
def offB (x y : Int) (p : Int × Int) : Bool := !leB x y p.1 p.2
theorem off_at {x y : Int} {l : List (Int × Int)} {j : Nat} (hj : j < l.length) : offB x y l[j] = !leB x y (tA l j) (tB l j) := by
  simp [offB, tA, tB, hj]
structure DelInv (l : List (Int × Int)) (x y : Int) (i j : Nat) (c : Array Value) : Prop where
  lt : i < j
  le : j ≤ l.length
  len : ((l.take j).filter (offB x y)).length = i
  low : Fill c ((l.take j).filter (offB x y)) i
  high : ∀ m, j ≤ m → m < l.length → c[m * 2]? = some (.int .i64 (tA l m)) ∧ c[m * 2 + 1]? = some (.int .i64 (tB l m))
theorem take_filter (l : List (Int × Int)) (x y : Int) {j : Nat} (hj : j < l.length) : (l.take (j + 1)).filter (offB x y) = (l.take j).filter (offB x y) ++ (if leB x y (tA l j) (tB l j) then [] else [(tA l j, tB l j)]) := by
  have e : l[j] = (tA l j, tB l j) := by simp [tA, tB, hj]
  rw [List.take_add_one, List.getElem?_eq_getElem hj, List.filter_append]
  congr 1
  have := off_at (x := x) (y := y) hj
  cases h : leB x y (tA l j) (tB l j) <;> rw [h] at this <;> simp [this]
  exact e
theorem DelInv.start {l : List (Int × Int)} {x y : Int} {k : Nat} {c : Array Value} (hk : k < l.length) (hyes : leB x y (tA l k) (tB l k) = true) (hno : ∀ i, i < k → leB x y (tA l i) (tB l i) = false) (hf : Fill c l l.length) : DelInv l x y k (k + 1) c := by
  have e : (l.take (k + 1)).filter (offB x y) = l.take k := by
    rw [take_filter l x y hk, hyes, if_pos rfl, List.append_nil, List.filter_eq_self]
    intro a ha
    obtain ⟨i, hi, rfl⟩ := List.getElem_of_mem ha
    rw [List.length_take] at hi
    rw [List.getElem_take, off_at (by omega), hno i (by omega)]; rfl
  refine ⟨by omega, hk, by rw [e, List.length_take]; omega, fun i hi => ?_, fun m _ hm => hf m hm⟩
  have e1 : ∀ i, i < k → tA (l.take k) i = tA l i ∧ tB (l.take k) i = tB l i := by
    intro i hi
    have : i < (l.take k).length := by rw [List.length_take]; omega
    simp [tA, tB, hi]
  rw [e, (e1 i hi).1, (e1 i hi).2]
  exact hf i (by omega)
theorem DelInv.skip {l : List (Int × Int)} {x y : Int} {i j : Nat} {c : Array Value} (h : DelInv l x y i j c) (hj : j < l.length) (hy : leB x y (tA l j) (tB l j) = true) : DelInv l x y i (j + 1) c := by
  have e : (l.take (j + 1)).filter (offB x y) = (l.take j).filter (offB x y) := by rw [take_filter l x y hj, hy, if_pos rfl, List.append_nil]
  exact ⟨by have := h.lt; omega, hj, by rw [e]; exact h.len, by rw [e]; exact h.low, fun m h1 h2 => h.high m (by omega) h2⟩
theorem DelInv.keep {l : List (Int × Int)} {x y : Int} {i j : Nat} {c : Array Value} (h : DelInv l x y i j c) (hj : j < l.length) (hs : l.length * 2 ≤ c.size) (hy : leB x y (tA l j) (tB l j) = false) :
    DelInv l x y (i + 1) (j + 1) ((c.setIfInBounds (i * 2) (.int .i64 (tA l j))).setIfInBounds (i * 2 + 1) (.int .i64 (tB l j))) := by
  have hlt := h.lt
  have hlen := h.len
  have e : (l.take (j + 1)).filter (offB x y) = (l.take j).filter (offB x y) ++ [(tA l j, tB l j)] := by rw [take_filter l x y hj, hy]; rfl
  have hlow := h.low
  have h0 : Fill c ((l.take (j + 1)).filter (offB x y)) i := by
    intro q hq
    have := hlow q hq
    rw [e]
    have e1 : tA ((l.take j).filter (offB x y) ++ [(tA l j, tB l j)]) q = tA ((l.take j).filter (offB x y)) q ∧ tB ((l.take j).filter (offB x y) ++ [(tA l j, tB l j)]) q = tB ((l.take j).filter (offB x y)) q := by
      generalize (l.take j).filter (offB x y) = F at *
      have : q < F.length := by omega
      simp [tA, tB, List.getElem?_append, this]
    rw [e1.1, e1.2]; exact this
  have h1 := h0.step (k := i) (by omega)
  have e2 : tA ((l.take (j + 1)).filter (offB x y)) i = tA l j ∧ tB ((l.take (j + 1)).filter (offB x y)) i = tB l j := by
    rw [e]
    generalize (l.take j).filter (offB x y) = F at *
    generalize tA l j = X
    generalize tB l j = Y
    subst hlen
    simp [tA, tB]
  rw [e2.1, e2.2] at h1
  refine ⟨by omega, hj, by rw [e, List.length_append]; simp [hlen], h1, fun m a b => ?_⟩
  have n1 : ¬ i * 2 + 1 = m * 2 := by omega
  have n2 : ¬ i * 2 = m * 2 := by omega
  have n3 : ¬ i * 2 + 1 = m * 2 + 1 := by omega
  have n4 : ¬ i * 2 = m * 2 + 1 := by omega
  simp only [Array.getElem?_setIfInBounds, n1, n2, n3, n4, if_false]
  exact h.high m (by omega) b
theorem cell_bk {w : World} {g : Nat} {c : Array Value} {t : TypeId} (h : Bk w g c t) {i : Nat} (hi : i < c.size) : ∃ y, w.cell? ⟨g, i, none⟩ = some y := ⟨_, h.cell (Array.getElem?_eq_getElem hi)⟩
theorem Fk.keepx {g : Nat} {w w1 : World} {k : Nat} (h : Fk w k) (hb : Bx g w w1) (hk : k ≠ g) : Fk w1 k := by
  unfold Fk; rw [hb.block k (lt_of_block h) hk]; exact h
end Go.Proofs.YtbdpcngcbnoioaaGreatDoor
namespace Go.Proofs.YtbdpcngcbnoioaaGreatDoor
open Go.RowKit
def earlStep (acc : List (Int × Int)) (p : Int × Int) : List (Int × Int) := if anyB acc p.1 p.2 then acc else acc.filter (offB p.1 p.2) ++ [p]
end Go.Proofs.YtbdpcngcbnoioaaGreatDoor
namespace Go.Proofs.YtbdpcngcbnoioaaGreatDoor
open Go.RowKit
theorem tA_set (L : List (Int × Int)) {i : Nat} (hi : i < L.length) (p : Int × Int) (k : Nat) : tA (L.set i p) k = if i = k then p.1 else tA L k := by
  unfold tA; rw [List.getD_eq_getElem?_getD, List.getElem?_set]
  by_cases h : i = k
  · subst h; simp [hi]
  · simp [h]
theorem tB_set (L : List (Int × Int)) {i : Nat} (hi : i < L.length) (p : Int × Int) (k : Nat) : tB (L.set i p) k = if i = k then p.2 else tB L k := by
  unfold tB; rw [List.getD_eq_getElem?_getD, List.getElem?_set]
  by_cases h : i = k
  · subst h; simp [hi]
  · simp [h]
theorem Fill.set {c : Array Value} {L : List (Int × Int)} {n i : Nat} (h : Fill c L n) (hi : i < n) (hn : n = L.length) (hs : n * 2 ≤ c.size) (X Y : Int) :
    Fill ((c.setIfInBounds (i * 2) (.int .i64 X)).setIfInBounds (i * 2 + 1) (.int .i64 Y)) (L.set i (X, Y)) n := by
  intro k hk
  rw [tA_set L (by omega), tB_set L (by omega)]
  by_cases e : i = k
  · subst e
    rw [if_pos rfl, if_pos rfl]
    have n2 : i * 2 < c.size := by omega
    have n3 : i * 2 + 1 < c.size := by omega
    simp [n2, n3]
  · rw [if_neg e, if_neg e]
    have n1 : ¬ i * 2 + 1 = k * 2 := by omega
    have n2 : ¬ i * 2 = k * 2 := by omega
    have n3 : ¬ i * 2 + 1 = k * 2 + 1 := by omega
    have n4 : ¬ i * 2 = k * 2 + 1 := by omega
    simp only [Array.getElem?_setIfInBounds, n1, n2, n3, n4, if_false]
    exact h k hk
def swp (L : List (Int × Int)) (j : Nat) : List (Int × Int) := (L.set (j + 1) (tA L j, tB L j)).set j (tA L (j + 1), tB L (j + 1))
theorem swp_tA (L : List (Int × Int)) {j : Nat} (h : j + 1 < L.length) (k : Nat) : tA (swp L j) k = if j = k then tA L (j + 1) else if j + 1 = k then tA L j else tA L k := by
  unfold swp
  rw [tA_set _ (by simp; omega), tA_set _ h]
structure InsInv (L : List (Int × Int)) (i j : Nat) : Prop where
  rest : ∀ a b, a < b → b ≤ i → a ≠ j → b ≠ j → tA L a ≤ tA L b
  here : ∀ b, j < b → b ≤ i → tA L j ≤ tA L b
def Sorted (L : List (Int × Int)) (i : Nat) : Prop := ∀ a b, a < b → b < i → tA L a ≤ tA L b
theorem InsInv.start {L : List (Int × Int)} {i : Nat} (h : Sorted L i) : InsInv L i i := ⟨fun a b h1 h2 _ h4 => h a b h1 (by omega), fun b h1 h2 => by omega⟩
theorem InsInv.step {L : List (Int × Int)} {i j : Nat} (h : InsInv L i (j + 1)) (hL : j + 1 < L.length) (hlt : tA L (j + 1) < tA L j) : InsInv (swp L j) i j := by
  constructor
  · intro a b h1 h2 h3 h4
    rw [swp_tA L hL a, swp_tA L hL b, if_neg (fun e => h3 e.symm), if_neg (fun e : j = b => h4 e.symm)]
    by_cases e : j + 1 = a
    · rw [if_pos e, if_neg (by omega)]
      exact h.rest j b (by omega) h2 (by omega) (by omega)
    · rw [if_neg e]
      by_cases e' : j + 1 = b
      · rw [if_pos e']
        exact h.rest a j (by omega) (by omega) (by omega) (by omega)
      · rw [if_neg e']
        exact h.rest a b h1 h2 (by omega) (by omega)
  · intro b h1 h2
    rw [swp_tA L hL j, swp_tA L hL b, if_pos rfl, if_neg (show ¬ j = b by omega)]
    by_cases e : j + 1 = b
    · rw [if_pos e]; omega
    · rw [if_neg e]; exact h.here b (by omega) h2
end Go.Proofs.YtbdpcngcbnoioaaGreatDoor
namespace Go.Proofs.YtbdpcngcbnoioaaGreatDoor
open Go.RowKit
end Go.Proofs.YtbdpcngcbnoioaaGreatDoor
