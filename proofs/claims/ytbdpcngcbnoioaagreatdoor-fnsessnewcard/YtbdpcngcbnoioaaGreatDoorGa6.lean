import Derived.Test.YtbdpcngcbnoioaaGreatDoorGa5
import Derived.Test.YtbdpcngcbnoioaaGreatDoorGa3
import Derived.WalkSpells
import Derived.Deep.RegionWith
import Derived.Test.YtbdpcngcbnoioaaGreatDoorGa4
namespace Go.Proofs.YtbdpcngcbnoioaaGreatDoor
open Go.RowKit
attribute [local go_sem ↓] Go.wp_at_zero Go.wp_at_succ
end Go.Proofs.YtbdpcngcbnoioaaGreatDoor
namespace Go.Proofs.YtbdpcngcbnoioaaGreatDoor
open Go.RowKit
attribute [local go_sem ↓] Go.wp_at_zero Go.wp_at_succ
end Go.Proofs.YtbdpcngcbnoioaaGreatDoor
namespace Go.Proofs.YtbdpcngcbnoioaaGreatDoor
open Go.RowKit
def anyB (l : List (Int × Int)) (x y : Int) : Bool := (List.range l.length).any fun i => leB (tA l i) (tB l i) x y
theorem any_true {l : List (Int × Int)} {x y : Int} {k : Nat} (hk : k < l.length) (h : leB (tA l k) (tB l k) x y = true) : anyB l x y = true := by
  unfold anyB; rw [List.any_eq_true]; exact ⟨k, by simpa using hk, h⟩
theorem any_false {l : List (Int × Int)} {x y : Int} (h : ∀ j, j < l.length → leB (tA l j) (tB l j) x y = false) : anyB l x y = false := by
  unfold anyB; rw [List.any_eq_false]; intro j hj; rw [h j (by simpa using hj)]; simp
def Fk (w : World) (k : Nat) : Prop := w.heap[k]? = some (.cells #[.func (.func 90) #[] #[]] 112 (0, 0))
theorem Fk.keep {w w1 : World} {k : Nat} (h : Fk w k) (hb : Below w.heap.size w w1) : Fk w1 k := by
  unfold Fk; rw [hb.block k (lt_of_block h)]; exact h
theorem Fk.cell {w : World} {k : Nat} (h : Fk w k) : w.cell? ⟨k, 0, none⟩ = some (.func (.func 90) #[] #[]) := cell_of_one h
set_option maxHeartbeats 1000000 in
theorem closR_any (a b x y : Int) (bn bx : Nat) (w : World) (hf : Fk w bn) (hx : Bk w bx #[.int .i64 x, .int .i64 y] 32) :
    Calls Tryz.prog 158 #[tv a b, .pointer (some ⟨bn, 0, none⟩), .pointer (some ⟨bx, 0, none⟩)] w fun e w' => e = .returned (.bool (leB a b x y)) ∧ Below w.heap.size w w' := by
  have c0 := hf.cell
  obtain ⟨x0, x1, _, _⟩ := hx.two
  have l0 := lt_of_block hf
  have l1 := hx.lt
  go_enter Tryz.func158, Tryz.ntmps158
  go_wp2_with (go_at_call 90; refine (implLess_any _ _ _ _ _).mono ?_; rintro e w' ⟨rfl, hb⟩)
  go_ret
  refine ⟨rfl, ?_⟩
  repeat' (first | (with_reducible exact Below.refl _ _) | (with_reducible assumption) | (with_reducible refine bStep ?_ (by with_reducible assumption)) | (with_reducible refine bAlloc ?_ _) | (with_reducible refine Below.drew ?_) | (with_reducible refine bDrewN ?_ _) | (with_reducible refine Below.setCell ?_ ?_ _) | (simp; done) | (simp; omega) | omega)
theorem closR_eq {a b x y : Int} {r : Bool} (h : leB a b x y = r) {bn bx : Nat} {w : World} (hf : Fk w bn) (hx : Bk w bx #[.int .i64 x, .int .i64 y] 32) :
    Calls Tryz.prog 158 #[tv a b, .pointer (some ⟨bn, 0, none⟩), .pointer (some ⟨bx, 0, none⟩)] w fun e w' => e = .returned (.bool r) ∧ Below w.heap.size w w' := by
  rw [← h]; exact closR_any a b x y bn bx w hf hx
def IsFirst (p : Nat → Bool) (n : Nat) (r : Int) : Prop := (r = -1 ∧ ∀ i, i < n → p i = false) ∨ ∃ k : Nat, r = k ∧ k < n ∧ p k = true ∧ ∀ i, i < k → p i = false
set_option maxHeartbeats 2000000 in
theorem indexR_any (v : Value) (l : List (Int × Int)) (x y : Int) (bn bx : Nat) (w : World) (h : Ts w v l) (hf : Fk w bn) (hx : Bk w bx #[.int .i64 x, .int .i64 y] 32) :
    Calls Tryz.prog 204 #[v, .func (.func 158) #[] #[.pointer (some ⟨bn, 0, none⟩), .pointer (some ⟨bx, 0, none⟩)]] w fun e w' => ∃ r : Int, e = .returned (.int .i64 r) ∧ IsFirst (fun i => leB (tA l i) (tB l i) x y) l.length r ∧ Below w.heap.size w w' := by
  obtain ⟨a, cap, rfl, hc, hm, hn, hcells⟩ := h
  unfold maxLen at hm
  have HC := (show Hid _ from hcells)
  clear hcells
  go_enter Tryz.func204, Tryz.ntmps204
  go_wp2_with fail
  go_loopw [8] (fun i wr => ∃ k : Nat, k ≤ l.length ∧ i = .int .i64 k ∧ (∀ j, j < k → leB (tA l j) (tB l j) x y = false) ∧ Below w.heap.size w wr) (fun i _ => l.length - (intOf i).toNat)
  case atStart => exact ⟨0, by omega, rfl, fun j hj => by omega, Below.refl _ _⟩
  case round =>
    obtain ⟨k, hk, rfl, hall, hb⟩ := hrel
    have HA := (show Hid _ from hall)
    clear hall
    by_cases hlt : k < l.length
    · obtain ⟨g, off, rfl, hg, c0, c1⟩ := HC.out k hlt
      have d0 := cell_below hb c0
      have d1 := cell_below hb c1
      clear c0 c1
      generalize hX : tA l k = X at *
      generalize hY : tB l k = Y at *
      have EX : Hid (tA l k = X) := hX
      have EY : Hid (tB l k = Y) := hY
      clear hX hY
      have hf2 := hf.keep hb
      have hx2 := hx.keep hb
      cases hp : leB X Y x y
      · have HK : Hid (leB (tA l k) (tB l k) x y = false) := by show _ = false; rw [EX.out, EY.out]; exact hp
        go_wp2_with fail
        refine (closR_eq hp hf2 hx2).mono ?_
        rintro e w1 ⟨rfl, hb1⟩
        have hbw := bStep hb hb1
        go_wp2_with fail
        go_roundw
        case rel =>
          refine ⟨k + 1, by omega, by go_num, fun j hj => ?_, hbw⟩
          by_cases e : j = k
          · subst e; exact HK.out
          · exact HA.out j (by omega)
        case measure => simp [intOf]; omega
      · have HK : Hid (leB (tA l k) (tB l k) x y = true) := by show _ = true; rw [EX.out, EY.out]; exact hp
        go_wp2_with fail
        refine (closR_eq hp hf2 hx2).mono ?_
        rintro e w1 ⟨rfl, hb1⟩
        have hbw := bStep hb hb1
        go_wp2_with fail
        go_ret
        exact ⟨_, rfl, .inr ⟨k, rfl, hlt, HK.out, HA.out⟩, hbw⟩
    · go_wp2_with fail
      go_ret
      exact ⟨_, rfl, .inl ⟨rfl, fun i hi => HA.out i (by omega)⟩, hb⟩
set_option maxHeartbeats 1000000 in
theorem containsR_any (v : Value) (l : List (Int × Int)) (x y : Int) (bn bx : Nat) (w : World) (h : Ts w v l) (hf : Fk w bn) (hx : Bk w bx #[.int .i64 x, .int .i64 y] 32) :
    Calls Tryz.prog 157 #[v, .func (.func 158) #[] #[.pointer (some ⟨bn, 0, none⟩), .pointer (some ⟨bx, 0, none⟩)]] w fun e w' => e = .returned (.bool (anyB l x y)) ∧ Below w.heap.size w w' := by
  go_enter Tryz.func157, Tryz.ntmps157
  go_wp2_with fail
  refine (indexR_any v l x y bn bx w h hf hx).mono ?_
  rintro e w1 ⟨r, rfl, hr, hb⟩
  rcases hr with ⟨rfl, hno⟩ | ⟨k, rfl, hk, hyes, _⟩
  · have hfin : Hid (anyB l x y = false) := any_false hno
    clear hno
    go_wp2_with fail
    go_ret
    exact ⟨ret_bool hfin.out.symm, hb⟩
  · have hfin : Hid (anyB l x y = true) := any_true hk hyes
    have ik : (0 : Int) ≤ (k : Int) := by omega
    clear hyes
    go_wp2_with fail
    go_ret
    refine ⟨?_, hb⟩
    rw [hfin.out]
    exact ret_bool (by simp)
set_option maxHeartbeats 1000000 in
theorem reaches_any (v : Value) (l : List (Int × Int)) (x y : Int) (w : World) (h : Ts w v l) :
    Calls Tryz.prog 89 #[v, tv x y, .func (.func 90) #[] #[]] w fun e w' => e = .returned (.bool (anyB l x y)) ∧ Below w.heap.size w w' := by
  have hb0 : Below w.heap.size w ((w.alloc (.cells #[.int .i64 x, .int .i64 y] 32)).alloc (.cells #[.func (.func 90) #[] #[]] 112)) := bAlloc (bAlloc (Below.refl _ _) _) _
  have hx : Bk ((w.alloc (.cells #[.int .i64 x, .int .i64 y] 32)).alloc (.cells #[.func (.func 90) #[] #[]] 112)) w.heap.size #[.int .i64 x, .int .i64 y] 32 := (Bk.new _ _ rfl).alloc _
  have hf : Fk ((w.alloc (.cells #[.int .i64 x, .int .i64 y] 32)).alloc (.cells #[.func (.func 90) #[] #[]] 112)) (w.heap.size + 1) := by
    have := heap_alloc_new (w.alloc (.cells #[.int .i64 x, .int .i64 y] 32)) (.cells #[.func (.func 90) #[] #[]] 112)
    simpa [Fk] using this
  go_enter Tryz.func89, Tryz.ntmps89
  go_wp2_with fail
  refine (containsR_any v l x y _ _ _ (h.keep hb0) hf hx).mono ?_
  rintro e w1 ⟨rfl, hb1⟩
  go_wp2_with fail
  go_ret
  exact ⟨rfl, bStep hb0 hb1⟩
set_option maxHeartbeats 1000000 in
theorem implCovers_any (v : Value) (l : List (Int × Int)) (x y : Int) (w : World) (h : Ts w v l) :
    Calls Tryz.prog 29 #[v, tv x y] w fun e w' => e = .returned (.bool (fokB l && anyB l x y)) ∧ Below w.heap.size w w' := by
  have hb0 : Below w.heap.size w (w.alloc (.cells #[.int .i64 x, .int .i64 y] 32)) := bAlloc (Below.refl _ _) _
  have bx : Bk (w.alloc (.cells #[.int .i64 x, .int .i64 y] 32)) w.heap.size #[.int .i64 x, .int .i64 y] 32 := Bk.new _ _ rfl
  go_enter Tryz.func29, Tryz.ntmps29
  go_wp2_with fail
  refine (implFrontOk_any v l _ (h.keep hb0)).mono ?_
  rintro e w1 ⟨rfl, hb1⟩
  have hbw1 := bStep hb0 hb1
  obtain ⟨c0, c1, _, _⟩ := (bx.keep hb1).two
  cases hf : fokB l
  · go_wp2_with fail
    go_ret
    exact ⟨ret_bool (by simp [hf]), hbw1⟩
  · go_wp2_with fail
    refine (reaches_any v l x y _ (h.keep hbw1)).mono ?_
    rintro e w2 ⟨rfl, hb2⟩
    go_wp2_with fail
    go_ret
    exact ⟨ret_bool (by simp [hf]), bStep hbw1 hb2⟩
end Go.Proofs.YtbdpcngcbnoioaaGreatDoor
namespace Go.Proofs.YtbdpcngcbnoioaaGreatDoor
open Go.RowKit
def cellsL (l : List (Int × Int)) : List Value := l.flatMap fun p => [.int .i64 p.1, .int .i64 p.2]
theorem cellsL_length (l : List (Int × Int)) : (cellsL l).length = l.length * 2 := by
  induction l with
  | nil => rfl
  | cons p l ih => unfold cellsL at *; simp [List.flatMap_cons, ih]; omega
theorem cellsL_snoc (l : List (Int × Int)) (a b : Int) : cellsL (l ++ [(a, b)]) = cellsL l ++ [.int .i64 a, .int .i64 b] := by
  unfold cellsL; rw [List.flatMap_append]; simp
theorem cellsL_get (l : List (Int × Int)) (i : Nat) (h : i < l.length) : (cellsL l)[i * 2]? = some (.int .i64 (tA l i)) ∧ (cellsL l)[i * 2 + 1]? = some (.int .i64 (tB l i)) := by
  induction l generalizing i with
  | nil => simp at h
  | cons p l ih =>
    cases i with
    | zero => simp [cellsL, tA, tB, List.flatMap_cons]
    | succ i =>
      have := ih i (by simpa using h)
      have e1 : (i + 1) * 2 = i * 2 + 2 := by omega
      have e2 : (i + 1) * 2 + 1 = i * 2 + 1 + 2 := by omega
      rw [e1]
      simpa [cellsL, List.flatMap_cons, tA, tB] using this
abbrev Own (w : World) (B : Nat) (v : Value) (l : List (Int × Int)) : Prop := w.ownsRow B 32 2 v l.length (cellsL l)
theorem Own.ts {w : World} {B : Nat} {v : Value} {l : List (Int × Int)} (h : Own w B v l) (hl : l.length ≤ 2097152) : Ts w v l := by
  have hh := h
  obtain ⟨_, h2⟩ := h
  rcases h2 with ⟨rfl, h0⟩ | ⟨g, cap, cur, rfl, hg, hb, hc, hm, _, _⟩
  · have : l = [] := List.eq_nil_of_length_eq_zero h0
    subst this
    exact ⟨none, 0, rfl, Nat.le_refl _, by unfold maxLen; omega, by simp, fun i hi => by simp at hi⟩
  · refine ⟨_, cap, rfl, hc, hm, hl, fun i hi => ⟨g, 0, rfl, lt_of_block hb, ?_, ?_⟩⟩
    · rw [Nat.zero_add, hh.cellAt _ (by omega)]; exact (cellsL_get l i hi).1
    · rw [Nat.zero_add, hh.cellAt _ (by omega)]; exact (cellsL_get l i hi).2
theorem own_move {w w1 : World} {B : Nat} {e : TypeId} {s : Nat} {v : Value} {n : Nat} {xs : List Value} (h : w.ownsRow B e s v n xs) (hb : ∀ k, B ≤ k → k < w.heap.size → w1.heap[k]? = w.heap[k]?) : w1.ownsRow B e s v n xs := by
  obtain ⟨h1, h2⟩ := h
  refine ⟨h1, ?_⟩
  rcases h2 with h2 | ⟨g, cap, cur, rfl, hg, hh, r⟩
  · exact .inl h2
  · exact .inr ⟨g, cap, cur, rfl, hg, by rw [hb g hg (lt_of_block hh)]; exact hh, r⟩
theorem own_keep {w w1 : World} {B : Nat} {e : TypeId} {s : Nat} {v : Value} {n : Nat} {xs : List Value} (h : w.ownsRow B e s v n xs) (hx : Below w.heap.size w w1) : w1.ownsRow B e s v n xs :=
  own_move h fun k _ hs => hx.block k hs
theorem own_less {w : World} {B B' : Nat} {e : TypeId} {s : Nat} {v : Value} {n : Nat} {xs : List Value} (h : w.ownsRow B e s v n xs) (hB : B' ≤ B) : w.ownsRow B' e s v n xs := by
  obtain ⟨h1, h2⟩ := h
  refine ⟨h1, ?_⟩
  rcases h2 with h2 | ⟨g, cap, cur, rfl, hg, r⟩
  · exact .inl h2
  · exact .inr ⟨g, cap, cur, rfl, by omega, r⟩
theorem Bx.bel {g B : Nat} {w w' : World} (h : Bx g w w') (hB : B ≤ w.heap.size) (hg : B ≤ g) : Below B w w' := h.below (Below.refl _ _) hB hg
theorem Bx.grown {g : Nat} {a w w' : World} {row : Option Nat} (h : Bx g a w) (hg : w.grownBy w' row) (hr : ∀ k, row = some k → a.heap.size ≤ k) : Bx g a w' :=
  ⟨hg.os.trans h.os, hg.tape.trans h.tape, hg.output.trans h.output, Nat.le_trans h.size hg.size, fun k hk hkg => by
    have hs := h.size
    rw [hg.block k (by omega) (fun e => by have := hr k e.symm; omega)]; exact h.block k hk hkg⟩
theorem Rd.grown {B : Nat} {w w' : World} {g : Nat} {v : Value} {n : Nat} {p : Int} {row : Option Nat} (h : Rd B w g v n p) (hg : w.grownBy w' row) (hr : ∀ k, row = some k → g < k) : Rd B w' g v n p := by
  have hl := h.blk.lt
  have hh := h.here
  have hs := h.size
  have same : ∀ k, k ≤ g → w'.heap[k]? = w.heap[k]? := fun k hk => hg.block k (by omega) (fun e => by have := hr k e.symm; omega)
  refine ⟨by unfold Bk; rw [same g (Nat.le_refl _)]; exact h.blk, ?_, h.few, h.here, Nat.le_trans h.size hg.size⟩
  obtain ⟨a, cap, rfl, h1, h2, h3⟩ := h.bytes
  refine ⟨a, cap, rfl, h1, h2, fun i hi => ?_⟩
  obtain ⟨b, off, z, rfl, hb', hc, h4, h5⟩ := h3 i hi
  exact ⟨b, off, z, rfl, hb', by rw [World.cell?_of_block (w := w) (same b (by omega))]; exact hc, h4, h5⟩
end Go.Proofs.YtbdpcngcbnoioaaGreatDoor
namespace Go.Proofs.YtbdpcngcbnoioaaGreatDoor
open Go.RowKit
end Go.Proofs.YtbdpcngcbnoioaaGreatDoor
namespace Go.Proofs.YtbdpcngcbnoioaaGreatDoor
open Go.RowKit
end Go.Proofs.YtbdpcngcbnoioaaGreatDoor
