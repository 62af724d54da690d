/- What the search through a list of times by a function that is handed on answers, and FrontCovers of the program and of its model: contracts. -/
import Derived.Test.YtbmdfmboabfceaaFr2
import Derived.Test.YtbmdfmboabfceaaTimeC
namespace Go.Proofs.Ytbmdfmboabfceaa
open Go.RowKit

/-- Is one of the times not later than x y? -/
def anyB (l : List (Int × Int)) (x y : Int) : Bool := (List.range l.length).any fun i => leB (tA l i) (tB l i) x y
theorem any_true {l : List (Int × Int)} {x y : Int} {k : Nat} (hk : k < l.length) (h : leB (tA l k) (tB l k) x y = true) : anyB l x y = true := by
  unfold anyB; rw [List.any_eq_true]; exact ⟨k, by simpa using hk, h⟩
theorem any_false {l : List (Int × Int)} {x y : Int} (h : ∀ j, j < l.length → leB (tA l j) (tB l j) x y = false) : anyB l x y = false := by
  unfold anyB; rw [List.any_eq_false]; intro j hj; rw [h j (by simpa using hj)]; simp
/-- A function value of one cell. -/
def Fk (w : World) (k : Nat) : Prop := w.heap[k]? = some (.cells #[.func (.func 68) #[] #[]] 56 (0, 0))
theorem Fk.keep {w w1 : World} {k : Nat} (h : Fk w k) (hb : Below w.heap.size w w1) : Fk w1 k := by
  unfold Fk; rw [hb.block k (lt_of_block h)]; exact h
theorem Fk.cell {w : World} {k : Nat} (h : Fk w k) : w.cell? ⟨k, 0, none⟩ = some (.func (.func 68) #[] #[]) := cell_of_one h

set_option maxHeartbeats 1000000 in
theorem closR_any (a b x y : Int) (bn bx : Nat) (w : World) (hf : Fk w bn) (hx : Bk w bx #[.int .i64 x, .int .i64 y] 31) :
    Calls Try.prog 167 #[tv a b, .pointer (some ⟨bn, 0, none⟩), .pointer (some ⟨bx, 0, none⟩)] w fun e w' => e = .returned (.bool (leB a b x y)) ∧ Below w.heap.size w w' := by
  have c0 := hf.cell
  obtain ⟨x0, x1, _, _⟩ := hx.two
  have l0 := lt_of_block hf
  have l1 := hx.lt
  go_enter Try.func167, Try.ntmps167
  go_wp2_with (go_at_call 68; refine (implLess_any _ _ _ _ _).mono ?_; rintro e w' ⟨rfl, hb⟩)
  go_ret
  refine ⟨rfl, ?_⟩
  repeat' (first | (with_reducible exact Below.refl _ _) | (with_reducible assumption) | (with_reducible refine bStep ?_ (by with_reducible assumption)) | (with_reducible refine bAlloc ?_ _) | (with_reducible refine Below.drew ?_) | (with_reducible refine bDrewN ?_ _) | (with_reducible refine Below.setCell ?_ ?_ _) | (simp; done) | (simp; omega) | omega)
theorem closR_eq {a b x y : Int} {r : Bool} (h : leB a b x y = r) {bn bx : Nat} {w : World} (hf : Fk w bn) (hx : Bk w bx #[.int .i64 x, .int .i64 y] 31) :
    Calls Try.prog 167 #[tv a b, .pointer (some ⟨bn, 0, none⟩), .pointer (some ⟨bx, 0, none⟩)] w fun e w' => e = .returned (.bool r) ∧ Below w.heap.size w w' := by
  rw [← h]; exact closR_any a b x y bn bx w hf hx

/-- r is the first place below n at which p holds, or -1. -/
def IsFirst (p : Nat → Bool) (n : Nat) (r : Int) : Prop := (r = -1 ∧ ∀ i, i < n → p i = false) ∨ ∃ k : Nat, r = k ∧ k < n ∧ p k = true ∧ ∀ i, i < k → p i = false

set_option maxHeartbeats 2000000 in
theorem indexR_any (v : Value) (l : List (Int × Int)) (x y : Int) (bn bx : Nat) (w : World) (h : Ts w v l) (hf : Fk w bn) (hx : Bk w bx #[.int .i64 x, .int .i64 y] 31) :
    Calls Try.prog 188 #[v, .func (.func 167) #[] #[.pointer (some ⟨bn, 0, none⟩), .pointer (some ⟨bx, 0, none⟩)]] w fun e w' => ∃ r : Int, e = .returned (.int .i64 r) ∧ IsFirst (fun i => leB (tA l i) (tB l i) x y) l.length r ∧ Below w.heap.size w w' := by
  obtain ⟨a, cap, rfl, hc, hm, hn, hcells⟩ := h
  unfold maxLen at hm
  have HC := (show Hid _ from hcells)
  clear hcells
  go_enter Try.func188, Try.ntmps188
  go_wp2_with fail
  go_loopw [8] (fun i wr => ∃ k : Nat, k ≤ l.length ∧ i = .int .i64 k ∧ (∀ j, j < k → leB (tA l j) (tB l j) x y = false) ∧ Below w.heap.size w wr) (fun i _ => l.length - (intOf i).toNat)
  case atStart => exact ⟨0, by omega, rfl, fun j hj => by omega, Below.refl _ _⟩
  case round =>
    obtain ⟨k, hk, rfl, hall, hb⟩ := hrel
    have HA := (show Hid _ from hall)
    clear hall
    by_cases hlt : k < l.length
    · obtain ⟨g, off, rfl, hg, c0, c1⟩ := HC.out k hlt
      have d0 := cell_below hb c0
      have d1 := cell_below hb c1
      clear c0 c1
      generalize hX : tA l k = X at *
      generalize hY : tB l k = Y at *
      have EX : Hid (tA l k = X) := hX
      have EY : Hid (tB l k = Y) := hY
      clear hX hY
      have hf2 := hf.keep hb
      have hx2 := hx.keep hb
      cases hp : leB X Y x y
      · have HK : Hid (leB (tA l k) (tB l k) x y = false) := by show _ = false; rw [EX.out, EY.out]; exact hp
        go_wp2_with fail
        refine (closR_eq hp hf2 hx2).mono ?_
        rintro e w1 ⟨rfl, hb1⟩
        have hbw := bStep hb hb1
        go_wp2_with fail
        go_roundw
        case rel =>
          refine ⟨k + 1, by omega, by go_num, fun j hj => ?_, hbw⟩
          by_cases e : j = k
          · subst e; exact HK.out
          · exact HA.out j (by omega)
        case measure => simp [intOf]; omega
      · have HK : Hid (leB (tA l k) (tB l k) x y = true) := by show _ = true; rw [EX.out, EY.out]; exact hp
        go_wp2_with fail
        refine (closR_eq hp hf2 hx2).mono ?_
        rintro e w1 ⟨rfl, hb1⟩
        have hbw := bStep hb hb1
        go_wp2_with fail
        go_ret
        exact ⟨_, rfl, .inr ⟨k, rfl, hlt, HK.out, HA.out⟩, hbw⟩
    · go_wp2_with fail
      go_ret
      exact ⟨_, rfl, .inl ⟨rfl, fun i hi => HA.out i (by omega)⟩, hb⟩

set_option maxHeartbeats 1000000 in
theorem containsR_any (v : Value) (l : List (Int × Int)) (x y : Int) (bn bx : Nat) (w : World) (h : Ts w v l) (hf : Fk w bn) (hx : Bk w bx #[.int .i64 x, .int .i64 y] 31) :
    Calls Try.prog 166 #[v, .func (.func 167) #[] #[.pointer (some ⟨bn, 0, none⟩), .pointer (some ⟨bx, 0, none⟩)]] w fun e w' => e = .returned (.bool (anyB l x y)) ∧ Below w.heap.size w w' := by
  go_enter Try.func166, Try.ntmps166
  go_wp2_with fail
  refine (indexR_any v l x y bn bx w h hf hx).mono ?_
  rintro e w1 ⟨r, rfl, hr, hb⟩
  rcases hr with ⟨rfl, hno⟩ | ⟨k, rfl, hk, hyes, _⟩
  · have hfin : Hid (anyB l x y = false) := any_false hno
    clear hno
    go_wp2_with fail
    go_ret
    exact ⟨ret_bool hfin.out.symm, hb⟩
  · have hfin : Hid (anyB l x y = true) := any_true hk hyes
    have ik : (0 : Int) ≤ (k : Int) := by omega
    clear hyes
    go_wp2_with fail
    go_ret
    refine ⟨?_, hb⟩
    rw [hfin.out]
    exact ret_bool (by simp)

set_option maxHeartbeats 1000000 in
theorem reaches_any (v : Value) (l : List (Int × Int)) (x y : Int) (w : World) (h : Ts w v l) :
    Calls Try.prog 121 #[v, tv x y, .func (.func 68) #[] #[]] w fun e w' => e = .returned (.bool (anyB l x y)) ∧ Below w.heap.size w w' := by
  have hb0 : Below w.heap.size w ((w.alloc (.cells #[.int .i64 x, .int .i64 y] 31)).alloc (.cells #[.func (.func 68) #[] #[]] 56)) := bAlloc (bAlloc (Below.refl _ _) _) _
  have hx : Bk ((w.alloc (.cells #[.int .i64 x, .int .i64 y] 31)).alloc (.cells #[.func (.func 68) #[] #[]] 56)) w.heap.size #[.int .i64 x, .int .i64 y] 31 := (Bk.new _ _ rfl).alloc _
  have hf : Fk ((w.alloc (.cells #[.int .i64 x, .int .i64 y] 31)).alloc (.cells #[.func (.func 68) #[] #[]] 56)) (w.heap.size + 1) := by
    have := heap_alloc_new (w.alloc (.cells #[.int .i64 x, .int .i64 y] 31)) (.cells #[.func (.func 68) #[] #[]] 56)
    simpa [Fk] using this
  go_enter Try.func121, Try.ntmps121
  go_wp2_with fail
  refine (containsR_any v l x y _ _ _ (h.keep hb0) hf hx).mono ?_
  rintro e w1 ⟨rfl, hb1⟩
  go_wp2_with fail
  go_ret
  exact ⟨rfl, bStep hb0 hb1⟩

set_option maxHeartbeats 1000000 in
theorem implCovers_any (v : Value) (l : List (Int × Int)) (x y : Int) (w : World) (h : Ts w v l) :
    Calls Try.prog 59 #[v, tv x y] w fun e w' => e = .returned (.bool (fokB l && anyB l x y)) ∧ Below w.heap.size w w' := by
  have hb0 : Below w.heap.size w (w.alloc (.cells #[.int .i64 x, .int .i64 y] 31)) := bAlloc (Below.refl _ _) _
  have bx : Bk (w.alloc (.cells #[.int .i64 x, .int .i64 y] 31)) w.heap.size #[.int .i64 x, .int .i64 y] 31 := Bk.new _ _ rfl
  go_enter Try.func59, Try.ntmps59
  go_wp2_with fail
  refine (implFrontOk_any v l _ (h.keep hb0)).mono ?_
  rintro e w1 ⟨rfl, hb1⟩
  have hbw1 := bStep hb0 hb1
  obtain ⟨c0, c1, _, _⟩ := (bx.keep hb1).two
  cases hf : fokB l
  · go_wp2_with fail
    go_ret
    exact ⟨ret_bool (by simp [hf]), hbw1⟩
  · go_wp2_with fail
    refine (reaches_any v l x y _ (h.keep hbw1)).mono ?_
    rintro e w2 ⟨rfl, hb2⟩
    go_wp2_with fail
    go_ret
    exact ⟨ret_bool (by simp [hf]), bStep hbw1 hb2⟩

theorem specLess_eq {a b c d : Int} {r : Bool} (h : leB a b c d = r) (w : World) : Calls Try.prog 129 #[tv a b, tv c d] w fun e w' => e = .returned (.bool r) ∧ Below w.heap.size w w' := by
  rw [← h]; exact specLess_any a b c d w

set_option maxHeartbeats 2000000 in
theorem specCovers_any (v : Value) (l : List (Int × Int)) (x y : Int) (w : World) (h : Ts w v l) :
    Calls Try.prog 106 #[v, tv x y] w fun e w' => e = .returned (.bool (fokB l && anyB l x y)) ∧ Below w.heap.size w w' := by
  have hb0 : Below w.heap.size w (w.alloc (.cells #[.int .i64 x, .int .i64 y] 31)) := bAlloc (Below.refl _ _) _
  have bx : Bk (w.alloc (.cells #[.int .i64 x, .int .i64 y] 31)) w.heap.size #[.int .i64 x, .int .i64 y] 31 := Bk.new _ _ rfl
  go_enter Try.func106, Try.ntmps106
  go_wp2_with fail
  refine (specFrontOk_any v l _ (h.keep hb0)).mono ?_
  rintro e w1 ⟨rfl, hb1⟩
  have hbw1 := bStep hb0 hb1
  have bx1 := bx.keep hb1
  cases hf : fokB l
  · go_wp2_with fail
    go_ret
    exact ⟨ret_bool (by simp [hf]), hbw1⟩
  obtain ⟨a, cap, rfl, hc, hm, hn, hcells⟩ := h.keep hbw1
  unfold maxLen at hm
  have HC := (show Hid _ from hcells)
  have HF : Hid (fokB l = true) := hf
  clear hcells bx hb0 hb1 hf
  go_wp2_with fail
  go_loopw [5] (fun i wr => ∃ k : Nat, k ≤ l.length ∧ i = .int .i64 k ∧ (∀ j, j < k → leB (tA l j) (tB l j) x y = false) ∧ Below w1.heap.size w1 wr) (fun i _ => l.length - (intOf i).toNat)
  case atStart => exact ⟨0, by omega, rfl, fun j hj => by omega, Below.refl _ _⟩
  case round =>
    obtain ⟨k, hk, rfl, hall, hb⟩ := hrel
    have HA := (show Hid _ from hall)
    clear hall
    have hbw := bStep hbw1 hb
    by_cases hlt : k < l.length
    · obtain ⟨g, off, rfl, hg, c0, c1⟩ := HC.out k hlt
      generalize hX : tA l k = X at *
      generalize hY : tB l k = Y at *
      have EX : Hid (tA l k = X) := hX
      have EY : Hid (tB l k = Y) := hY
      clear hX hY
      have d0 : ∀ p : Bel wr, p.ww.cell? ⟨g, off + k * 2, none⟩ = some (.int .i64 X) := fun p => cell_below p.below (cell_below hb c0)
      have d1 : ∀ p : Bel wr, p.ww.cell? ⟨g, off + k * 2 + 1, none⟩ = some (.int .i64 Y) := fun p => cell_below p.below (cell_below hb c1)
      have e0 := (bx1.keep hb).bel0
      have e1 := (bx1.keep hb).bel1
      have hne := bel_some wr
      have ik : ((k : Int) < (l.length : Int)) := by omega
      clear c0 c1
      cases hp : leB X Y x y
      · have HK : Hid (leB (tA l k) (tB l k) x y = false) := by show _ = false; rw [EX.out, EY.out]; exact hp
        go_wp2_with fail
        (refine wp_region_bel (by kernel_rfl) (by kernel_rfl) ?_; (repeat (go_big_quiet_step ((first | (go_at_call 129; exact calls_bel (specLess_eq (by with_reducible assumption) _)))))); refine wpQuiet_nil ?_)
        intro w2 hw2
        replace hw2 := bel_out hw2
        have hb2 := bStep hb hw2
        go_wp2_with fail
        go_roundw
        case rel =>
          refine ⟨k + 1, by omega, by go_num, fun j hj => ?_, hb2⟩
          by_cases e : j = k
          · subst e; exact HK.out
          · exact HA.out j (by omega)
        case measure => simp [intOf]; omega
      · have HK : Hid (anyB l x y = true) := any_true hlt (by rw [EX.out, EY.out]; exact hp)
        go_wp2_with fail
        (refine wp_region_bel (by kernel_rfl) (by kernel_rfl) ?_; (repeat (go_big_quiet_step ((first | (go_at_call 129; exact calls_bel (specLess_eq (by with_reducible assumption) _)))))); refine wpQuiet_nil ?_)
        intro w2 hw2
        replace hw2 := bel_out hw2
        go_wp2_with fail
        go_ret
        exact ⟨ret_bool (by rw [HF.out, HK.out]; rfl), bStep hbw hw2⟩
    · have HK : Hid (anyB l x y = false) := any_false fun j hj => HA.out j (by omega)
      go_wp2_with fail
      go_ret
      exact ⟨ret_bool (by rw [HK.out]; simp), hbw⟩
end Go.Proofs.Ytbmdfmboabfceaa
