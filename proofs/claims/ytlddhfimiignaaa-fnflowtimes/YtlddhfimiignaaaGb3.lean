/- What cmp.Compare and cmp.Or answer of numbers: contracts. -/
import Derived.Test.YtlddhfimiignaaaGa1
import Derived.Test.YtlddhfimiignaaaGb1
import Derived.Deep.RegionHeld3
import Derived.Sort.Grow
import Derived.Deep.Cut
/-! What cmp.Compare and cmp.Or answer of numbers: contracts. -/
namespace Go.Proofs.Ytlddhfimiignaaa
open Go.RowKit

/-- What cmp.Compare answers. -/
def cmpZ (a b : Int) : Int := if a < b then -1 else if a > b then 1 else 0
theorem cmpZ_neg (a b : Int) : (cmpZ a b < 0) = (a < b) := by unfold cmpZ; split <;> (try split) <;> simp <;> omega
set_option maxHeartbeats 2000000 in
theorem isNaN_any (a : Int) (w : World) : Calls Try.prog 151 #[.int .i64 a] w fun e w' => e = .returned (.bool false) ∧ w' = w := by
  go_enter Try.func151, Try.ntmps151
  go_wp2
  go_ret
  exact ⟨ret_bool (by simp), rfl⟩
set_option maxHeartbeats 2000000 in
theorem compare_any (a b : Int) (w : World) : Calls Try.prog 127 #[.int .i64 a, .int .i64 b] w fun e w' => e = .returned (.int .i64 (cmpZ a b)) ∧ w' = w := by
  by_cases h1 : a < b
  · have e : cmpZ a b = -1 := by simp [cmpZ, h1]
    go_enter Try.func127, Try.ntmps127
    go_wp2_with (go_at_call 151; refine (isNaN_any _ _).mono ?_; rintro e w' ⟨rfl, rfl⟩)
    go_ret
    exact ⟨by rw [e]; rfl, rfl⟩
  by_cases h2 : a > b
  · have e : cmpZ a b = 1 := by simp [cmpZ, h1, h2]
    go_enter Try.func127, Try.ntmps127
    go_wp2_with (go_at_call 151; refine (isNaN_any _ _).mono ?_; rintro e w' ⟨rfl, rfl⟩)
    go_ret
    exact ⟨by rw [e]; rfl, rfl⟩
  · have e : cmpZ a b = 0 := by simp [cmpZ, h1, h2]
    go_enter Try.func127, Try.ntmps127
    go_wp2_with (go_at_call 151; refine (isNaN_any _ _).mono ?_; rintro e w' ⟨rfl, rfl⟩)
    go_ret
    exact ⟨by rw [e]; rfl, rfl⟩

theorem retI {k : IntKind} {a b : Int} (h : a = b) : Ending.returned (.int k a) = .returned (.int k b) := by rw [h]
/-- The first of two that is not 0. -/
def orZ (x y : Int) : Int := if x = 0 then y else x
set_option maxHeartbeats 2000000 in
theorem or2_any (g : Nat) (x y : Int) (w : World) (c0 : w.cell? ⟨g, 0, none⟩ = some (.int .i64 x)) (c1 : w.cell? ⟨g, 1, none⟩ = some (.int .i64 y)) :
    Calls Try.prog 126 #[.slice (some ⟨g, 0, none⟩) 2 2] w fun e w' => e = .returned (.int .i64 (orZ x y)) ∧ w' = w := by
  have H : Hid (orZ x y = if x = 0 then y else x) := rfl
  by_cases h0 : x = 0
  · subst h0
    by_cases h1 : y = 0
    · subst h1
      go_enter Try.func126, Try.ntmps126
      go_wp2_with fail
      go_rounds 3
      go_returns
      exact ⟨rfl, rfl⟩
    · have n1 : (y == 0) = false := by simpa using h1
      go_enter Try.func126, Try.ntmps126
      go_wp2_with fail
      go_rounds 3
      go_returns
      exact ⟨rfl, rfl⟩
  · have n0 : (x == 0) = false := by simpa using h0
    go_enter Try.func126, Try.ntmps126
    go_wp2_with fail
    go_rounds 3
    go_returns
    exact ⟨retI (by rw [H.out, if_neg h0]), rfl⟩
set_option maxHeartbeats 2000000 in
theorem or3_any (g : Nat) (x y z : Int) (w : World) (c0 : w.cell? ⟨g, 0, none⟩ = some (.int .i64 x)) (c1 : w.cell? ⟨g, 1, none⟩ = some (.int .i64 y)) (c2 : w.cell? ⟨g, 2, none⟩ = some (.int .i64 z)) :
    Calls Try.prog 126 #[.slice (some ⟨g, 0, none⟩) 3 3] w fun e w' => e = .returned (.int .i64 (orZ x (orZ y z))) ∧ w' = w := by
  have H : Hid (orZ x (orZ y z) = if x = 0 then (if y = 0 then z else y) else x) := rfl
  by_cases h0 : x = 0
  · subst h0
    by_cases h1 : y = 0
    · subst h1
      by_cases h2 : z = 0
      · subst h2
        go_enter Try.func126, Try.ntmps126
        go_wp2_with fail
        go_rounds 4
        go_returns
        exact ⟨rfl, rfl⟩
      · have n2 : (z == 0) = false := by simpa using h2
        go_enter Try.func126, Try.ntmps126
        go_wp2_with fail
        go_rounds 4
        go_returns
        exact ⟨rfl, rfl⟩
    · have n1 : (y == 0) = false := by simpa using h1
      go_enter Try.func126, Try.ntmps126
      go_wp2_with fail
      go_rounds 4
      go_returns
      exact ⟨retI (by rw [H.out]; simp [h1]), rfl⟩
  · have n0 : (x == 0) = false := by simpa using h0
    go_enter Try.func126, Try.ntmps126
    go_wp2_with fail
    go_rounds 4
    go_returns
    exact ⟨retI (by rw [H.out, if_neg h0]), rfl⟩
end Go.Proofs.Ytlddhfimiignaaa

/-! What the comparisons of times, items and rows answer: contracts. -/
namespace Go.Proofs.Ytlddhfimiignaaa
open Go.RowKit
attribute [local go_sem ↓] Go.wp_at_zero Go.wp_at_succ

/-- A world that is w with new blocks behind it, so many draws on. -/
def Gr (w w' : World) : Prop := Below w.heap.size w w' ∧ w.drawn ≤ w'.drawn
theorem gr_grow {w w' : World} (h : Gr w w') : ∃ q os, w' = Go.Sort.grow (w.drewN q) os := by
  obtain ⟨hb, hd⟩ := h
  refine ⟨w'.drawn - w.drawn, (w'.heap.toList.drop w.heap.size).toArray, ?_⟩
  have hh : w'.heap = w.heap ++ (w'.heap.toList.drop w.heap.size).toArray := by
    apply Array.ext_getElem?
    intro i
    by_cases hi : i < w.heap.size
    · rw [hb.block i hi, Array.getElem?_append_left hi]
    · rw [Array.getElem?_append_right (by omega)]
      simp
      congr 1
      omega
  obtain ⟨h1, h2, h3, h4, h5⟩ := w'
  simp only [Go.Sort.grow, World.drewN]
  congr 1
  · exact hb.tape
  · show h3 = w.drawn + (h3 - w.drawn); have : w.drawn ≤ h3 := hd; omega
  · exact hb.os
  · exact hb.output
theorem Gr.refl (w : World) : Gr w w := ⟨Below.refl _ _, Nat.le_refl _⟩
theorem Gr.trans {a b c : World} (h : Gr a b) (k : Gr b c) : Gr a c := ⟨bStep h.1 k.1, Nat.le_trans h.2 k.2⟩
theorem Gr.alloc {a b : World} (h : Gr a b) (o : Obj) : Gr a (b.alloc o) := ⟨bAlloc h.1 o, h.2⟩
theorem Gr.drew {a b : World} (h : Gr a b) : Gr a b.drew := ⟨h.1.drew, Nat.le_succ_of_le h.2⟩
theorem Gr.drewN {a b : World} (h : Gr a b) (n : Nat) : Gr a (b.drewN n) := ⟨bDrewN h.1 n, Nat.le_trans h.2 (Nat.le_add_right _ _)⟩
set_option maxHeartbeats 2000000 in
theorem compareT_any (a b c d : Int) (w : World) :
    Calls Try.prog 87 #[tv a b, tv c d] w fun e w' => e = .returned (.int .i64 (orZ (cmpZ a c) (cmpZ b d))) ∧ Gr w w' := by
  have b0 := (Bk.new (w := w) #[.int .i64 a, .int .i64 b] 45 rfl).alloc (.cells #[.int .i64 c, .int .i64 d] 45)
  have b1 := Bk.new (w := w.alloc (.cells #[.int .i64 a, .int .i64 b] 45)) (k := w.heap.size + 1) #[.int .i64 c, .int .i64 d] 45 (by simp)
  have hg := ((Gr.refl w).alloc (.cells #[.int .i64 a, .int .i64 b] 45)).alloc (.cells #[.int .i64 c, .int .i64 d] 45)
  go_enter Try.func87, Try.ntmps87
  go_wp2_with fail
  generalize World.alloc _ _ = W at *
  have HK : Hid (∀ w', Below W.heap.size W w' → w'.cell? ⟨w.heap.size, 0, none⟩ = some (.int .i64 a) ∧ w'.cell? ⟨w.heap.size, 1, none⟩ = some (.int .i64 b) ∧ w'.cell? ⟨w.heap.size + 1, 0, none⟩ = some (.int .i64 c) ∧ w'.cell? ⟨w.heap.size + 1, 1, none⟩ = some (.int .i64 d)) :=
    fun w' h => ⟨(b0.keep h).two.1, (b0.keep h).two.2.1, (b1.keep h).two.1, (b1.keep h).two.2.1⟩
  have hbd : Below W.heap.size W W.drew := (Below.refl _ _).drew
  clear b0 b1
  go_region_held3 (fun w' => w'.cell? ⟨w.heap.size, 0, none⟩ = some (.int .i64 a) ∧ w'.cell? ⟨w.heap.size, 1, none⟩ = some (.int .i64 b) ∧ w'.cell? ⟨w.heap.size + 1, 0, none⟩ = some (.int .i64 c) ∧ w'.cell? ⟨w.heap.size + 1, 1, none⟩ = some (.int .i64 d))
    (first | exact HK.out _ (by with_reducible assumption) | exact HK.out _ (bAlloc (by with_reducible assumption) _))
    (first
      | (go_at_call 127; refine (compare_any _ _ _).mono ?_; rintro e w' ⟨rfl, rfl⟩)
      | (go_at_call 126; refine (or2_any _ _ _ _ (Bk.new _ _ rfl).drew.two.1 (Bk.new _ _ rfl).drew.two.2.1).mono ?_; rintro e w' ⟨rfl, rfl⟩))
  go_wp2_with fail
  go_ret
  exact ⟨rfl, (hg.alloc _).drew⟩
set_option maxHeartbeats 4000000 in
theorem compareI_any (a b c x y z : Int) (w : World) :
    Calls Try.prog 94 #[iv a b c, iv x y z] w fun e w' => e = .returned (.int .i64 (orZ (cmpZ a x) (cmpZ b y))) ∧ Gr w w' := by
  have b0 := (Bk.new (w := w) #[.int .i64 a, .int .i64 b, .int .i64 c] 34 rfl).alloc (.cells #[.int .i64 x, .int .i64 y, .int .i64 z] 34)
  have b1 := Bk.new (w := w.alloc (.cells #[.int .i64 a, .int .i64 b, .int .i64 c] 34)) (k := w.heap.size + 1) #[.int .i64 x, .int .i64 y, .int .i64 z] 34 (by simp)
  have hg := ((Gr.refl w).alloc (.cells #[.int .i64 a, .int .i64 b, .int .i64 c] 34)).alloc (.cells #[.int .i64 x, .int .i64 y, .int .i64 z] 34)
  go_enter Try.func94, Try.ntmps94
  go_wp2_with fail
  generalize World.alloc _ _ = W at *
  have HK : Hid (∀ w', Below W.heap.size W w' → w'.cell? ⟨w.heap.size, 0, none⟩ = some (.int .i64 a) ∧ w'.cell? ⟨w.heap.size, 1, none⟩ = some (.int .i64 b) ∧ w'.cell? ⟨w.heap.size + 1, 0, none⟩ = some (.int .i64 x) ∧ w'.cell? ⟨w.heap.size + 1, 1, none⟩ = some (.int .i64 y)) :=
    fun w' h => ⟨(b0.keep h).three.1, (b0.keep h).three.2.1, (b1.keep h).three.1, (b1.keep h).three.2.1⟩
  have hbd : Below W.heap.size W W.drew := (Below.refl _ _).drew
  clear b0 b1
  go_region_held3 (fun w' => w'.cell? ⟨w.heap.size, 0, none⟩ = some (.int .i64 a) ∧ w'.cell? ⟨w.heap.size, 1, none⟩ = some (.int .i64 b) ∧ w'.cell? ⟨w.heap.size + 1, 0, none⟩ = some (.int .i64 x) ∧ w'.cell? ⟨w.heap.size + 1, 1, none⟩ = some (.int .i64 y))
    (first | exact HK.out _ (by with_reducible assumption) | exact HK.out _ (bAlloc (by with_reducible assumption) _))
    (first
      | (go_at_call 127; refine (compare_any _ _ _).mono ?_; rintro e w' ⟨rfl, rfl⟩)
      | (go_at_call 126; refine (or2_any _ _ _ _ (Bk.new _ _ rfl).drew.two.1 (Bk.new _ _ rfl).drew.two.2.1).mono ?_; rintro e w' ⟨rfl, rfl⟩))
  go_wp2_with fail
  go_ret
  exact ⟨rfl, (hg.alloc _).drew⟩
set_option maxHeartbeats 4000000 in
theorem compareR_any (k v a b d k' v' a' b' d' : Int) (w : World) :
    Calls Try.prog 137 #[rv k v a b d, rv k' v' a' b' d'] w fun e w' => e = .returned (.int .i64 (orZ (cmpZ k k') (orZ (cmpZ v v') (orZ (cmpZ a a') (cmpZ b b'))))) ∧ Gr w w' := by
  have b0 := (Bk.new (w := w) #[.int .i64 k, .int .i64 v, .int .i64 a, .int .i64 b, .int .i64 d] 55 rfl).alloc (.cells #[.int .i64 k', .int .i64 v', .int .i64 a', .int .i64 b', .int .i64 d'] 55)
  have b1 := Bk.new (w := w.alloc (.cells #[.int .i64 k, .int .i64 v, .int .i64 a, .int .i64 b, .int .i64 d] 55)) (k := w.heap.size + 1) #[.int .i64 k', .int .i64 v', .int .i64 a', .int .i64 b', .int .i64 d'] 55 (by simp)
  have hg := ((Gr.refl w).alloc (.cells #[.int .i64 k, .int .i64 v, .int .i64 a, .int .i64 b, .int .i64 d] 55)).alloc (.cells #[.int .i64 k', .int .i64 v', .int .i64 a', .int .i64 b', .int .i64 d'] 55)
  go_enter Try.func137, Try.ntmps137
  go_wp2_with fail
  generalize World.alloc _ _ = W at *
  have HK : Hid (∀ w', Below W.heap.size W w' → (w'.cell? ⟨w.heap.size, 0, none⟩ = some (.int .i64 k) ∧ w'.cell? ⟨w.heap.size, 1, none⟩ = some (.int .i64 v) ∧ w'.cell? ⟨w.heap.size, 2, none⟩ = some (.int .i64 a) ∧ w'.cell? ⟨w.heap.size, 3, none⟩ = some (.int .i64 b)) ∧
      w'.cell? ⟨w.heap.size + 1, 0, none⟩ = some (.int .i64 k') ∧ w'.cell? ⟨w.heap.size + 1, 1, none⟩ = some (.int .i64 v') ∧ w'.cell? ⟨w.heap.size + 1, 2, none⟩ = some (.int .i64 a') ∧ w'.cell? ⟨w.heap.size + 1, 3, none⟩ = some (.int .i64 b')) :=
    fun w' h => ⟨⟨(b0.keep h).five.1, (b0.keep h).five.2.1, (b0.keep h).five.2.2.1, (b0.keep h).five.2.2.2.1⟩, (b1.keep h).five.1, (b1.keep h).five.2.1, (b1.keep h).five.2.2.1, (b1.keep h).five.2.2.2.1⟩
  have hbd : Below W.heap.size W W.drew := (Below.refl _ _).drew
  have hgd : Gr W W.drew := (Gr.refl _).drew
  clear b0 b1
  go_region_held3 (fun w' => (w'.cell? ⟨w.heap.size, 0, none⟩ = some (.int .i64 k) ∧ w'.cell? ⟨w.heap.size, 1, none⟩ = some (.int .i64 v) ∧ w'.cell? ⟨w.heap.size, 2, none⟩ = some (.int .i64 a) ∧ w'.cell? ⟨w.heap.size, 3, none⟩ = some (.int .i64 b)) ∧
      w'.cell? ⟨w.heap.size + 1, 0, none⟩ = some (.int .i64 k') ∧ w'.cell? ⟨w.heap.size + 1, 1, none⟩ = some (.int .i64 v') ∧ w'.cell? ⟨w.heap.size + 1, 2, none⟩ = some (.int .i64 a') ∧ w'.cell? ⟨w.heap.size + 1, 3, none⟩ = some (.int .i64 b'))
    (first | exact HK.out _ (by with_reducible assumption) | exact HK.out _ (bAlloc (by with_reducible assumption) _))
    (first
      | (go_at_call 127; refine (compare_any _ _ _).mono ?_; rintro e w' ⟨rfl, rfl⟩)
      | (go_at_call 87; refine (compareT_any _ _ _ _ _).mono ?_; rintro e wj ⟨rfl, hgj⟩; have hgw := hgd.trans hgj; have hbj := hgw.1)
      | (go_at_call 126; refine (or3_any _ _ _ _ _ (Bk.new _ _ rfl).three.1 (Bk.new _ _ rfl).three.2.1 (Bk.new _ _ rfl).three.2.2).mono ?_; rintro e w' ⟨rfl, rfl⟩))
  go_wp2_with fail
  go_ret
  exact ⟨rfl, (hg.trans hgw).alloc _⟩
end Go.Proofs.Ytlddhfimiignaaa

/-! What the model's comparison of rows answers, and BatchOk of the program and of its model: contracts. -/
namespace Go.Proofs.Ytlddhfimiignaaa
open Go.RowKit

theorem cmpZ_or (a c b d : Int) : orZ (cmpZ a c) (cmpZ b d) = cmpT (a, b) (c, d) := by
  simp only [orZ, cmpZ, cmpT, ltT, decide_eq_true_eq]
  repeat' split
  all_goals omega
theorem cmpS_or (k v a b k' v' a' b' : Int) : orZ (cmpZ k k') (orZ (cmpZ v v') (orZ (cmpZ a a') (cmpZ b b'))) = cmpS ((k, v), (a, b)) ((k', v'), (a', b')) := by
  simp only [orZ, cmpZ, cmpS, ltS_iff]
  repeat' split
  all_goals omega
def nth4 (x0 x1 x2 x3 : Int) (i : Nat) : Int := if i = 0 then x0 else if i = 1 then x1 else if i = 2 then x2 else x3
theorem lex_lt {k v a b k' v' a' b' : Int} {n : Nat} (hn : n < 4) (h : ∀ j, j < n → nth4 k v a b j = nth4 k' v' a' b' j) (hl : nth4 k v a b n < nth4 k' v' a' b' n) : cmpS ((k, v), (a, b)) ((k', v'), (a', b')) = -1 := by
  have : ltS ((k, v), (a, b)) ((k', v'), (a', b')) = true := by
    rw [ltS_iff]
    obtain rfl | rfl | rfl | rfl : n = 0 ∨ n = 1 ∨ n = 2 ∨ n = 3 := by omega
    · simp [nth4] at hl; simp; omega
    · have := h 0 (by omega); simp [nth4] at hl this; simp; omega
    · have := h 0 (by omega); have := h 1 (by omega); simp [nth4] at *; omega
    · have := h 0 (by omega); have := h 1 (by omega); have := h 2 (by omega); simp [nth4] at *; omega
  simp [cmpS, this]
theorem lex_gt {k v a b k' v' a' b' : Int} {n : Nat} (hn : n < 4) (h : ∀ j, j < n → nth4 k v a b j = nth4 k' v' a' b' j) (hl : nth4 k' v' a' b' n < nth4 k v a b n) : cmpS ((k, v), (a, b)) ((k', v'), (a', b')) = 1 := by
  have h1 : ltS ((k', v'), (a', b')) ((k, v), (a, b)) = true := by
    have := lex_lt hn (fun j hj => (h j hj).symm) hl
    unfold cmpS at this
    cases e : ltS ((k', v'), (a', b')) ((k, v), (a, b))
    · rw [e] at this; simp at this; split at this <;> omega
    · rfl
  have h2 : ltS ((k, v), (a, b)) ((k', v'), (a', b')) = false := by
    cases e : ltS ((k, v), (a, b)) ((k', v'), (a', b'))
    · rfl
    · have := ltS_ord.trans _ _ _ e h1; rw [ltS_ord.irr] at this; cases this
  simp [cmpS, h1, h2]
theorem lex_eq {k v a b k' v' a' b' : Int} (h : ∀ j, j < 4 → nth4 k v a b j = nth4 k' v' a' b' j) : cmpS ((k, v), (a, b)) ((k', v'), (a', b')) = 0 := by
  have h0 := h 0 (by omega); have h1 := h 1 (by omega); have h2 := h 2 (by omega); have h3 := h 3 (by omega)
  simp [nth4] at h0 h1 h2 h3
  subst h0 h1 h2 h3
  simp [cmpS, ltS_ord.irr]
theorem Bk.four {w : World} {g : Nat} {x0 x1 x2 x3 : Int} {t : TypeId} (h : Bk w g #[.int .i64 x0, .int .i64 x1, .int .i64 x2, .int .i64 x3] t) {n : Nat} (hn : n < 4) : w.cell? ⟨g, n, none⟩ = some (.int .i64 (nth4 x0 x1 x2 x3 n)) := by
  obtain rfl | rfl | rfl | rfl : n = 0 ∨ n = 1 ∨ n = 2 ∨ n = 3 := by omega
  all_goals exact h.cell rfl
set_option maxHeartbeats 4000000 in
theorem l2Comp_any (k v a b d k' v' a' b' d' : Int) (w : World) :
    Calls Try.prog 138 #[rv k v a b d, rv k' v' a' b' d'] w fun e w' => e = .returned (.int .i64 (cmpS ((k, v), (a, b)) ((k', v'), (a', b')))) ∧ Below w.heap.size w w' := by
  go_enter Try.func138, Try.ntmps138
  go_wp2_with fail
  have bx := (Bk.new (w := (w.alloc (.cells #[.int .i64 k, .int .i64 v, .int .i64 a, .int .i64 b, .int .i64 d] 55)).alloc (.cells #[.int .i64 k', .int .i64 v', .int .i64 a', .int .i64 b', .int .i64 d'] 55)) (k := w.heap.size + 1 + 1) #[.int .i64 k, .int .i64 v, .int .i64 a, .int .i64 b] 3 (by simp)).alloc (.cells #[.int .i64 k', .int .i64 v', .int .i64 a', .int .i64 b'] 3)
  have by' := Bk.new (w := ((w.alloc (.cells #[.int .i64 k, .int .i64 v, .int .i64 a, .int .i64 b, .int .i64 d] 55)).alloc (.cells #[.int .i64 k', .int .i64 v', .int .i64 a', .int .i64 b', .int .i64 d'] 55)).alloc (.cells #[.int .i64 k, .int .i64 v, .int .i64 a, .int .i64 b] 3)) (k := w.heap.size + 1 + 1 + 1) #[.int .i64 k', .int .i64 v', .int .i64 a', .int .i64 b'] 3 (by simp)
  have hb0 := bAlloc (bAlloc (bAlloc (bAlloc (Below.refl w.heap.size w) (.cells #[.int .i64 k, .int .i64 v, .int .i64 a, .int .i64 b, .int .i64 d] 55)) (.cells #[.int .i64 k', .int .i64 v', .int .i64 a', .int .i64 b', .int .i64 d'] 55)) (.cells #[.int .i64 k, .int .i64 v, .int .i64 a, .int .i64 b] 3)) (.cells #[.int .i64 k', .int .i64 v', .int .i64 a', .int .i64 b'] 3)
  generalize World.alloc _ _ = W at *
  have HL1 : Hid (∀ n, n < 4 → (∀ j, j < n → nth4 k v a b j = nth4 k' v' a' b' j) → nth4 k v a b n < nth4 k' v' a' b' n → cmpS ((k, v), (a, b)) ((k', v'), (a', b')) = -1) := fun n h1 h2 h3 => lex_lt h1 h2 h3
  have HL2 : Hid (∀ n, n < 4 → (∀ j, j < n → nth4 k v a b j = nth4 k' v' a' b' j) → nth4 k' v' a' b' n < nth4 k v a b n → cmpS ((k, v), (a, b)) ((k', v'), (a', b')) = 1) := fun n h1 h2 h3 => lex_gt h1 h2 h3
  have HL3 : Hid ((∀ j, j < 4 → nth4 k v a b j = nth4 k' v' a' b' j) → cmpS ((k, v), (a, b)) ((k', v'), (a', b')) = 0) := fun h => lex_eq h
  go_loopw [7] (fun i wr => ∃ n : Nat, n ≤ 4 ∧ i = .int .i64 n ∧ (∀ j, j < n → nth4 k v a b j = nth4 k' v' a' b' j) ∧ Below W.heap.size W wr) (fun i _ => 4 - (intOf i).toNat)
  case atStart => exact ⟨0, by omega, rfl, fun j hj => by omega, Below.refl _ _⟩
  case round =>
    obtain ⟨n, hn, rfl, hall, hb⟩ := hrel
    have HA := (show Hid _ from hall)
    clear hall
    have hbw := bStep hb0 hb
    by_cases hlt : n < 4
    · have d0 := (bx.keep hb).four hlt
      have d1 := (by'.keep hb).four hlt
      have K1 := (show Hid _ from HL1.out n hlt HA.out)
      have K2 := (show Hid _ from HL2.out n hlt HA.out)
      have K3 : Hid (nth4 k v a b n = nth4 k' v' a' b' n → ∀ j, j < n + 1 → nth4 k v a b j = nth4 k' v' a' b' j) := fun e j hj => by
        by_cases ej : j = n
        · rw [ej]; exact e
        · exact HA.out j (by omega)
      generalize nth4 k v a b n = X at *
      generalize nth4 k' v' a' b' n = Y at *
      have ik : ((n : Int) < 4) := by omega
      by_cases h1 : X < Y
      · have HK : Hid (cmpS ((k, v), (a, b)) ((k', v'), (a', b')) = -1) := K1.out h1
        go_wp2_with fail
        go_quiet (fail)
        go_wp2_with fail
        go_ret
        exact ⟨retI HK.out.symm, bDrewN hbw _⟩
      · by_cases h2 : Y < X
        · have HK : Hid (cmpS ((k, v), (a, b)) ((k', v'), (a', b')) = 1) := K2.out h2
          go_wp2_with fail
          go_quiet (fail)
          go_wp2_with fail
          go_quiet (fail)
          go_wp2_with fail
          go_ret
          exact ⟨retI HK.out.symm, bDrewN (bDrewN hbw _) _⟩
        · have HK := (show Hid _ from K3.out (by omega))
          go_wp2_with fail
          go_quiet (fail)
          go_wp2_with fail
          go_quiet (fail)
          go_wp2_with fail
          go_roundw
          case rel => exact ⟨n + 1, by omega, by go_num, HK.out, bDrewN hb _⟩
          case measure => simp [intOf]; omega
    · have HK : Hid (cmpS ((k, v), (a, b)) ((k', v'), (a', b')) = 0) := HL3.out fun j hj => HA.out j (by omega)
      go_wp2_with fail
      go_ret
      exact ⟨retI HK.out.symm, hbw⟩
theorem l2Comp_eq {k v a b d k' v' a' b' d' r : Int} (h : cmpS ((k, v), (a, b)) ((k', v'), (a', b')) = r) (w : World) :
    Calls Try.prog 138 #[rv k v a b d, rv k' v' a' b' d'] w fun e w' => e = .returned (.int .i64 r) ∧ Below w.heap.size w w' := by
  rw [← h]; exact l2Comp_any k v a b d k' v' a' b' d' w
theorem compareR_eq {k v a b d k' v' a' b' d' r : Int} (h : cmpS ((k, v), (a, b)) ((k', v'), (a', b')) = r) (w : World) :
    Calls Try.prog 137 #[rv k v a b d, rv k' v' a' b' d'] w fun e w' => e = .returned (.int .i64 r) ∧ Below w.heap.size w w' := by
  rw [← h, ← cmpS_or]
  refine (compareR_any k v a b d k' v' a' b' d' w).mono ?_
  rintro e w' ⟨he, hg⟩
  exact ⟨he, hg.1⟩
end Go.Proofs.Ytlddhfimiignaaa

/-! What BatchOk answers, of the program and of its model: contracts. -/
namespace Go.Proofs.Ytlddhfimiignaaa
open Go.RowKit

theorem upto_st {l : List Rw} {k : Nat} (h : ∀ j, j < k → bstep l j = true) (hk : bstep l k = true) {j : Nat} (hj : j < k + 1) : bstep l j = true := by
  by_cases e : j = k
  · subst e; exact hk
  · exact h j (by omega)
set_option maxHeartbeats 8000000 in
theorem specBatchOk_any (v : Value) (l : List Rw) (w : World) (h : Rs w v l) :
    Calls Try.prog 111 #[v] w fun e w' => e = .returned (.bool (bokB l)) ∧ Below w.heap.size w w' := by
  cases hro : rokB l
  · have HK : Hid (bokB l = false) := bok_nr hro
    go_enter Try.func111, Try.ntmps111
    go_wp2_with fail
    refine (specRowsOk_eq hro h).mono ?_
    rintro e w1 ⟨rfl, hb1⟩
    go_wp2_with fail
    go_ret
    exact ⟨ret_bool HK.out.symm, hb1⟩
  have HY : Hid ((∀ i, i < l.length → bstep l i = true) → bokB l = true) := fun h => bok_mk hro h
  have HN : Hid (∀ i, i < l.length → bstep l i = false → bokB l = false) := fun i h1 h2 => bok_no h1 h2
  go_enter Try.func111, Try.ntmps111
  go_wp2_with fail
  refine (specRowsOk_eq hro h).mono ?_
  rintro e w0 ⟨rfl, hb0⟩
  obtain ⟨a, cap, rfl, hc, hm, hn, hcells⟩ := Rs.open (h.keep hb0)
  unfold maxLen at hm
  have HC := (show Hid _ from hcells)
  clear hcells h hro
  go_wp2_with fail
  go_loopw [3] (fun i wr => ∃ k : Nat, k ≤ l.length ∧ i = .int .i64 k ∧ (∀ j, j < k → bstep l j = true) ∧ Below w0.heap.size w0 wr) (fun i _ => l.length - (intOf i).toNat)
  case atStart => exact ⟨0, by omega, rfl, fun j hj => by omega, Below.refl _ _⟩
  case round =>
    obtain ⟨k, hk, rfl, hall, hb⟩ := hrel
    have HA := (show Hid _ from hall)
    clear hall
    have hbw := bStep hb0 hb
    by_cases hlt : k < l.length
    · obtain ⟨g, off, K, V, A, B, D, rfl, hg, hr, c0, c1, c2, c3, c4⟩ := HC.out k hlt
      have d0 : ∀ p : Bel wr, p.ww.cell? ⟨g, off + k * 5, none⟩ = some (.int .i64 K) := fun p => cell_below p.below (cell_below hb c0)
      have d1 : ∀ p : Bel wr, p.ww.cell? ⟨g, off + k * 5 + 1, none⟩ = some (.int .i64 V) := fun p => cell_below p.below (cell_below hb c1)
      have d2 : ∀ p : Bel wr, p.ww.cell? ⟨g, off + k * 5 + 2, none⟩ = some (.int .i64 A) := fun p => cell_below p.below (cell_below hb c2)
      have d3 : ∀ p : Bel wr, p.ww.cell? ⟨g, off + k * 5 + 3, none⟩ = some (.int .i64 B) := fun p => cell_below p.below (cell_below hb c3)
      have d4 : ∀ p : Bel wr, p.ww.cell? ⟨g, off + k * 5 + 4, none⟩ = some (.int .i64 D) := fun p => cell_below p.below (cell_below hb c4)
      have HR := (show Hid _ from hr)
      clear c0 c1 c2 c3 c4 hr
      have hne := bel_some wr
      have ik : ((k : Int) < (l.length : Int)) := by omega
      by_cases hD : D = 0
      · subst hD
        have HK : Hid (bokB l = false) := HN.out k hlt (by
          have hr := HR.out
          unfold bstep; rw [hr]; simp)
        go_wp2_with fail
        (refine wp_region_bel (by kernel_rfl) (by kernel_rfl) ?_; (repeat (go_big_quiet_step ((first | (go_at_call 138; exact calls_bel (l2Comp_eq (by with_reducible assumption) _)))))); refine wpQuiet_nil ?_)
        intro w1 hw1
        replace hw1 := bel_out hw1
        go_wp2_with fail
        go_ret
        exact ⟨ret_bool HK.out.symm, bStep hbw hw1⟩
      have nD : (D == 0) = false := by simpa using hD
      rcases k with _ | m
      · have HST : Hid (bstep l 0 = true) := by
          have hr := HR.out
          show _ = true
          rw [bstep_first hr]; simpa using hD
        simp only [Nat.zero_mul, Nat.add_zero] at d0 d1 d2 d3 d4
        go_wp2_with fail
        (refine wp_region_bel (by kernel_rfl) (by kernel_rfl) ?_; (repeat (go_big_quiet_step ((first | (go_at_call 138; exact calls_bel (l2Comp_eq (by with_reducible assumption) _)))))); refine wpQuiet_nil ?_)
        intro w1 hw1
        replace hw1 := bel_out hw1
        have hb1 := bStep hb hw1
        go_wp2_with fail
        exact ⟨⟨1, by omega, rfl, fun j hj => upto_st HA.out HST.out hj, hb1⟩, by simp [intOf]; omega⟩
      · obtain ⟨g', off', K', V', A', B', D', he, hg', hq, p0, p1, p2, p3, p4⟩ := HC.out m (by omega)
        simp at he
        obtain ⟨rfl, rfl⟩ := he
        have e0 : ∀ p : Bel wr, p.ww.cell? ⟨g, off + m * 5, none⟩ = some (.int .i64 K') := fun p => cell_below p.below (cell_below hb p0)
        have e1 : ∀ p : Bel wr, p.ww.cell? ⟨g, off + m * 5 + 1, none⟩ = some (.int .i64 V') := fun p => cell_below p.below (cell_below hb p1)
        have e2 : ∀ p : Bel wr, p.ww.cell? ⟨g, off + m * 5 + 2, none⟩ = some (.int .i64 A') := fun p => cell_below p.below (cell_below hb p2)
        have e3 : ∀ p : Bel wr, p.ww.cell? ⟨g, off + m * 5 + 3, none⟩ = some (.int .i64 B') := fun p => cell_below p.below (cell_below hb p3)
        have e4 : ∀ p : Bel wr, p.ww.cell? ⟨g, off + m * 5 + 4, none⟩ = some (.int .i64 D') := fun p => cell_below p.below (cell_below hb p4)
        clear p0 p1 p2 p3 p4
        have HST : Hid (bstep l (m + 1) = ltS ((K', V'), (A', B')) ((K, V), (A, B))) := by
          have hr := HR.out
          show _ = _
          rw [bstep_next hr hq]
          have : decide (D ≠ 0) = true := by simpa using hD
          rw [this, Bool.true_and]
        clear hq
        have im0 : (0 : Int) ≤ (m : Int) := by omega
        have im1 : (m : Int) < (l.length : Int) := by omega
        have im2 : (l.length : Int) ≤ 2097152 := by omega
        have iw : IntKind.i64.wrap (m : Int) = (m : Int) := by rw [IntKind.wrap_i64]; omega
        have hcl := cmpS_lt ((K', V'), (A', B')) ((K, V), (A, B))
        obtain ⟨r, hcr⟩ : ∃ r, cmpS ((K', V'), (A', B')) ((K, V), (A, B)) = r := ⟨_, rfl⟩
        rw [hcr] at hcl
        cases hst : ltS ((K', V'), (A', B')) ((K, V), (A, B))
        · have HK : Hid (bokB l = false) := HN.out (m + 1) hlt (by rw [HST.out]; exact hst)
          have nr : decide (0 ≤ r) = true := by rw [hst] at hcl; simp at hcl ⊢; omega
          clear hcl
          go_wp2_with fail
          (refine wp_region_bel (by kernel_rfl) (by kernel_rfl) ?_; (repeat (go_big_quiet_step ((first | (go_at_call 138; exact calls_bel (l2Comp_eq (by with_reducible assumption) _)))))); refine wpQuiet_nil ?_)
          intro w1 hw1
          replace hw1 := bel_out hw1
          go_wp2_with fail
          go_ret
          exact ⟨ret_bool HK.out.symm, bStep hbw hw1⟩
        · have HK : Hid (bstep l (m + 1) = true) := by show _ = true; rw [HST.out]; exact hst
          have nr : decide (0 ≤ r) = false := by rw [hst] at hcl; simp at hcl ⊢; omega
          clear hcl
          go_wp2_with fail
          (refine wp_region_bel (by kernel_rfl) (by kernel_rfl) ?_; (repeat (go_big_quiet_step ((first | (go_at_call 138; exact calls_bel (l2Comp_eq (by with_reducible assumption) _)))))); refine wpQuiet_nil ?_)
          intro w1 hw1
          replace hw1 := bel_out hw1
          have hb1 := bStep hb hw1
          go_wp2_with fail
          go_roundw
          case rel => exact ⟨m + 1 + 1, by omega, by go_num, fun j hj => upto_st HA.out HK.out hj, hb1⟩
          case measure => simp [intOf]; omega
    · have HK : Hid (bokB l = true) := HY.out fun j hj => HA.out j (by omega)
      go_wp2_with fail
      go_ret
      exact ⟨ret_bool HK.out.symm, hbw⟩
theorem specBatchOk_eq {l : List Rw} {r : Bool} (h : bokB l = r) {v : Value} {w : World} (hs : Rs w v l) :
    Calls Try.prog 111 #[v] w fun e w' => e = .returned (.bool r) ∧ Below w.heap.size w w' := by
  rw [← h]; exact specBatchOk_any v l w hs

end Go.Proofs.Ytlddhfimiignaaa
