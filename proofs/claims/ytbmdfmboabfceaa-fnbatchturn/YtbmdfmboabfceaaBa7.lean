/- What the comparisons of times, items and rows answer: contracts. -/
import Derived.Test.YtbmdfmboabfceaaBa3
import Derived.Test.YtbmdfmboabfceaaCmp
import Derived.Deep.RegionHeld3
import Derived.Sort.Grow
namespace Go.Proofs.Ytbmdfmboabfceaa
open Go.RowKit
attribute [local go_sem ↓] Go.wp_at_zero Go.wp_at_succ

/-- A world that is w with new blocks behind it, so many draws on. -/
def Gr (w w' : World) : Prop := Below w.heap.size w w' ∧ w.drawn ≤ w'.drawn
theorem gr_grow {w w' : World} (h : Gr w w') : ∃ q os, w' = Go.Sort.grow (w.drewN q) os := by
  obtain ⟨hb, hd⟩ := h
  refine ⟨w'.drawn - w.drawn, (w'.heap.toList.drop w.heap.size).toArray, ?_⟩
  have hh : w'.heap = w.heap ++ (w'.heap.toList.drop w.heap.size).toArray := by
    apply Array.ext_getElem?
    intro i
    by_cases hi : i < w.heap.size
    · rw [hb.block i hi, Array.getElem?_append_left hi]
    · rw [Array.getElem?_append_right (by omega)]
      simp
      congr 1
      omega
  obtain ⟨h1, h2, h3, h4, h5⟩ := w'
  simp only [Go.Sort.grow, World.drewN]
  congr 1
  · exact hb.tape
  · show h3 = w.drawn + (h3 - w.drawn); have : w.drawn ≤ h3 := hd; omega
  · exact hb.os
  · exact hb.output
theorem Gr.refl (w : World) : Gr w w := ⟨Below.refl _ _, Nat.le_refl _⟩
theorem Gr.trans {a b c : World} (h : Gr a b) (k : Gr b c) : Gr a c := ⟨bStep h.1 k.1, Nat.le_trans h.2 k.2⟩
theorem Gr.alloc {a b : World} (h : Gr a b) (o : Obj) : Gr a (b.alloc o) := ⟨bAlloc h.1 o, h.2⟩
theorem Gr.drew {a b : World} (h : Gr a b) : Gr a b.drew := ⟨h.1.drew, Nat.le_succ_of_le h.2⟩
theorem Gr.drewN {a b : World} (h : Gr a b) (n : Nat) : Gr a (b.drewN n) := ⟨bDrewN h.1 n, Nat.le_trans h.2 (Nat.le_add_right _ _)⟩
set_option maxHeartbeats 2000000 in
theorem compareT_any (a b c d : Int) (w : World) :
    Calls Try.prog 123 #[tv a b, tv c d] w fun e w' => e = .returned (.int .i64 (orZ (cmpZ a c) (cmpZ b d))) ∧ Gr w w' := by
  have b0 := (Bk.new (w := w) #[.int .i64 a, .int .i64 b] 31 rfl).alloc (.cells #[.int .i64 c, .int .i64 d] 31)
  have b1 := Bk.new (w := w.alloc (.cells #[.int .i64 a, .int .i64 b] 31)) (k := w.heap.size + 1) #[.int .i64 c, .int .i64 d] 31 (by simp)
  have hg := ((Gr.refl w).alloc (.cells #[.int .i64 a, .int .i64 b] 31)).alloc (.cells #[.int .i64 c, .int .i64 d] 31)
  go_enter Try.func123, Try.ntmps123
  go_wp2_with fail
  generalize World.alloc _ _ = W at *
  have HK : Hid (∀ w', Below W.heap.size W w' → w'.cell? ⟨w.heap.size, 0, none⟩ = some (.int .i64 a) ∧ w'.cell? ⟨w.heap.size, 1, none⟩ = some (.int .i64 b) ∧ w'.cell? ⟨w.heap.size + 1, 0, none⟩ = some (.int .i64 c) ∧ w'.cell? ⟨w.heap.size + 1, 1, none⟩ = some (.int .i64 d)) :=
    fun w' h => ⟨(b0.keep h).two.1, (b0.keep h).two.2.1, (b1.keep h).two.1, (b1.keep h).two.2.1⟩
  have hbd : Below W.heap.size W W.drew := (Below.refl _ _).drew
  clear b0 b1
  go_region_held3 (fun w' => w'.cell? ⟨w.heap.size, 0, none⟩ = some (.int .i64 a) ∧ w'.cell? ⟨w.heap.size, 1, none⟩ = some (.int .i64 b) ∧ w'.cell? ⟨w.heap.size + 1, 0, none⟩ = some (.int .i64 c) ∧ w'.cell? ⟨w.heap.size + 1, 1, none⟩ = some (.int .i64 d))
    (first | exact HK.out _ (by with_reducible assumption) | exact HK.out _ (bAlloc (by with_reducible assumption) _))
    (first
      | (go_at_call 127; refine (compare_any _ _ _).mono ?_; rintro e w' ⟨rfl, rfl⟩)
      | (go_at_call 156; refine (or2_any _ _ _ _ (Bk.new _ _ rfl).drew.two.1 (Bk.new _ _ rfl).drew.two.2.1).mono ?_; rintro e w' ⟨rfl, rfl⟩))
  go_wp2_with fail
  go_ret
  exact ⟨rfl, (hg.alloc _).drew⟩
set_option maxHeartbeats 4000000 in
theorem compareI_any (a b c x y z : Int) (w : World) :
    Calls Try.prog 135 #[iv a b c, iv x y z] w fun e w' => e = .returned (.int .i64 (orZ (cmpZ a x) (cmpZ b y))) ∧ Gr w w' := by
  have b0 := (Bk.new (w := w) #[.int .i64 a, .int .i64 b, .int .i64 c] 64 rfl).alloc (.cells #[.int .i64 x, .int .i64 y, .int .i64 z] 64)
  have b1 := Bk.new (w := w.alloc (.cells #[.int .i64 a, .int .i64 b, .int .i64 c] 64)) (k := w.heap.size + 1) #[.int .i64 x, .int .i64 y, .int .i64 z] 64 (by simp)
  have hg := ((Gr.refl w).alloc (.cells #[.int .i64 a, .int .i64 b, .int .i64 c] 64)).alloc (.cells #[.int .i64 x, .int .i64 y, .int .i64 z] 64)
  go_enter Try.func135, Try.ntmps135
  go_wp2_with fail
  generalize World.alloc _ _ = W at *
  have HK : Hid (∀ w', Below W.heap.size W w' → w'.cell? ⟨w.heap.size, 0, none⟩ = some (.int .i64 a) ∧ w'.cell? ⟨w.heap.size, 1, none⟩ = some (.int .i64 b) ∧ w'.cell? ⟨w.heap.size + 1, 0, none⟩ = some (.int .i64 x) ∧ w'.cell? ⟨w.heap.size + 1, 1, none⟩ = some (.int .i64 y)) :=
    fun w' h => ⟨(b0.keep h).three.1, (b0.keep h).three.2.1, (b1.keep h).three.1, (b1.keep h).three.2.1⟩
  have hbd : Below W.heap.size W W.drew := (Below.refl _ _).drew
  clear b0 b1
  go_region_held3 (fun w' => w'.cell? ⟨w.heap.size, 0, none⟩ = some (.int .i64 a) ∧ w'.cell? ⟨w.heap.size, 1, none⟩ = some (.int .i64 b) ∧ w'.cell? ⟨w.heap.size + 1, 0, none⟩ = some (.int .i64 x) ∧ w'.cell? ⟨w.heap.size + 1, 1, none⟩ = some (.int .i64 y))
    (first | exact HK.out _ (by with_reducible assumption) | exact HK.out _ (bAlloc (by with_reducible assumption) _))
    (first
      | (go_at_call 127; refine (compare_any _ _ _).mono ?_; rintro e w' ⟨rfl, rfl⟩)
      | (go_at_call 156; refine (or2_any _ _ _ _ (Bk.new _ _ rfl).drew.two.1 (Bk.new _ _ rfl).drew.two.2.1).mono ?_; rintro e w' ⟨rfl, rfl⟩))
  go_wp2_with fail
  go_ret
  exact ⟨rfl, (hg.alloc _).drew⟩
set_option maxHeartbeats 4000000 in
theorem compareR_any (k v a b d k' v' a' b' d' : Int) (w : World) :
    Calls Try.prog 105 #[rv k v a b d, rv k' v' a' b' d'] w fun e w' => e = .returned (.int .i64 (orZ (cmpZ k k') (orZ (cmpZ v v') (orZ (cmpZ a a') (cmpZ b b'))))) ∧ Gr w w' := by
  have b0 := (Bk.new (w := w) #[.int .i64 k, .int .i64 v, .int .i64 a, .int .i64 b, .int .i64 d] 33 rfl).alloc (.cells #[.int .i64 k', .int .i64 v', .int .i64 a', .int .i64 b', .int .i64 d'] 33)
  have b1 := Bk.new (w := w.alloc (.cells #[.int .i64 k, .int .i64 v, .int .i64 a, .int .i64 b, .int .i64 d] 33)) (k := w.heap.size + 1) #[.int .i64 k', .int .i64 v', .int .i64 a', .int .i64 b', .int .i64 d'] 33 (by simp)
  have hg := ((Gr.refl w).alloc (.cells #[.int .i64 k, .int .i64 v, .int .i64 a, .int .i64 b, .int .i64 d] 33)).alloc (.cells #[.int .i64 k', .int .i64 v', .int .i64 a', .int .i64 b', .int .i64 d'] 33)
  go_enter Try.func105, Try.ntmps105
  go_wp2_with fail
  generalize World.alloc _ _ = W at *
  have HK : Hid (∀ w', Below W.heap.size W w' → (w'.cell? ⟨w.heap.size, 0, none⟩ = some (.int .i64 k) ∧ w'.cell? ⟨w.heap.size, 1, none⟩ = some (.int .i64 v) ∧ w'.cell? ⟨w.heap.size, 2, none⟩ = some (.int .i64 a) ∧ w'.cell? ⟨w.heap.size, 3, none⟩ = some (.int .i64 b)) ∧
      w'.cell? ⟨w.heap.size + 1, 0, none⟩ = some (.int .i64 k') ∧ w'.cell? ⟨w.heap.size + 1, 1, none⟩ = some (.int .i64 v') ∧ w'.cell? ⟨w.heap.size + 1, 2, none⟩ = some (.int .i64 a') ∧ w'.cell? ⟨w.heap.size + 1, 3, none⟩ = some (.int .i64 b')) :=
    fun w' h => ⟨⟨(b0.keep h).five.1, (b0.keep h).five.2.1, (b0.keep h).five.2.2.1, (b0.keep h).five.2.2.2.1⟩, (b1.keep h).five.1, (b1.keep h).five.2.1, (b1.keep h).five.2.2.1, (b1.keep h).five.2.2.2.1⟩
  have hbd : Below W.heap.size W W.drew := (Below.refl _ _).drew
  have hgd : Gr W W.drew := (Gr.refl _).drew
  clear b0 b1
  go_region_held3 (fun w' => (w'.cell? ⟨w.heap.size, 0, none⟩ = some (.int .i64 k) ∧ w'.cell? ⟨w.heap.size, 1, none⟩ = some (.int .i64 v) ∧ w'.cell? ⟨w.heap.size, 2, none⟩ = some (.int .i64 a) ∧ w'.cell? ⟨w.heap.size, 3, none⟩ = some (.int .i64 b)) ∧
      w'.cell? ⟨w.heap.size + 1, 0, none⟩ = some (.int .i64 k') ∧ w'.cell? ⟨w.heap.size + 1, 1, none⟩ = some (.int .i64 v') ∧ w'.cell? ⟨w.heap.size + 1, 2, none⟩ = some (.int .i64 a') ∧ w'.cell? ⟨w.heap.size + 1, 3, none⟩ = some (.int .i64 b'))
    (first | exact HK.out _ (by with_reducible assumption) | exact HK.out _ (bAlloc (by with_reducible assumption) _))
    (first
      | (go_at_call 127; refine (compare_any _ _ _).mono ?_; rintro e w' ⟨rfl, rfl⟩)
      | (go_at_call 123; refine (compareT_any _ _ _ _ _).mono ?_; rintro e wj ⟨rfl, hgj⟩; have hgw := hgd.trans hgj; have hbj := hgw.1)
      | (go_at_call 156; refine (or3_any _ _ _ _ _ (Bk.new _ _ rfl).three.1 (Bk.new _ _ rfl).three.2.1 (Bk.new _ _ rfl).three.2.2).mono ?_; rintro e w' ⟨rfl, rfl⟩))
  go_wp2_with fail
  go_ret
  exact ⟨rfl, (hg.trans hgw).alloc _⟩
end Go.Proofs.Ytbmdfmboabfceaa
