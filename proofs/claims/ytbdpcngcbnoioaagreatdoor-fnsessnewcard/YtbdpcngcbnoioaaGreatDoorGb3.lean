import Derived.Test.YtbdpcngcbnoioaaGreatDoorGa1
import Derived.Test.YtbdpcngcbnoioaaGreatDoorGb1
import Derived.Deep.RegionHeld3
import Derived.Sort.Grow
import Derived.Deep.Cut
namespace Go.Proofs.YtbdpcngcbnoioaaGreatDoor
open Go.RowKit
def cmpZ (a b : Int) : Int := if a < b then -1 else if a > b then 1 else 0
set_option maxHeartbeats 2000000 in
theorem isNaN_any (a : Int) (w : World) : Calls Tryz.prog 167 #[.int .i64 a] w fun e w' => e = .returned (.bool false) ∧ w' = w := by
  go_enter Tryz.func167, Tryz.ntmps167
  go_wp2
  go_ret
  exact ⟨ret_bool (by simp), rfl⟩
set_option maxHeartbeats 2000000 in
theorem compare_any (a b : Int) (w : World) : Calls Tryz.prog 97 #[.int .i64 a, .int .i64 b] w fun e w' => e = .returned (.int .i64 (cmpZ a b)) ∧ w' = w := by
  by_cases h1 : a < b
  · have e : cmpZ a b = -1 := by simp [cmpZ, h1]
    go_enter Tryz.func97, Tryz.ntmps97
    go_wp2_with (go_at_call 167; refine (isNaN_any _ _).mono ?_; rintro e w' ⟨rfl, rfl⟩)
    go_ret
    exact ⟨by rw [e]; rfl, rfl⟩
  by_cases h2 : a > b
  · have e : cmpZ a b = 1 := by simp [cmpZ, h1, h2]
    go_enter Tryz.func97, Tryz.ntmps97
    go_wp2_with (go_at_call 167; refine (isNaN_any _ _).mono ?_; rintro e w' ⟨rfl, rfl⟩)
    go_ret
    exact ⟨by rw [e]; rfl, rfl⟩
  · have e : cmpZ a b = 0 := by simp [cmpZ, h1, h2]
    go_enter Tryz.func97, Tryz.ntmps97
    go_wp2_with (go_at_call 167; refine (isNaN_any _ _).mono ?_; rintro e w' ⟨rfl, rfl⟩)
    go_ret
    exact ⟨by rw [e]; rfl, rfl⟩
theorem retI {k : IntKind} {a b : Int} (h : a = b) : Ending.returned (.int k a) = .returned (.int k b) := by rw [h]
def orZ (x y : Int) : Int := if x = 0 then y else x
set_option maxHeartbeats 2000000 in
theorem or2_any (g : Nat) (x y : Int) (w : World) (c0 : w.cell? ⟨g, 0, none⟩ = some (.int .i64 x)) (c1 : w.cell? ⟨g, 1, none⟩ = some (.int .i64 y)) :
    Calls Tryz.prog 159 #[.slice (some ⟨g, 0, none⟩) 2 2] w fun e w' => e = .returned (.int .i64 (orZ x y)) ∧ w' = w := by
  have H : Hid (orZ x y = if x = 0 then y else x) := rfl
  by_cases h0 : x = 0
  · subst h0
    by_cases h1 : y = 0
    · subst h1
      go_enter Tryz.func159, Tryz.ntmps159
      go_wp2_with fail
      go_rounds 3
      go_returns
      exact ⟨rfl, rfl⟩
    · have n1 : (y == 0) = false := by simpa using h1
      go_enter Tryz.func159, Tryz.ntmps159
      go_wp2_with fail
      go_rounds 3
      go_returns
      exact ⟨rfl, rfl⟩
  · have n0 : (x == 0) = false := by simpa using h0
    go_enter Tryz.func159, Tryz.ntmps159
    go_wp2_with fail
    go_rounds 3
    go_returns
    exact ⟨retI (by rw [H.out, if_neg h0]), rfl⟩
set_option maxHeartbeats 2000000 in
theorem or3_any (g : Nat) (x y z : Int) (w : World) (c0 : w.cell? ⟨g, 0, none⟩ = some (.int .i64 x)) (c1 : w.cell? ⟨g, 1, none⟩ = some (.int .i64 y)) (c2 : w.cell? ⟨g, 2, none⟩ = some (.int .i64 z)) :
    Calls Tryz.prog 159 #[.slice (some ⟨g, 0, none⟩) 3 3] w fun e w' => e = .returned (.int .i64 (orZ x (orZ y z))) ∧ w' = w := by
  have H : Hid (orZ x (orZ y z) = if x = 0 then (if y = 0 then z else y) else x) := rfl
  by_cases h0 : x = 0
  · subst h0
    by_cases h1 : y = 0
    · subst h1
      by_cases h2 : z = 0
      · subst h2
        go_enter Tryz.func159, Tryz.ntmps159
        go_wp2_with fail
        go_rounds 4
        go_returns
        exact ⟨rfl, rfl⟩
      · have n2 : (z == 0) = false := by simpa using h2
        go_enter Tryz.func159, Tryz.ntmps159
        go_wp2_with fail
        go_rounds 4
        go_returns
        exact ⟨rfl, rfl⟩
    · have n1 : (y == 0) = false := by simpa using h1
      go_enter Tryz.func159, Tryz.ntmps159
      go_wp2_with fail
      go_rounds 4
      go_returns
      exact ⟨retI (by rw [H.out]; simp [h1]), rfl⟩
  · have n0 : (x == 0) = false := by simpa using h0
    go_enter Tryz.func159, Tryz.ntmps159
    go_wp2_with fail
    go_rounds 4
    go_returns
    exact ⟨retI (by rw [H.out, if_neg h0]), rfl⟩
end Go.Proofs.YtbdpcngcbnoioaaGreatDoor
namespace Go.Proofs.YtbdpcngcbnoioaaGreatDoor
open Go.RowKit
attribute [local go_sem ↓] Go.wp_at_zero Go.wp_at_succ
def Gr (w w' : World) : Prop := Below w.heap.size w w' ∧ w.drawn ≤ w'.drawn
theorem gr_grow {w w' : World} (h : Gr w w') : ∃ q os, w' = Go.Sort.grow (w.drewN q) os := by
  obtain ⟨hb, hd⟩ := h
  refine ⟨w'.drawn - w.drawn, (w'.heap.toList.drop w.heap.size).toArray, ?_⟩
  have hh : w'.heap = w.heap ++ (w'.heap.toList.drop w.heap.size).toArray := by
    apply Array.ext_getElem?
    intro i
    by_cases hi : i < w.heap.size
    · rw [hb.block i hi, Array.getElem?_append_left hi]
    · rw [Array.getElem?_append_right (by omega)]
      simp
      congr 1
      omega
  obtain ⟨h1, h2, h3, h4, h5⟩ := w'
  simp only [Go.Sort.grow, World.drewN]
  congr 1
  · exact hb.tape
  · show h3 = w.drawn + (h3 - w.drawn); have : w.drawn ≤ h3 := hd; omega
  · exact hb.os
  · exact hb.output
theorem Gr.refl (w : World) : Gr w w := ⟨Below.refl _ _, Nat.le_refl _⟩
theorem Gr.trans {a b c : World} (h : Gr a b) (k : Gr b c) : Gr a c := ⟨bStep h.1 k.1, Nat.le_trans h.2 k.2⟩
theorem Gr.alloc {a b : World} (h : Gr a b) (o : Obj) : Gr a (b.alloc o) := ⟨bAlloc h.1 o, h.2⟩
theorem Gr.drew {a b : World} (h : Gr a b) : Gr a b.drew := ⟨h.1.drew, Nat.le_succ_of_le h.2⟩
theorem Gr.drewN {a b : World} (h : Gr a b) (n : Nat) : Gr a (b.drewN n) := ⟨bDrewN h.1 n, Nat.le_trans h.2 (Nat.le_add_right _ _)⟩
set_option maxHeartbeats 2000000 in
theorem compareT_any (a b c d : Int) (w : World) :
    Calls Tryz.prog 160 #[tv a b, tv c d] w fun e w' => e = .returned (.int .i64 (orZ (cmpZ a c) (cmpZ b d))) ∧ Gr w w' := by
  have b0 := (Bk.new (w := w) #[.int .i64 a, .int .i64 b] 32 rfl).alloc (.cells #[.int .i64 c, .int .i64 d] 32)
  have b1 := Bk.new (w := w.alloc (.cells #[.int .i64 a, .int .i64 b] 32)) (k := w.heap.size + 1) #[.int .i64 c, .int .i64 d] 32 (by simp)
  have hg := ((Gr.refl w).alloc (.cells #[.int .i64 a, .int .i64 b] 32)).alloc (.cells #[.int .i64 c, .int .i64 d] 32)
  go_enter Tryz.func160, Tryz.ntmps160
  go_wp2_with fail
  generalize World.alloc _ _ = W at *
  have HK : Hid (∀ w', Below W.heap.size W w' → w'.cell? ⟨w.heap.size, 0, none⟩ = some (.int .i64 a) ∧ w'.cell? ⟨w.heap.size, 1, none⟩ = some (.int .i64 b) ∧ w'.cell? ⟨w.heap.size + 1, 0, none⟩ = some (.int .i64 c) ∧ w'.cell? ⟨w.heap.size + 1, 1, none⟩ = some (.int .i64 d)) :=
    fun w' h => ⟨(b0.keep h).two.1, (b0.keep h).two.2.1, (b1.keep h).two.1, (b1.keep h).two.2.1⟩
  have hbd : Below W.heap.size W W.drew := (Below.refl _ _).drew
  clear b0 b1
  go_region_held3 (fun w' => w'.cell? ⟨w.heap.size, 0, none⟩ = some (.int .i64 a) ∧ w'.cell? ⟨w.heap.size, 1, none⟩ = some (.int .i64 b) ∧ w'.cell? ⟨w.heap.size + 1, 0, none⟩ = some (.int .i64 c) ∧ w'.cell? ⟨w.heap.size + 1, 1, none⟩ = some (.int .i64 d))
    (first | exact HK.out _ (by with_reducible assumption) | exact HK.out _ (bAlloc (by with_reducible assumption) _))
    (first
      | (go_at_call 97; refine (compare_any _ _ _).mono ?_; rintro e w' ⟨rfl, rfl⟩)
      | (go_at_call 159; refine (or2_any _ _ _ _ (Bk.new _ _ rfl).drew.two.1 (Bk.new _ _ rfl).drew.two.2.1).mono ?_; rintro e w' ⟨rfl, rfl⟩))
  go_wp2_with fail
  go_ret
  exact ⟨rfl, (hg.alloc _).drew⟩
set_option maxHeartbeats 4000000 in
theorem compareI_any (a b c x y z : Int) (w : World) :
    Calls Tryz.prog 143 #[iv a b c, iv x y z] w fun e w' => e = .returned (.int .i64 (orZ (cmpZ a x) (cmpZ b y))) ∧ Gr w w' := by
  have b0 := (Bk.new (w := w) #[.int .i64 a, .int .i64 b, .int .i64 c] 98 rfl).alloc (.cells #[.int .i64 x, .int .i64 y, .int .i64 z] 98)
  have b1 := Bk.new (w := w.alloc (.cells #[.int .i64 a, .int .i64 b, .int .i64 c] 98)) (k := w.heap.size + 1) #[.int .i64 x, .int .i64 y, .int .i64 z] 98 (by simp)
  have hg := ((Gr.refl w).alloc (.cells #[.int .i64 a, .int .i64 b, .int .i64 c] 98)).alloc (.cells #[.int .i64 x, .int .i64 y, .int .i64 z] 98)
  go_enter Tryz.func143, Tryz.ntmps143
  go_wp2_with fail
  generalize World.alloc _ _ = W at *
  have HK : Hid (∀ w', Below W.heap.size W w' → w'.cell? ⟨w.heap.size, 0, none⟩ = some (.int .i64 a) ∧ w'.cell? ⟨w.heap.size, 1, none⟩ = some (.int .i64 b) ∧ w'.cell? ⟨w.heap.size + 1, 0, none⟩ = some (.int .i64 x) ∧ w'.cell? ⟨w.heap.size + 1, 1, none⟩ = some (.int .i64 y)) :=
    fun w' h => ⟨(b0.keep h).three.1, (b0.keep h).three.2.1, (b1.keep h).three.1, (b1.keep h).three.2.1⟩
  have hbd : Below W.heap.size W W.drew := (Below.refl _ _).drew
  clear b0 b1
  go_region_held3 (fun w' => w'.cell? ⟨w.heap.size, 0, none⟩ = some (.int .i64 a) ∧ w'.cell? ⟨w.heap.size, 1, none⟩ = some (.int .i64 b) ∧ w'.cell? ⟨w.heap.size + 1, 0, none⟩ = some (.int .i64 x) ∧ w'.cell? ⟨w.heap.size + 1, 1, none⟩ = some (.int .i64 y))
    (first | exact HK.out _ (by with_reducible assumption) | exact HK.out _ (bAlloc (by with_reducible assumption) _))
    (first
      | (go_at_call 97; refine (compare_any _ _ _).mono ?_; rintro e w' ⟨rfl, rfl⟩)
      | (go_at_call 159; refine (or2_any _ _ _ _ (Bk.new _ _ rfl).drew.two.1 (Bk.new _ _ rfl).drew.two.2.1).mono ?_; rintro e w' ⟨rfl, rfl⟩))
  go_wp2_with fail
  go_ret
  exact ⟨rfl, (hg.alloc _).drew⟩
set_option maxHeartbeats 4000000 in
theorem compareR_any (k v a b d k' v' a' b' d' : Int) (w : World) :
    Calls Tryz.prog 91 #[rv k v a b d, rv k' v' a' b' d'] w fun e w' => e = .returned (.int .i64 (orZ (cmpZ k k') (orZ (cmpZ v v') (orZ (cmpZ a a') (cmpZ b b'))))) ∧ Gr w w' := by
  have b0 := (Bk.new (w := w) #[.int .i64 k, .int .i64 v, .int .i64 a, .int .i64 b, .int .i64 d] 55 rfl).alloc (.cells #[.int .i64 k', .int .i64 v', .int .i64 a', .int .i64 b', .int .i64 d'] 55)
  have b1 := Bk.new (w := w.alloc (.cells #[.int .i64 k, .int .i64 v, .int .i64 a, .int .i64 b, .int .i64 d] 55)) (k := w.heap.size + 1) #[.int .i64 k', .int .i64 v', .int .i64 a', .int .i64 b', .int .i64 d'] 55 (by simp)
  have hg := ((Gr.refl w).alloc (.cells #[.int .i64 k, .int .i64 v, .int .i64 a, .int .i64 b, .int .i64 d] 55)).alloc (.cells #[.int .i64 k', .int .i64 v', .int .i64 a', .int .i64 b', .int .i64 d'] 55)
  go_enter Tryz.func91, Tryz.ntmps91
  go_wp2_with fail
  generalize World.alloc _ _ = W at *
  have HK : Hid (∀ w', Below W.heap.size W w' → (w'.cell? ⟨w.heap.size, 0, none⟩ = some (.int .i64 k) ∧ w'.cell? ⟨w.heap.size, 1, none⟩ = some (.int .i64 v) ∧ w'.cell? ⟨w.heap.size, 2, none⟩ = some (.int .i64 a) ∧ w'.cell? ⟨w.heap.size, 3, none⟩ = some (.int .i64 b)) ∧
      w'.cell? ⟨w.heap.size + 1, 0, none⟩ = some (.int .i64 k') ∧ w'.cell? ⟨w.heap.size + 1, 1, none⟩ = some (.int .i64 v') ∧ w'.cell? ⟨w.heap.size + 1, 2, none⟩ = some (.int .i64 a') ∧ w'.cell? ⟨w.heap.size + 1, 3, none⟩ = some (.int .i64 b')) :=
    fun w' h => ⟨⟨(b0.keep h).five.1, (b0.keep h).five.2.1, (b0.keep h).five.2.2.1, (b0.keep h).five.2.2.2.1⟩, (b1.keep h).five.1, (b1.keep h).five.2.1, (b1.keep h).five.2.2.1, (b1.keep h).five.2.2.2.1⟩
  have hbd : Below W.heap.size W W.drew := (Below.refl _ _).drew
  have hgd : Gr W W.drew := (Gr.refl _).drew
  clear b0 b1
  go_region_held3 (fun w' => (w'.cell? ⟨w.heap.size, 0, none⟩ = some (.int .i64 k) ∧ w'.cell? ⟨w.heap.size, 1, none⟩ = some (.int .i64 v) ∧ w'.cell? ⟨w.heap.size, 2, none⟩ = some (.int .i64 a) ∧ w'.cell? ⟨w.heap.size, 3, none⟩ = some (.int .i64 b)) ∧
      w'.cell? ⟨w.heap.size + 1, 0, none⟩ = some (.int .i64 k') ∧ w'.cell? ⟨w.heap.size + 1, 1, none⟩ = some (.int .i64 v') ∧ w'.cell? ⟨w.heap.size + 1, 2, none⟩ = some (.int .i64 a') ∧ w'.cell? ⟨w.heap.size + 1, 3, none⟩ = some (.int .i64 b'))
    (first | exact HK.out _ (by with_reducible assumption) | exact HK.out _ (bAlloc (by with_reducible assumption) _))
    (first
      | (go_at_call 97; refine (compare_any _ _ _).mono ?_; rintro e w' ⟨rfl, rfl⟩)
      | (go_at_call 160; refine (compareT_any _ _ _ _ _).mono ?_; rintro e wj ⟨rfl, hgj⟩; have hgw := hgd.trans hgj; have hbj := hgw.1)
      | (go_at_call 159; refine (or3_any _ _ _ _ _ (Bk.new _ _ rfl).three.1 (Bk.new _ _ rfl).three.2.1 (Bk.new _ _ rfl).three.2.2).mono ?_; rintro e w' ⟨rfl, rfl⟩))
  go_wp2_with fail
  go_ret
  exact ⟨rfl, (hg.trans hgw).alloc _⟩
end Go.Proofs.YtbdpcngcbnoioaaGreatDoor
namespace Go.Proofs.YtbdpcngcbnoioaaGreatDoor
open Go.RowKit
theorem cmpZ_or (a c b d : Int) : orZ (cmpZ a c) (cmpZ b d) = cmpT (a, b) (c, d) := by
  simp only [orZ, cmpZ, cmpT, ltT, decide_eq_true_eq]
  repeat' split
  all_goals omega
theorem cmpS_or (k v a b k' v' a' b' : Int) : orZ (cmpZ k k') (orZ (cmpZ v v') (orZ (cmpZ a a') (cmpZ b b'))) = cmpS ((k, v), (a, b)) ((k', v'), (a', b')) := by
  simp only [orZ, cmpZ, cmpS, ltS_iff]
  repeat' split
  all_goals omega
theorem compareR_eq {k v a b d k' v' a' b' d' r : Int} (h : cmpS ((k, v), (a, b)) ((k', v'), (a', b')) = r) (w : World) :
    Calls Tryz.prog 91 #[rv k v a b d, rv k' v' a' b' d'] w fun e w' => e = .returned (.int .i64 r) ∧ Below w.heap.size w w' := by
  rw [← h, ← cmpS_or]
  refine (compareR_any k v a b d k' v' a' b' d' w).mono ?_
  rintro e w' ⟨he, hg⟩
  exact ⟨he, hg.1⟩
end Go.Proofs.YtbdpcngcbnoioaaGreatDoor
namespace Go.Proofs.YtbdpcngcbnoioaaGreatDoor
open Go.RowKit
theorem upto_st {l : List Rw} {k : Nat} (h : ∀ j, j < k → bstep l j = true) (hk : bstep l k = true) {j : Nat} (hj : j < k + 1) : bstep l j = true := by
  by_cases e : j = k
  · subst e; exact hk
  · exact h j (by omega)
set_option maxHeartbeats 8000000 in
theorem implBatchOk_any (v : Value) (l : List Rw) (w : World) (h : Rs w v l) :
    Calls Tryz.prog 30 #[v] w fun e w' => e = .returned (.bool (bokB l)) ∧ Below w.heap.size w w' := by
  cases hro : rokB l
  · have HK : Hid (bokB l = false) := bok_nr hro
    go_enter Tryz.func30, Tryz.ntmps30
    go_wp2_with fail
    refine (implRowsOk_eq hro h).mono ?_
    rintro e w1 ⟨rfl, hb1⟩
    go_wp2_with fail
    go_ret
    exact ⟨ret_bool HK.out.symm, hb1⟩
  have HY : Hid ((∀ i, i < l.length → bstep l i = true) → bokB l = true) := fun h => bok_mk hro h
  have HN : Hid (∀ i, i < l.length → bstep l i = false → bokB l = false) := fun i h1 h2 => bok_no h1 h2
  go_enter Tryz.func30, Tryz.ntmps30
  go_wp2_with fail
  refine (implRowsOk_eq hro h).mono ?_
  rintro e w0 ⟨rfl, hb0⟩
  obtain ⟨a, cap, rfl, hc, hm, hn, hcells⟩ := Rs.open (h.keep hb0)
  unfold maxLen at hm
  have HC := (show Hid _ from hcells)
  clear hcells h hro
  go_wp2_with fail
  go_loopw [10] (fun i wr => ∃ k : Nat, k ≤ l.length ∧ i = .int .i64 k ∧ (∀ j, j < k → bstep l j = true) ∧ Below w0.heap.size w0 wr) (fun i _ => l.length - (intOf i).toNat)
  case atStart => exact ⟨0, by omega, rfl, fun j hj => by omega, Below.refl _ _⟩
  case round =>
    obtain ⟨k, hk, rfl, hall, hb⟩ := hrel
    have HA := (show Hid _ from hall)
    clear hall
    by_cases hlt : k < l.length
    · obtain ⟨g, off, K, V, A, B, D, rfl, hg, hr, c0, c1, c2, c3, c4⟩ := HC.out k hlt
      have d0 := cell_below hb c0
      have d1 := cell_below hb c1
      have d2 := cell_below hb c2
      have d3 := cell_below hb c3
      have d4 := cell_below hb c4
      have HR := (show Hid _ from hr)
      clear c0 c1 c2 c3 c4 hr
      have ik : ((k : Int) < (l.length : Int)) := by omega
      have bt0 := Bk.new (w := wr) #[.int .i64 K, .int .i64 V, .int .i64 A, .int .i64 B, .int .i64 D] 55 rfl
      have hbt : Below wr.heap.size wr (wr.alloc (.cells #[.int .i64 K, .int .i64 V, .int .i64 A, .int .i64 B, .int .i64 D] 55)) := bAlloc (Below.refl _ _) _
      have hb' := bStep hb hbt
      have hbw := bStep hb0 hb'
      go_upto_region 6 with fail
      clear d0 d1 d2 d3 d4
      generalize wr.heap.size = tb at *
      generalize World.alloc _ _ = wt at *
      have t0 : ∀ p : Bel wt, p.ww.cell? ⟨tb, 0, none⟩ = some (.int .i64 K) := fun p => (bt0.keep p.below).five.1
      have t1 : ∀ p : Bel wt, p.ww.cell? ⟨tb, 1, none⟩ = some (.int .i64 V) := fun p => (bt0.keep p.below).five.2.1
      have t2 : ∀ p : Bel wt, p.ww.cell? ⟨tb, 2, none⟩ = some (.int .i64 A) := fun p => (bt0.keep p.below).five.2.2.1
      have t3 : ∀ p : Bel wt, p.ww.cell? ⟨tb, 3, none⟩ = some (.int .i64 B) := fun p => (bt0.keep p.below).five.2.2.2.1
      have t4 : ∀ p : Bel wt, p.ww.cell? ⟨tb, 4, none⟩ = some (.int .i64 D) := fun p => (bt0.keep p.below).five.2.2.2.2
      have hne := bel_some wt
      clear bt0 hbt hb
      by_cases hD : D = 0
      · subst hD
        have HK : Hid (bokB l = false) := HN.out k hlt (by
          have hr := HR.out
          unfold bstep; rw [hr]; simp)
        go_wp2_with fail
        (refine wp_region_bel (by kernel_rfl) (by kernel_rfl) ?_; (repeat (go_big_quiet_step ((first | (go_at_call 91; exact calls_bel (compareR_eq (by with_reducible assumption) _)))))); refine wpQuiet_nil ?_)
        intro w1 hw1
        replace hw1 := bel_out hw1
        go_wp2_with fail
        go_ret
        exact ⟨ret_bool HK.out.symm, bStep hbw hw1⟩
      have nD : (D == 0) = false := by simpa using hD
      rcases k with _ | m
      · have HST : Hid (bstep l 0 = true) := by
          have hr := HR.out
          show _ = true
          rw [bstep_first hr]; simpa using hD
        go_wp2_with fail
        (refine wp_region_bel (by kernel_rfl) (by kernel_rfl) ?_; (repeat (go_big_quiet_step ((first | (go_at_call 91; exact calls_bel (compareR_eq (by with_reducible assumption) _)))))); refine wpQuiet_nil ?_)
        intro w1 hw1
        replace hw1 := bel_out hw1
        have hb1 := bStep hb' hw1
        go_wp2_with fail
        exact ⟨⟨1, by omega, rfl, fun j hj => upto_st HA.out HST.out hj, hb1⟩, by simp [intOf]; omega⟩
      · obtain ⟨g', off', K', V', A', B', D', he, hg', hq, p0, p1, p2, p3, p4⟩ := HC.out m (by omega)
        simp at he
        obtain ⟨rfl, rfl⟩ := he
        have e0 : ∀ p : Bel wt, p.ww.cell? ⟨g, off + m * 5, none⟩ = some (.int .i64 K') := fun p => cell_below p.below (cell_below hb' p0)
        have e1 : ∀ p : Bel wt, p.ww.cell? ⟨g, off + m * 5 + 1, none⟩ = some (.int .i64 V') := fun p => cell_below p.below (cell_below hb' p1)
        have e2 : ∀ p : Bel wt, p.ww.cell? ⟨g, off + m * 5 + 2, none⟩ = some (.int .i64 A') := fun p => cell_below p.below (cell_below hb' p2)
        have e3 : ∀ p : Bel wt, p.ww.cell? ⟨g, off + m * 5 + 3, none⟩ = some (.int .i64 B') := fun p => cell_below p.below (cell_below hb' p3)
        have e4 : ∀ p : Bel wt, p.ww.cell? ⟨g, off + m * 5 + 4, none⟩ = some (.int .i64 D') := fun p => cell_below p.below (cell_below hb' p4)
        clear p0 p1 p2 p3 p4
        have HST : Hid (bstep l (m + 1) = ltS ((K', V'), (A', B')) ((K, V), (A, B))) := by
          have hr := HR.out
          show _ = _
          rw [bstep_next hr hq]
          have : decide (D ≠ 0) = true := by simpa using hD
          rw [this, Bool.true_and]
        clear hq
        have im0 : (0 : Int) ≤ (m : Int) := by omega
        have im1 : (m : Int) < (l.length : Int) := by omega
        have im2 : (l.length : Int) ≤ 2097152 := by omega
        have iw : IntKind.i64.wrap (m : Int) = (m : Int) := by rw [IntKind.wrap_i64]; omega
        have hcl := cmpS_lt ((K', V'), (A', B')) ((K, V), (A, B))
        obtain ⟨r, hcr⟩ : ∃ r, cmpS ((K', V'), (A', B')) ((K, V), (A, B)) = r := ⟨_, rfl⟩
        rw [hcr] at hcl
        cases hst : ltS ((K', V'), (A', B')) ((K, V), (A, B))
        · have HK : Hid (bokB l = false) := HN.out (m + 1) hlt (by rw [HST.out]; exact hst)
          have nr : decide (0 ≤ r) = true := by rw [hst] at hcl; simp at hcl ⊢; omega
          clear hcl
          go_wp2_with fail
          (refine wp_region_bel (by kernel_rfl) (by kernel_rfl) ?_; (repeat (go_big_quiet_step ((first | (go_at_call 91; exact calls_bel (compareR_eq (by with_reducible assumption) _)))))); refine wpQuiet_nil ?_)
          intro w1 hw1
          replace hw1 := bel_out hw1
          go_wp2_with fail
          go_ret
          exact ⟨ret_bool HK.out.symm, bStep hbw hw1⟩
        · have HK : Hid (bstep l (m + 1) = true) := by show _ = true; rw [HST.out]; exact hst
          have nr : decide (0 ≤ r) = false := by rw [hst] at hcl; simp at hcl ⊢; omega
          clear hcl
          go_wp2_with fail
          (refine wp_region_bel (by kernel_rfl) (by kernel_rfl) ?_; (repeat (go_big_quiet_step ((first | (go_at_call 91; exact calls_bel (compareR_eq (by with_reducible assumption) _)))))); refine wpQuiet_nil ?_)
          intro w1 hw1
          replace hw1 := bel_out hw1
          have hb1 := bStep hb' hw1
          go_wp2_with fail
          go_roundw
          case rel => exact ⟨m + 1 + 1, by omega, by go_num, fun j hj => upto_st HA.out HK.out hj, hb1⟩
          case measure => simp [intOf]; omega
    · have HK : Hid (bokB l = true) := HY.out fun j hj => HA.out j (by omega)
      go_wp2_with fail
      go_ret
      exact ⟨ret_bool HK.out.symm, bStep hb0 hb⟩
end Go.Proofs.YtbdpcngcbnoioaaGreatDoor
namespace Go.Proofs.YtbdpcngcbnoioaaGreatDoor
open Go.RowKit
theorem newsL {w : World} {g : Nat} {c : Array Value} {t : TypeId} (h : Bk w g c t) : ∀ j u, c.toList[j]? = some u → w.cell? ((⟨g, 0, none⟩ : Addr).add j) = some u := by
  intro j u hj
  have e : (⟨g, 0, none⟩ : Addr).add j = ⟨g, j, none⟩ := by simp [Addr.add]; exact fun h => h.symm
  rw [e]
  exact h.cell (by simpa using hj)
theorem onesR (r : Rw) : ∀ u ∈ rowC r, u.oneCell' = true := by
  intro u hu; simp at hu; rcases hu with rfl | rfl | rfl | rfl | rfl <;> rfl
theorem onesI (r : It) : ∀ u ∈ itC r, u.oneCell' = true := by
  intro u hu; simp at hu; rcases hu with rfl | rfl | rfl <;> rfl
section
variable {ops : Array Oper} {rest : List Oper} {o : Oper} {a : Act} {Q : Exit → Act → World → Prop}
theorem appR (w : World) (hgd : o.guard = none) (s x : Operand) (ho : o.op = .call { callee := .builtin .append, args := #[s, x], argTypes := #[28, 28] })
    (base : Nat) (v : Value) (l : List Rw) (hs : a.eval s = v) (hown : OwnR w base v l) (g0 : Nat) (K V A B D : Int) (hx : a.eval x = .slice (some ⟨g0, 0, none⟩) 1 1)
    (hc : Bk w g0 #[.int .i64 K, .int .i64 V, .int .i64 A, .int .i64 B, .int .i64 D] 55) (hl : l.length ≤ 2000000) (hbase : base ≤ w.heap.size)
    (h : ∀ g cap w', OwnR w' base (.slice (some ⟨g, 0, none⟩) (l.length + 1) cap) (l ++ [(((K, V), (A, B)), D)]) → w.grownBy w' v.ownBlock → g < w'.heap.size → wpList Tryz.prog ops Q rest (a.put o.dst (.slice (some ⟨g, 0, none⟩) (l.length + 1) cap)) w') :
    wpList Tryz.prog ops Q (o :: rest) a w := by
  obtain ⟨i0, hi, hz0, hz1, hz2⟩ := info_parts infoR
  refine wpList_append_lies w hgd s x 28 ho base 55 i0 _ 5 40 Tryz.underlying28 hi hz0 hz1 hz2 rfl (by decide) v l.length (l.flatMap rowC) hs hown ⟨g0, 0, none⟩ 1 1 (rowC (((K, V), (A, B)), D)) hx rfl (newsL hc) (onesR _) (by omega) (by unfold maxLen; omega) (by omega) hbase w.heap.size rfl ?_
  intro g cap w' h1 h2 _ h4
  refine h g cap w' ?_ h2 h4
  show w'.ownsRow _ _ _ _ _ _
  rw [List.flatMap_append]; simpa using h1
theorem appI (w : World) (hgd : o.guard = none) (s x : Operand) (ho : o.op = .call { callee := .builtin .append, args := #[s, x], argTypes := #[35, 35] })
    (base : Nat) (v : Value) (l : List It) (hs : a.eval s = v) (hown : OwnI w base v l) (g0 : Nat) (K V D : Int) (hx : a.eval x = .slice (some ⟨g0, 0, none⟩) 1 1)
    (hc : Bk w g0 #[.int .i64 K, .int .i64 V, .int .i64 D] 98) (hl : l.length ≤ 2000000) (hbase : base ≤ w.heap.size)
    (h : ∀ g cap w', OwnI w' base (.slice (some ⟨g, 0, none⟩) (l.length + 1) cap) (l ++ [((K, V), D)]) → w.grownBy w' v.ownBlock → g < w'.heap.size → wpList Tryz.prog ops Q rest (a.put o.dst (.slice (some ⟨g, 0, none⟩) (l.length + 1) cap)) w') :
    wpList Tryz.prog ops Q (o :: rest) a w := by
  obtain ⟨i0, hi, hz0, hz1, hz2⟩ := info_parts infoI
  refine wpList_append_lies w hgd s x 35 ho base 98 i0 _ 3 24 Tryz.underlying35 hi hz0 hz1 hz2 rfl (by decide) v l.length (l.flatMap itC) hs hown ⟨g0, 0, none⟩ 1 1 (itC ((K, V), D)) hx rfl (newsL hc) (onesI _) (by omega) (by unfold maxLen; omega) (by omega) hbase w.heap.size rfl ?_
  intro g cap w' h1 h2 _ h4
  refine h g cap w' ?_ h2 h4
  show w'.ownsRow _ _ _ _ _ _
  rw [List.flatMap_append]; simpa using h1
end
theorem ownR_empty (w : World) {B : Nat} (hB : B = w.heap.size) : OwnR (w.alloc (.cells #[] 55)) B (.slice (some ⟨B, 0, none⟩) 0 0) [] := by
  subst hB; exact own_empty w _ 5
theorem Below.grew {B : Nat} {w W W' : World} {row : Option Nat} (h : Below B w W) (hg : W.grownBy W' row) (hB : B ≤ W.heap.size) (hr : ∀ k, row = some k → B ≤ k) : Below B w W' := h.grown hg hB hr
theorem Bk.grew {w w' : World} {g : Nat} {c : Array Value} {t : TypeId} {row : Option Nat} (h : Bk w g c t) (hg : w.grownBy w' row) (hr : ∀ k, row = some k → g ≠ k) : Bk w' g c t := by
  unfold Bk
  rw [hg.block g h.lt (fun e => hr _ e.symm rfl)]; exact h
theorem take_snoc {α : Type} {l : List α} {k : Nat} {x : α} (h : l[k]? = some x) : l.take (k + 1) = l.take k ++ [x] := by
  rw [List.take_add_one, h]; rfl
theorem drop_cons {α : Type} {l : List α} {k : Nat} {x : α} (h : l[k]? = some x) : l.drop k = x :: l.drop (k + 1) := by
  have := (List.getElem?_eq_some_iff.1 h)
  obtain ⟨h1, h2⟩ := this
  rw [List.drop_eq_getElem_cons h1, h2]
inductive PutAt (r : Rw) (l L : List Rw) (k : Nat) (D : Int) : Bool → Prop
  | no (h1 : L = l.take k) (h2 : putL ltS r l = l.take k ++ putL ltS r (l.drop k)) (h3 : D = r.2) : PutAt r l L k D false
  | yes (h1 : L ++ l.drop k = putL ltS r l) (h2 : L.length ≤ k + 1) : PutAt r l L k D true
theorem PutAt.start (r : Rw) (l : List Rw) : PutAt r l [] 0 r.2 false := .no (by simp) (by simp) rfl
theorem PutAt.before {r x : Rw} {l L : List Rw} {k : Nat} {D : Int} (h : PutAt r l L k D false) (hx : l[k]? = some x) (hlt : ltS x.1 r.1 = true) : PutAt r l (L ++ [x]) (k + 1) D false := by
  cases h with
  | no h1 h2 h3 =>
    have hn : ltS r.1 x.1 = false := by
      cases e : ltS r.1 x.1
      · rfl
      · have := ltS_ord.trans _ _ _ e hlt; rw [ltS_ord.irr] at this; cases this
    refine .no (by rw [take_snoc hx, h1]) ?_ h3
    rw [h2, take_snoc hx, drop_cons hx, List.append_assoc]
    congr 1
    show putL ltS r (x :: l.drop (k + 1)) = x :: putL ltS r (l.drop (k + 1))
    simp [putL, hn, hlt]
theorem PutAt.here {r x : Rw} {l L : List Rw} {k : Nat} {D : Int} (h : PutAt r l L k D false) (hx : l[k]? = some x) (hlt : ltS r.1 x.1 = true) : PutAt r l (L ++ [r] ++ [x]) (k + 1) D true := by
  cases h with
  | no h1 h2 h3 =>
    have hk := (List.getElem?_eq_some_iff.1 hx).1
    refine .yes ?_ ?_
    · rw [h2, h1, drop_cons hx]
      simp [putL, hlt]
    · rw [h1]; simp; omega
theorem PutAt.same {r x : Rw} {l L : List Rw} {k : Nat} {D : Int} (h : PutAt r l L k D false) (hx : l[k]? = some x) (h1' : ltS r.1 x.1 = false) (h2' : ltS x.1 r.1 = false) (D' : Int) : PutAt r l (L ++ [(r.1, r.2 + x.2)]) (k + 1) D' true := by
  cases h with
  | no h1 h2 h3 =>
    have hk := (List.getElem?_eq_some_iff.1 hx).1
    refine .yes ?_ ?_
    · rw [h2, h1, drop_cons hx]
      simp [putL, h1', h2']
    · rw [h1]; simp; omega
theorem PutAt.len {r : Rw} {l L : List Rw} {k : Nat} {D : Int} {b : Bool} (h : PutAt r l L k D b) : L.length ≤ k + 1 := by
  cases h with
  | no h1 h2 h3 => rw [h1]; simp; omega
  | yes h1 h2 => exact h2
end Go.Proofs.YtbdpcngcbnoioaaGreatDoor
namespace Go.Proofs.YtbdpcngcbnoioaaGreatDoor
open Go.RowKit
end Go.Proofs.YtbdpcngcbnoioaaGreatDoor
namespace Go.Proofs.YtbdpcngcbnoioaaGreatDoor
open Go.RowKit
theorem absum_take {K : Type} (l : List (K × Int)) (k : Nat) : absum (l.take k) ≤ absum l := by
  have := absum_append (l.take k) (l.drop k)
  rw [List.take_append_drop] at this
  have := absum_pos (l.drop k)
  omega
theorem rok_abs {l : List Rw} (h : rokB l = true) : absum l ≤ 99999 * 400 := by
  have h1 := absum_le (fun r hr => rw_diff (rok_at h hr))
  have h2 := rok_len h
  have : (99999 : Int) * l.length ≤ 99999 * 400 := Int.mul_le_mul_of_nonneg_left (by omega) (by omega)
  omega
end Go.Proofs.YtbdpcngcbnoioaaGreatDoor
