/- What the drawing of two times answers: contracts. -/
import Derived.Test.YtakkgcmkefhmjaaDraw2
import Derived.Deep.DrawnRows
import Derived.Deep.RegionHeld3
namespace Go.Proofs.Ytakkgcmkefhmjaa
open Go.RowKit
attribute [local go_sem ↓] Go.wp_at_zero Go.wp_at_succ

theorem cell_bx {g : Nat} {w w1 : World} {k i : Nat} {v : Value} (hb : Bx g w w1) (h : w.cell? ⟨k, i, none⟩ = some v) (hk : k ≠ g) : w1.cell? ⟨k, i, none⟩ = some v := by
  rw [World.cell?_of_block (w := w) (hb.block k (lt_of_cell h) hk)]; exact h
/-- What a walk wants of two blocks of two cells behind a call that turns the reader alone. -/
theorem two_k {C : Prop} {g : Nat} {w w1 : World} {k l : Nat} {x y x' y' : Value} {t t' : TypeId} (hb : Bx g w w1) (h : Bk w k #[x, y] t) (h' : Bk w l #[x', y'] t') (hk : k ≠ g) (hl : l ≠ g)
    (c : Bk w1 k #[x, y] t → Bk w1 l #[x', y'] t' → w1.cell? ⟨k, 0, none⟩ = some x → w1.cell? ⟨k, 1, none⟩ = some y → w1.frozen? ⟨k, 0, none⟩ = false → w1.frozen? ⟨k, 1, none⟩ = false →
      w1.cell? ⟨l, 0, none⟩ = some x' → w1.cell? ⟨l, 1, none⟩ = some y' → w1.frozen? ⟨l, 0, none⟩ = false → w1.frozen? ⟨l, 1, none⟩ = false → C) : C :=
  have a := h.keepx hb hk
  have b := h'.keepx hb hl
  c a b a.two.1 a.two.2.1 a.two.2.2.1 a.two.2.2.2 b.two.1 b.two.2.1 b.two.2.2.1 b.two.2.2.2

theorem fin4 {K : World → Prop} {B R1 R2 : Nat} {w0 w : World} {x0 y0 x1 y1 a b c d : Value} {t t' : TypeId} (h1 : Bk w R1 #[x0, y0] t) (h2 : Bk w R2 #[x1, y1] t') (hne : R1 ≠ R2) (hb : Below B w0 w) (hB1 : B ≤ R1) (hB2 : B ≤ R2)
    (k : ∀ W, Bk W R1 #[a, b] t → Bk W R2 #[c, d] t' → Below B w0 W → K W) : K ((((w.setCell ⟨R1, 0, none⟩ a).setCell ⟨R1, 1, none⟩ b).setCell ⟨R2, 0, none⟩ c).setCell ⟨R2, 1, none⟩ d) :=
  k _ (((h1.set01 a b).apart hne c).apart hne d) (((h2.apart (Ne.symm hne) a).apart (Ne.symm hne) b).set01 c d) ((((hb.setCell hB1 a).setCell hB1 b).setCell hB2 c).setCell hB2 d)

set_option maxHeartbeats 4000000 in
theorem drawLess_any (a : Option Addr) (len cap : Nat) (w : World) (h : Src w (.slice a len cap) len) :
    Calls Try.prog 21 #[.slice a len cap] w fun e w' => ∃ s1 s2 t1 t2 : Int, e = .returned (.tuple #[tv s1 s2, tv t1 t2]) ∧ Below w.heap.size w w' := by
  have b1 : Bk ((w.alloc (.cells #[.int .i64 0, .int .i64 0] 24)).alloc (.cells #[.int .i64 0, .int .i64 0] 24)) w.heap.size #[.int .i64 0, .int .i64 0] 24 := (Bk.new _ _ rfl).alloc _
  have b2 : Bk ((w.alloc (.cells #[.int .i64 0, .int .i64 0] 24)).alloc (.cells #[.int .i64 0, .int .i64 0] 24)) (w.heap.size + 1) #[.int .i64 0, .int .i64 0] 24 := Bk.new _ _ (by simp)
  have hb0 : Below w.heap.size w ((w.alloc (.cells #[.int .i64 0, .int .i64 0] 24)).alloc (.cells #[.int .i64 0, .int .i64 0] 24)) := bAlloc (bAlloc (Below.refl _ _) _) _
  have hsz : ((w.alloc (.cells #[.int .i64 0, .int .i64 0] 24)).alloc (.cells #[.int .i64 0, .int .i64 0] 24)).heap.size = w.heap.size + 2 := by simp
  go_enter Try.func21, Try.ntmps21
  go_wp2_with fail
  generalize (w.alloc (.cells #[.int .i64 0, .int .i64 0] 24)).alloc (.cells #[.int .i64 0, .int .i64 0] 24) = W at *
  refine (l6Open_any _ _ _ _ (h.keep hb0)).mono ?_
  rintro e w1 ⟨rfl, ⟨v, n, hr1⟩, hbw⟩
  have c1 := b1.keep hbw
  have c2 := b2.keep hbw
  have hb1 := bStep hb0 hbw
  have HS : Hid (W.heap.size = w.heap.size + 2) := hsz
  clear hsz b1 b2 hb0 h
  have lg := hr1.blk.lt
  go_wp2_with fail
  refine (l71Odd_any hr1 (by omega) (by omega)).mono ?_
  rintro e w2 ⟨a1, a2, rfl, ha0, ha1, hc0, hc1, ⟨p1, hp1, hp2, hr2⟩, hx2⟩
  have hsz := HS.out
  have d1 := c1.keepx hx2 (by omega)
  have d2 := c2.keepx hx2 (by omega)
  have hb2 : Below w.heap.size w w2 := hx2.below hb1 hb1.size (by omega)
  have lz := hx2.size
  clear hsz
  go_wp2_with fail
  have bs3 : Bk (w2.alloc (.cells #[.int .i64 a1, .int .i64 a2] 24)) w2.heap.size #[.int .i64 a1, .int .i64 a2] 24 := Bk.new _ _ rfl
  have d13 := d1.alloc (.cells #[.int .i64 a1, .int .i64 a2] 24)
  have d23 := d2.alloc (.cells #[.int .i64 a1, .int .i64 a2] 24)
  have hr3 := hr2.keepb (bAlloc (Below.refl _ _) (.cells #[.int .i64 a1, .int .i64 a2] 24))
  have hb3 := bAlloc hb2 (.cells #[.int .i64 a1, .int .i64 a2] 24)
  refine (pick_any hr3 (by omega) (by omega) _ (by omega) (by omega)).mono ?_
  rintro e w4 ⟨k, rfl, hk0, hk1, hr4, hx4⟩
  have hsz := HS.out
  have bs4 := bs3.keepx hx4 (by omega)
  have d14 := d13.keepx hx4 (by omega)
  have d24 := d23.keepx hx4 (by omega)
  have hb4 : Below w.heap.size w w4 := hx4.below hb3 hb3.size (by omega)
  have lz4 := hx4.size
  simp only [World.size_alloc] at lz4
  have hr5 := hr4.keepb (w1 := w4.drew) (Below.refl _ _).drew
  have bs5 : Bk w4.drew w2.heap.size #[.int .i64 a1, .int .i64 a2] 24 := bs4.drew
  have d15 : Bk w4.drew w.heap.size #[.int .i64 0, .int .i64 0] 24 := d14.drew
  have d25 : Bk w4.drew (w.heap.size + 1) #[.int .i64 0, .int .i64 0] 24 := d24.drew
  obtain ⟨s0, s1, _, _⟩ := bs4.two
  have hb5 : Below w.heap.size w w4.drew := hb4.drew
  have n0 : w.heap.size ≤ W.heap.size := by omega
  have n1 : w.heap.size ≠ W.heap.size := by omega
  have n2 : w.heap.size + 1 ≠ W.heap.size := by omega
  have n3 : w2.heap.size ≠ W.heap.size := by omega
  have m1 : w2.heap.size ≠ w.heap.size := by omega
  have m2 : w2.heap.size ≠ w.heap.size + 1 := by omega
  clear hsz
  by_cases hk : k = 0
  · subst hk
    go_wp2_with fail
    go_region_held3 (fun w' => w'.cell? ⟨w2.heap.size, 0, none⟩ = some (.int .i64 a1) ∧ w'.cell? ⟨w2.heap.size, 1, none⟩ = some (.int .i64 a2)) (refine ⟨?_, ?_⟩ <;> repeat' (first | with_reducible assumption | with_reducible refine cell_drew ?_ | with_reducible refine cell_bx (by with_reducible assumption) ?_ ?_ | with_reducible refine cell_apart ?_ ?_)) (first | (go_at_call 30; refine (pick_any (by with_reducible assumption) (by omega) (by omega) _ (by omega) (by omega)).mono ?_; rintro e w' ⟨k, rfl, hk0, hk1, hr, hx⟩; refine two_k (k := w.heap.size) (l := w.heap.size + 1) hx (by with_reducible assumption) (by with_reducible assumption) n1 n2 ?_; intro _ _ _ _ _ _ _ _ _ _; have hbn : Below w.heap.size w w' := Bx.below hx (by with_reducible assumption) (Below.size (by with_reducible assumption)) n0))
    refine fin4 (by with_reducible assumption) (by with_reducible assumption) (by omega) hbn (by omega) (by omega) ?_
    intro W4 e1 e2 hbe
    obtain ⟨q0, q1, _, _⟩ := e1.two
    obtain ⟨q2, q3, _, _⟩ := e2.two
    go_wp2_with fail
    refine bodyPost_ret (by simp [results, Try.results21, go_sem, q0, q1, q2, q3]; try rfl) rfl ?_
    exact ⟨_, _, _, _, rfl, hbe⟩
  · have hkb : (k == 0) = false := by simpa using hk
    go_wp2_with fail
    go_region_held3 (fun w' => w'.cell? ⟨w2.heap.size, 0, none⟩ = some (.int .i64 a1) ∧ w'.cell? ⟨w2.heap.size, 1, none⟩ = some (.int .i64 a2)) (refine ⟨?_, ?_⟩ <;> repeat' (first | with_reducible assumption | with_reducible refine cell_drew ?_ | with_reducible refine cell_bx (by with_reducible assumption) ?_ ?_ | with_reducible refine cell_apart ?_ ?_)) (first | (go_at_call 29; refine (l71Odd_any (by with_reducible assumption) (by omega) (by omega)).mono ?_; rintro e w' ⟨z1, z2, rfl, _, _, _, _, ⟨p2, hp3, hp4, hr⟩, hx⟩; refine two_k (k := w.heap.size) (l := w.heap.size + 1) hx (by with_reducible assumption) (by with_reducible assumption) n1 n2 ?_; intro _ _ _ _ _ _ _ _ _ _; have hbn : Below w.heap.size w w' := Bx.below hx (by with_reducible assumption) (Below.size (by with_reducible assumption)) n0))
    refine fin4 (by with_reducible assumption) (by with_reducible assumption) (by omega) hbn (by omega) (by omega) ?_
    intro W4 e1 e2 hbe
    obtain ⟨q0, q1, _, _⟩ := e1.two
    obtain ⟨q2, q3, _, _⟩ := e2.two
    go_wp2_with fail
    refine bodyPost_ret (by simp [results, Try.results21, go_sem, q0, q1, q2, q3]; try rfl) rfl ?_
    exact ⟨_, _, _, _, rfl, hbe⟩
end Go.Proofs.Ytakkgcmkefhmjaa
