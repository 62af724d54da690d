/- What the drawing of times answers: contracts. -/
import Derived.Test.YtbmdfmboabfceaaTimeA
import Derived.Test.YtbmdfmboabfceaaDraw1
import Derived.Deep.DeepCutAuto
namespace Go.Proofs.Ytbmdfmboabfceaa
open Go.RowKit

theorem Rd.apart {B : Nat} {w : World} {g : Nat} {v : Value} {n : Nat} {p : Int} (h : Rd B w g v n p) {q : Addr} (hq : g ≠ q.block) (hB : B ≤ q.block) (u : Value) : Rd B (w.setCell q u) g v n p := by
  refine ⟨h.blk.apart hq u, ?_, h.few, h.here, by simpa [World.setCell] using h.size⟩
  obtain ⟨a, cap, rfl, h1, h2, h3⟩ := h.bytes
  refine ⟨a, cap, rfl, h1, h2, fun i hi => ?_⟩
  obtain ⟨b, off, z, rfl, hb', hc, h4, h5⟩ := h3 i hi
  exact ⟨b, off, z, rfl, hb', cell_apart hc (by omega), h4, h5⟩

set_option maxHeartbeats 1000000 in
theorem l71Time_any {B : Nat} {w : World} {g : Nat} {v : Value} {n : Nat} {p : Int} (h : Rd B w g v n p) (hp : 0 ≤ p) (hp' : p ≤ 900000) :
    Calls Try.prog 157 #[.pointer (some ⟨g, 0, none⟩)] w fun e w' => ∃ a b : Int, e = .returned (tv a b) ∧ 0 ≤ a ∧ a ≤ 7 ∧ 0 ≤ b ∧ b ≤ 7 ∧ (∃ p' : Int, p ≤ p' ∧ p' ≤ p + 3 ∧ Rd B w' g v n p') ∧ Bx g w w' := by
  have hg := h.blk.lt
  have hs := h.size
  have hh := h.here
  have h0 := h.keepb (bAlloc (Below.refl _ _) (.cells #[.int .i64 0, .int .i64 0] 31))
  have br : Bk (w.alloc (.cells #[.int .i64 0, .int .i64 0] 31)) w.heap.size #[.int .i64 0, .int .i64 0] 31 := Bk.new _ _ rfl
  have x0 : Bx g w (w.alloc (.cells #[.int .i64 0, .int .i64 0] 31)) := (Bx.refl _ _).alloc _
  go_enter Try.func157, Try.ntmps157
  go_wp2_with fail
  refine (pick_any h0 hp (by omega) _ (by omega) (by omega)).mono ?_
  rintro e w1 ⟨k, rfl, hk0, hk1, hr1, hx1⟩
  have br1 := br.keepx hx1 (by omega)
  by_cases hk : k = 0
  · subst hk
    go_wp2_with fail
    refine (pick_any hr1 (by omega) (by omega) _ (by omega) (by omega)).mono ?_
    rintro e w2 ⟨a, rfl, ha0, ha1, hr2, hx2⟩
    have br2 := br1.keepx hx2 (by omega)
    go_wp2_with fail
    refine (pick_any hr2 (by omega) (by omega) _ (by omega) (by omega)).mono ?_
    rintro e w3 ⟨b, rfl, hb0, hb1, hr3, hx3⟩
    have br3 := br2.keepx hx3 (by omega)
    obtain ⟨q0, q1, f0, f1⟩ := br3.two
    go_wp2_with fail
    refine bodyPost_ret (by simp [results, Try.results157, go_sem, set1a br3, set2b br3]; try rfl) rfl ?_
    exact ⟨a, b, rfl, by omega, by omega, by omega, by omega, ⟨_, by omega, by omega, (hr3.apart (by simp; omega) (by simp; omega) _).apart (by simp; omega) (by simp; omega) _⟩, ((((x0.trans hx1).trans hx2).trans hx3).setNew (by simp) _).setNew (by simp) _⟩
  · have hkb : (k == 0) = false := by simpa using hk
    go_wp2_with fail
    refine (pick_any hr1 (by omega) (by omega) _ (by omega) (by omega)).mono ?_
    rintro e w2 ⟨a, rfl, ha0, ha1, hr2, hx2⟩
    have br2 := br1.keepx hx2 (by omega)
    go_wp2_with fail
    refine (pick_any hr2 (by omega) (by omega) _ (by omega) (by omega)).mono ?_
    rintro e w3 ⟨b, rfl, hb0, hb1, hr3, hx3⟩
    have br3 := br2.keepx hx3 (by omega)
    obtain ⟨q0, q1, f0, f1⟩ := br3.two
    go_wp2_with fail
    refine bodyPost_ret (by simp [results, Try.results157, go_sem, set1a br3, set2b br3]; try rfl) rfl ?_
    exact ⟨a, b, rfl, by omega, by omega, by omega, by omega, ⟨_, by omega, by omega, (hr3.apart (by simp; omega) (by simp; omega) _).apart (by simp; omega) (by simp; omega) _⟩, ((((x0.trans hx1).trans hx2).trans hx3).setNew (by simp) _).setNew (by simp) _⟩

theorem Rd.new {w : World} {a : Option Addr} {len cap k : Nat} (hk : k ≤ len) (hf : k ≤ 2000) (h1 : len ≤ cap) (h2 : cap ≤ maxLen)
    (h3 : ∀ i : Nat, i < len → ∃ (b off : Nat) (z : Int), a = some ⟨b, off, none⟩ ∧ b < w.heap.size ∧ w.cell? ⟨b, off + i, none⟩ = some (.int .u8 z) ∧ 0 ≤ z ∧ z ≤ 255) :
    Rd w.heap.size (w.alloc (.cells #[.slice a k cap, .int .i64 0] 132)) w.heap.size (.slice a k cap) k 0 := by
  refine ⟨Bk.new _ _ rfl, ⟨a, cap, rfl, by omega, h2, fun i hi => ?_⟩, hf, Nat.le_refl _, by simp⟩
  obtain ⟨b, off, z, rfl, hb, hc, h4, h5⟩ := h3 i (by omega)
  exact ⟨b, off, z, rfl, hb, cell_alloc hc, h4, h5⟩

set_option maxHeartbeats 1000000 in
theorem l6Open_any (a : Option Addr) (len cap : Nat) (w : World) (h : Src w (.slice a len cap) len) :
    Calls Try.prog 99 #[.slice a len cap] w fun e w' => e = .returned (.pointer (some ⟨w.heap.size, 0, none⟩)) ∧ (∃ v n, Rd w.heap.size w' w.heap.size v n 0) ∧ Below w.heap.size w w' := by
  obtain ⟨a', cap', e, h1, h2, h3⟩ := h
  simp at e
  obtain ⟨rfl, rfl⟩ := e
  have h2' := h2
  unfold maxLen at h2'
  by_cases hl : (2000 : Int) < (len : Int)
  · have R := Rd.new (k := 2000) (by omega) (by omega) h1 h2 h3
    clear h3
    go_enter Try.func99, Try.ntmps99
    go_wp2
    go_ret
    exact ⟨rfl, ⟨_, _, R⟩, bAlloc (Below.refl _ _) _⟩
  · have R := Rd.new (k := len) (by omega) (by omega) h1 h2 h3
    clear h3
    go_enter Try.func99, Try.ntmps99
    go_wp2
    go_ret
    exact ⟨rfl, ⟨_, _, R⟩, bAlloc (Below.refl _ _) _⟩

set_option maxHeartbeats 2000000 in
theorem l71Odd_any {B : Nat} {w : World} {g : Nat} {v : Value} {n : Nat} {p : Int} (h : Rd B w g v n p) (hp : 0 ≤ p) (hp' : p ≤ 900000) :
    Calls Try.prog 128 #[.pointer (some ⟨g, 0, none⟩)] w fun e w' => ∃ a b : Int, e = .returned (tv a b) ∧ -1 ≤ a ∧ a ≤ 8 ∧ -1 ≤ b ∧ b ≤ 8 ∧ (∃ p' : Int, p ≤ p' ∧ p' ≤ p + 5 ∧ Rd B w' g v n p') ∧ Bx g w w' := by
  have hg := h.blk.lt
  have hs := h.size
  have hh := h.here
  have h0 := h.keepb (bAlloc (Below.refl _ _) (.cells #[.int .i64 0, .int .i64 0] 31))
  have br : Bk (w.alloc (.cells #[.int .i64 0, .int .i64 0] 31)) w.heap.size #[.int .i64 0, .int .i64 0] 31 := Bk.new _ _ rfl
  have x0 : Bx g w (w.alloc (.cells #[.int .i64 0, .int .i64 0] 31)) := (Bx.refl _ _).alloc _
  go_enter Try.func128, Try.ntmps128
  go_wp2_with fail
  refine (l71Time_any h0 hp (by omega)).mono ?_
  rintro e w1 ⟨a, b, rfl, ha0, ha1, hb0, hb1, ⟨p1, hp1, hp2, hr1⟩, hx1⟩
  have br1 := br.keepx hx1 (by omega)
  have lr1 := br1.lt
  have hz1 := hx1.size
  simp only [World.size_alloc] at hz1
  go_wp2_with fail
  have hr2 := hr1.keepb (bAlloc (Below.refl _ _) (.cells #[.int .i64 a, .int .i64 b] 31))
  have bt2 : Bk (w1.alloc (.cells #[.int .i64 a, .int .i64 b] 31)) w1.heap.size #[.int .i64 a, .int .i64 b] 31 := Bk.new _ _ rfl
  have br2 := br1.alloc (.cells #[.int .i64 a, .int .i64 b] 31)
  have x2 : Bx g w (w1.alloc (.cells #[.int .i64 a, .int .i64 b] 31)) := (x0.trans hx1).alloc _
  refine (pick_any hr2 (by omega) (by omega) _ (by omega) (by omega)).mono ?_
  rintro e w3 ⟨k, rfl, hk0, hk1, hr3, hx3⟩
  have br3 := br2.keepx hx3 (by omega)
  have bt3 := bt2.keepx hx3 (by omega)
  have x3 := x2.trans hx3
  by_cases hk : k = 0
  · subst hk
    go_wp2_with fail
    have hr4 := hr3.keepb (bAlloc (Below.refl _ _) (.cells #[.int .i64 (-1), .int .i64 8] 3))
    have bl4 : Bk (w3.alloc (.cells #[.int .i64 (-1), .int .i64 8] 3)) w3.heap.size #[.int .i64 (-1), .int .i64 8] 3 := Bk.new _ _ rfl
    have br4 := br3.alloc (.cells #[.int .i64 (-1), .int .i64 8] 3)
    have bt4 := bt3.alloc (.cells #[.int .i64 (-1), .int .i64 8] 3)
    have x4 := x3.alloc (.cells #[.int .i64 (-1), .int .i64 8] 3)
    have hz3 := hx3.size
    simp only [World.size_alloc] at hz3
    refine (pick_any hr4 (by omega) (by omega) _ (by omega) (by omega)).mono ?_
    rintro e w5 ⟨j, rfl, hj0, hj1, hr5, hx5⟩
    have br5 := br4.keepx hx5 (by omega)
    have bt5 := bt4.keepx hx5 (by omega)
    have bl5 := bl4.keepx hx5 (by omega)
    have x5 := x4.trans hx5
    obtain ⟨l0, l1, _, _⟩ := bl5.two
    obtain ⟨t0, t1, ft0, ft1⟩ := bt5.two
    rcases (show j = 0 ∨ j = 1 by omega) with rfl | rfl
    · have bt6 := bt5.set 0 (.int .i64 (-1))
      have br6 := br5.apart (p := ⟨w1.heap.size, 0, none⟩) (by simp; omega) (.int .i64 (-1))
      have hr6 := hr5.apart (q := ⟨w1.heap.size, 0, none⟩) (by simp; omega) (by simp; omega) (.int .i64 (-1))
      have x6 := x5.setNew (p := ⟨w1.heap.size, 0, none⟩) (by simp; omega) (.int .i64 (-1))
      go_upto_region 7 with fail
      generalize (w5.setCell ⟨w1.heap.size, 0, none⟩ (.int .i64 (-1))) = w6 at *
      obtain ⟨u0, u1, _, _⟩ := bt6.two
      obtain ⟨q0, q1, f0, f1⟩ := br6.two
      go_wp2_with fail
      refine bodyPost_ret (by simp [results, Try.results128, go_sem, set1a br6, set2b br6]; try rfl) rfl ?_
      exact ⟨_, _, rfl, by omega, by omega, by omega, by omega, ⟨_, by omega, by omega, (hr6.apart (by simp; omega) (by simp; omega) _).apart (by simp; omega) (by simp; omega) _⟩, (x6.setNew (by simp) _).setNew (by simp) _⟩
    · have bt6 := bt5.set 0 (.int .i64 (8))
      have br6 := br5.apart (p := ⟨w1.heap.size, 0, none⟩) (by simp; omega) (.int .i64 (8))
      have hr6 := hr5.apart (q := ⟨w1.heap.size, 0, none⟩) (by simp; omega) (by simp; omega) (.int .i64 (8))
      have x6 := x5.setNew (p := ⟨w1.heap.size, 0, none⟩) (by simp; omega) (.int .i64 (8))
      go_upto_region 7 with fail
      generalize (w5.setCell ⟨w1.heap.size, 0, none⟩ (.int .i64 (8))) = w6 at *
      obtain ⟨u0, u1, _, _⟩ := bt6.two
      obtain ⟨q0, q1, f0, f1⟩ := br6.two
      go_wp2_with fail
      refine bodyPost_ret (by simp [results, Try.results128, go_sem, set1a br6, set2b br6]; try rfl) rfl ?_
      exact ⟨_, _, rfl, by omega, by omega, by omega, by omega, ⟨_, by omega, by omega, (hr6.apart (by simp; omega) (by simp; omega) _).apart (by simp; omega) (by simp; omega) _⟩, (x6.setNew (by simp) _).setNew (by simp) _⟩
  · have hkb : (k == 0) = false := by simpa using hk
    by_cases hk1' : k = 1
    · subst hk1'
      go_wp2_with fail
      have hr4 := hr3.keepb (bAlloc (Below.refl _ _) (.cells #[.int .i64 (-1), .int .i64 8] 3))
      have bl4 : Bk (w3.alloc (.cells #[.int .i64 (-1), .int .i64 8] 3)) w3.heap.size #[.int .i64 (-1), .int .i64 8] 3 := Bk.new _ _ rfl
      have br4 := br3.alloc (.cells #[.int .i64 (-1), .int .i64 8] 3)
      have bt4 := bt3.alloc (.cells #[.int .i64 (-1), .int .i64 8] 3)
      have x4 := x3.alloc (.cells #[.int .i64 (-1), .int .i64 8] 3)
      have hz3 := hx3.size
      simp only [World.size_alloc] at hz3
      refine (pick_any hr4 (by omega) (by omega) _ (by omega) (by omega)).mono ?_
      rintro e w5 ⟨j, rfl, hj0, hj1, hr5, hx5⟩
      have br5 := br4.keepx hx5 (by omega)
      have bt5 := bt4.keepx hx5 (by omega)
      have bl5 := bl4.keepx hx5 (by omega)
      have x5 := x4.trans hx5
      obtain ⟨l0, l1, _, _⟩ := bl5.two
      obtain ⟨t0, t1, ft0, ft1⟩ := bt5.two
      rcases (show j = 0 ∨ j = 1 by omega) with rfl | rfl
      · have bt6 := bt5.set 1 (.int .i64 (-1))
        have br6 := br5.apart (p := ⟨w1.heap.size, 1, none⟩) (by simp; omega) (.int .i64 (-1))
        have hr6 := hr5.apart (q := ⟨w1.heap.size, 1, none⟩) (by simp; omega) (by simp; omega) (.int .i64 (-1))
        have x6 := x5.setNew (p := ⟨w1.heap.size, 1, none⟩) (by simp; omega) (.int .i64 (-1))
        go_upto_region 7 with fail
        generalize (w5.setCell ⟨w1.heap.size, 1, none⟩ (.int .i64 (-1))) = w6 at *
        obtain ⟨u0, u1, _, _⟩ := bt6.two
        obtain ⟨q0, q1, f0, f1⟩ := br6.two
        go_wp2_with fail
        refine bodyPost_ret (by simp [results, Try.results128, go_sem, set1a br6, set2b br6]; try rfl) rfl ?_
        exact ⟨_, _, rfl, by omega, by omega, by omega, by omega, ⟨_, by omega, by omega, (hr6.apart (by simp; omega) (by simp; omega) _).apart (by simp; omega) (by simp; omega) _⟩, (x6.setNew (by simp) _).setNew (by simp) _⟩
      · have bt6 := bt5.set 1 (.int .i64 (8))
        have br6 := br5.apart (p := ⟨w1.heap.size, 1, none⟩) (by simp; omega) (.int .i64 (8))
        have hr6 := hr5.apart (q := ⟨w1.heap.size, 1, none⟩) (by simp; omega) (by simp; omega) (.int .i64 (8))
        have x6 := x5.setNew (p := ⟨w1.heap.size, 1, none⟩) (by simp; omega) (.int .i64 (8))
        go_upto_region 7 with fail
        generalize (w5.setCell ⟨w1.heap.size, 1, none⟩ (.int .i64 (8))) = w6 at *
        obtain ⟨u0, u1, _, _⟩ := bt6.two
        obtain ⟨q0, q1, f0, f1⟩ := br6.two
        go_wp2_with fail
        refine bodyPost_ret (by simp [results, Try.results128, go_sem, set1a br6, set2b br6]; try rfl) rfl ?_
        exact ⟨_, _, rfl, by omega, by omega, by omega, by omega, ⟨_, by omega, by omega, (hr6.apart (by simp; omega) (by simp; omega) _).apart (by simp; omega) (by simp; omega) _⟩, (x6.setNew (by simp) _).setNew (by simp) _⟩
    · have hkb1 : (k == 1) = false := by simpa using hk1'
      obtain ⟨q0, q1, f0, f1⟩ := br3.two
      obtain ⟨t0, t1, _, _⟩ := bt3.two
      go_wp2_with fail
      refine bodyPost_ret (by simp [results, Try.results128, go_sem, set1a br3, set2b br3]; try rfl) rfl ?_
      exact ⟨a, b, rfl, by omega, by omega, by omega, by omega, ⟨_, by omega, by omega, (hr3.apart (by simp; omega) (by simp; omega) _).apart (by simp; omega) (by simp; omega) _⟩, (x3.setNew (by simp) _).setNew (by simp) _⟩
end Go.Proofs.Ytbmdfmboabfceaa
