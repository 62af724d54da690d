/- What the drawing of a plan, some spoilt, answers: a contract. -/
import Derived.Test.YtljbogiecnhgmaaDoorPl7
namespace Go.Proofs.YtljbogiecnhgmaaDoor
open Go.RowKit

def PT.put (t : PT) (k n : Int) : PT :=
  match t with
  | .n0 _ _ => .n0 k n
  | .n1 _ _ a => .n1 k n a
  | .n2 _ _ a b => .n2 k n a b
theorem PT.put_k (t : PT) (k n : Int) : (t.put k n).k = k := by cases t <;> rfl
theorem PT.put_n (t : PT) (k n : Int) : (t.put k n).n = n := by cases t <;> rfl
theorem PT.put_sm {t : PT} (h : t.sm) {k n : Int} (hn : 0 ≤ n ∧ n ≤ 99) : (t.put k n).sm := by
  cases t with
  | n0 _ _ => exact hn
  | n1 _ _ a => exact ⟨hn, h.2⟩
  | n2 _ _ a b => exact ⟨hn, h.2⟩
theorem KdS.put {B : Nat} {w : World} {t : PT} {s : Value} (h : KdS B w t s) (k n : Int) : KdS B w (t.put k n) s := by
  cases t <;> exact h
set_option maxRecDepth 100000 in
set_option maxHeartbeats 40000000 in
theorem l71Bent_any {B : Nat} {w : World} {g : Nat} {v : Value} {n : Nat} {p : Int} (h : Rd B w g v n p) (hp : 0 ≤ p) (hp' : p ≤ 800000) :
    Calls Tryd.prog 11 #[.pointer (some ⟨g, 0, none⟩)] w (PlPost B w g v n p (stp 4 + 2) 14) := by
  have hg := h.blk.lt
  have hs := h.size
  have hh := h.here
  have h0 := h.keepb (bAlloc (Below.refl _ _) (.cells #[.int .i64 0, .int .i64 0, .slice none 0 0] 25))
  have br : Bk (w.alloc (.cells #[.int .i64 0, .int .i64 0, .slice none 0 0] 25)) w.heap.size #[.int .i64 0, .int .i64 0, .slice none 0 0] 25 := Bk.new _ _ rfl
  have x0 : Bx g w (w.alloc (.cells #[.int .i64 0, .int .i64 0, .slice none 0 0] 25)) := (Bx.refl _ _).alloc _
  have hz0 : (w.alloc (.cells #[.int .i64 0, .int .i64 0, .slice none 0 0] 25)).heap.size = w.heap.size + 1 := by simp
  have hst : stp 4 = 61 := by simp [stp]
  have HP := (show Hid _ from l71Plan_any 4 (by omega) h0 hp (by omega))
  rw [hst] at HP ⊢
  clear hst
  go_enter Tryd.func11, Tryd.ntmps11
  go_wp2_with fail
  refine Calls.mono HP.out ?_
  rintro e w1 ⟨t, a, i, c, rfl, hsm, hn9, kd, ⟨q1, hq1, hq2, hr1⟩, hx1⟩
  have hn0 := (PT.sm_n hsm).1
  have br1 := br.keepx hx1 (by omega)
  have hx01 := x0.trans hx1
  have hz1 := hx1.size
  rw [hz0] at hz1 kd
  have b3 := Bk.new (w := w1) #[.int .i64 t.k, .int .i64 t.n, .slice a i c] 25 rfl
  have hb3 : Below w1.heap.size w1 (w1.alloc (.cells #[.int .i64 t.k, .int .i64 t.n, .slice a i c] 25)) := bAlloc (Below.refl _ _) _
  have hr2 := hr1.keepb hb3
  have br2 := br1.keep hb3
  have hx2 : Bx g w1 (w1.alloc (.cells #[.int .i64 t.k, .int .i64 t.n, .slice a i c] 25)) := Bx.of_below hb3
  clear x0 hx1 br h0 hz0 HP br1 hr1 hb3
  go_wp2_with fail
  refine (pick_any hr2 (by omega) (by omega) _ (by omega) (by omega)).mono ?_
  rintro e w2 ⟨k, rfl, k0, k1, hr3, hx3⟩
  have br3 := br2.keepx hx3 (by omega)
  have b33 := b3.keepx hx3 (by omega)
  have hx13 := hx2.trans hx3
  have hz3 := hx13.size
  have hl3 := b33.lt
  clear hx2 hx3 br2 b3 hr2
  generalize e3 : w1.heap.size = r3 at *
  have hc : k = 0 ∨ k = 1 ∨ k = 2 ∨ k = 3 ∨ (4 ≤ k) := by omega
  rcases hc with rfl | rfl | rfl | rfl | hc
  · go_wp2_with fail
    refine (pick_any hr3 (by omega) (by omega) _ (by omega) (by omega)).mono ?_
    rintro e w3 ⟨j, rfl, j0, j1, hr4, hx4⟩
    have br4 := (br3.keepx hx4 (by omega)).apart (p := ⟨r3, 0, none⟩) (by show _ ≠ r3; omega) (.int .i64 (j - 1))
    have b30 := b33.keepx hx4 (by omega)
    have hf := b30.free3
    have b34 : Bk (w3.setCell ⟨r3, 0, none⟩ (.int .i64 (j - 1))) r3 #[.int .i64 (j - 1), .int .i64 t.n, .slice a i c] 25 := b30.set 0 _
    have hx14 : Bx g w1 (w3.setCell ⟨r3, 0, none⟩ (.int .i64 (j - 1))) := (hx13.trans hx4).setNew (by show _ ≤ r3; omega) _
    have hr5 := hr4.apart (q := ⟨r3, 0, none⟩) (by show _ ≠ r3; omega) (by show _ ≤ r3; omega) (.int .i64 (j - 1))
    have kd5 := (kd.keepx hx14 (by omega)).put (j - 1) t.n
    obtain ⟨o0, o1, o2⟩ := b30.three'
    obtain ⟨g0, g1, g2⟩ := hf
    obtain ⟨p0, p1, p2⟩ := b34.three'
    clear hr4 hx4 b30 b34 br3 b33 hr3
    have bz := (br4)
    obtain ⟨f0, f1, f2⟩ := bz.free3
    obtain ⟨z0, z1, z2⟩ := bz.three'
    obtain ⟨y0, y1, y2⟩ := (bz.set012 (.int .i64 (j - 1)) (.int .i64 (t.n)) (.slice a i c)).three'
    have HF := (show Hid _ from pl_fin (p := p) (m := 61 + 2) (b := 14) (t := t.put (j - 1) t.n) (W := _) kd5 (PT.put_sm hsm (PT.sm_n hsm)) (by rw [PT.put_n]; omega) hg hs hr5 (hx01.trans hx14) (by omega) (by omega))
    go_wp2_with fail
    refine bodyPost_ret (v := pl (j - 1) (t.n) (.slice a i c)) (by simp [results, Tryd.results11, go_sem, y0, y1, y2]; try first | rfl | exact ⟨rfl, rfl⟩) rfl ?_
    have HF2 := HF.out
    rw [PT.put_k, PT.put_n] at HF2
    exact HF2
  · obtain ⟨o0, o1, o2⟩ := b33.three'
    obtain ⟨g0, g1, g2⟩ := b33.free3
    have br4 := br3.apart (p := ⟨r3, 1, none⟩) (by show _ ≠ r3; omega) (.int .i64 (t.n + 5))
    have b34 : Bk (w2.setCell ⟨r3, 1, none⟩ (.int .i64 (t.n + 5))) r3 #[.int .i64 t.k, .int .i64 (t.n + 5), .slice a i c] 25 := b33.set 1 _
    have hx14 : Bx g w1 (w2.setCell ⟨r3, 1, none⟩ (.int .i64 (t.n + 5))) := hx13.setNew (by show _ ≤ r3; omega) _
    have hr5 := hr3.apart (q := ⟨r3, 1, none⟩) (by show _ ≠ r3; omega) (by show _ ≤ r3; omega) (.int .i64 (t.n + 5))
    have kd5 := (kd.keepx hx14 (by omega)).put t.k (t.n + 5)
    obtain ⟨p0, p1, p2⟩ := b34.three'
    clear b34 br3 b33 hr3
    have bz := (br4)
    obtain ⟨f0, f1, f2⟩ := bz.free3
    obtain ⟨z0, z1, z2⟩ := bz.three'
    obtain ⟨y0, y1, y2⟩ := (bz.set012 (.int .i64 (t.k)) (.int .i64 (t.n + 5)) (.slice a i c)).three'
    have HF := (show Hid _ from pl_fin (p := p) (m := 61 + 2) (b := 14) (t := t.put t.k (t.n + 5)) (W := _) kd5 (PT.put_sm hsm (by omega)) (by rw [PT.put_n]; omega) hg hs hr5 (hx01.trans hx14) (by omega) (by omega))
    go_wp2_with fail
    refine bodyPost_ret (v := pl (t.k) (t.n + 5) (.slice a i c)) (by simp [results, Tryd.results11, go_sem, y0, y1, y2]; try first | rfl | exact ⟨rfl, rfl⟩) rfl ?_
    have HF2 := HF.out
    rw [PT.put_k, PT.put_n] at HF2
    exact HF2
  · obtain ⟨o0, o1, o2⟩ := b33.three'
    have kd3 := kd.keepx hx13 (by omega)
    have kx := kd2 (K := 4) (N := 0) kd3 kd3 (by omega)
    clear kd3
    have bz := (br3.alloc (.cells #[.int .i64 t.k, .int .i64 t.n, .slice a i c, .int .i64 t.k, .int .i64 t.n, .slice a i c] 25))
    obtain ⟨f0, f1, f2⟩ := bz.free3
    obtain ⟨z0, z1, z2⟩ := bz.three'
    obtain ⟨y0, y1, y2⟩ := (bz.set012 (.int .i64 (4)) (.int .i64 (0)) (.slice (some ⟨w2.heap.size, 0, none⟩) 2 2)).three'
    have HF := (show Hid _ from pl_fin (p := p) (m := 61 + 2) (b := 14) (t := PT.n2 4 0 t t) (W := _) kx (show ((0 : Int) ≤ 0 ∧ (0 : Int) ≤ 99) ∧ t.sm ∧ t.sm from ⟨by omega, hsm, hsm⟩) (show (0 : Int) ≤ 14 by omega) hg hs (hr3.keepb (bAlloc (Below.refl _ _) _)) ((hx01.trans hx13).alloc _) (by omega) (by omega))
    go_wp2_with fail
    refine bodyPost_ret (v := pl (4) (0) (.slice (some ⟨w2.heap.size, 0, none⟩) 2 2)) (by simp [results, Tryd.results11, go_sem, y0, y1, y2]; try first | rfl | exact ⟨rfl, rfl⟩) rfl ?_
    exact HF.out
  · obtain ⟨o0, o1, o2⟩ := b33.three'
    have kd3 := kd.keepx hx13 (by omega)
    have kx0 := kd1 (K := 4) (N := 0) kd3 (by omega)
    have kx := kd1 (K := 4) (N := 0) kx0 (by simp; omega)
    clear kd3 kx0
    simp only [World.size_alloc] at kx
    have bz := ((br3.alloc (.cells #[.int .i64 t.k, .int .i64 t.n, .slice a i c] 25)).alloc (.cells #[.int .i64 4, .int .i64 0, .slice (some ⟨w2.heap.size, 0, none⟩) 1 1] 25))
    obtain ⟨f0, f1, f2⟩ := bz.free3
    obtain ⟨z0, z1, z2⟩ := bz.three'
    obtain ⟨y0, y1, y2⟩ := (bz.set012 (.int .i64 (4)) (.int .i64 (0)) (.slice (some ⟨w2.heap.size + 1, 0, none⟩) 1 1)).three'
    have HF := (show Hid _ from pl_fin (p := p) (m := 61 + 2) (b := 14) (t := PT.n1 4 0 (PT.n1 4 0 t)) (W := _) kx (show ((0 : Int) ≤ 0 ∧ (0 : Int) ≤ 99) ∧ ((0 : Int) ≤ 0 ∧ (0 : Int) ≤ 99) ∧ t.sm from ⟨by omega, by omega, hsm⟩) (show (0 : Int) ≤ 14 by omega) hg hs (hr3.keepb (bAlloc (bAlloc (Below.refl _ _) _) _)) (((hx01.trans hx13).alloc _).alloc _) (by omega) (by omega))
    go_wp2_with fail
    refine bodyPost_ret (v := pl (4) (0) (.slice (some ⟨w2.heap.size + 1, 0, none⟩) 1 1)) (by simp [results, Tryd.results11, go_sem, y0, y1, y2]; try first | rfl | exact ⟨rfl, rfl⟩) rfl ?_
    exact HF.out
  · obtain ⟨o0, o1, o2⟩ := b33.three'
    have k00 : (k == 0) = false := by simp; omega
    have k01 : (k == 1) = false := by simp; omega
    have k02 : (k == 2) = false := by simp; omega
    have k03 : (k == 3) = false := by simp; omega
    have kd3 := kd.keepx hx13 (by omega)
    have bz := (br3)
    obtain ⟨f0, f1, f2⟩ := bz.free3
    obtain ⟨z0, z1, z2⟩ := bz.three'
    obtain ⟨y0, y1, y2⟩ := (bz.set012 (.int .i64 (t.k)) (.int .i64 (t.n)) (.slice a i c)).three'
    have HF := (show Hid _ from pl_fin (p := p) (m := 61 + 2) (b := 14) (t := t) (W := _) kd3 hsm (by omega) hg hs hr3 (hx01.trans hx13) (by omega) (by omega))
    go_wp2_with fail
    refine bodyPost_ret (v := pl (t.k) (t.n) (.slice a i c)) (by simp [results, Tryd.results11, go_sem, y0, y1, y2]; try first | rfl | exact ⟨rfl, rfl⟩) rfl ?_
    exact HF.out
end Go.Proofs.YtljbogiecnhgmaaDoor
