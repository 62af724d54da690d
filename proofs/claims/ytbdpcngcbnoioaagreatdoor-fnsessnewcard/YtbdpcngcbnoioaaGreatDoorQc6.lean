import Derived.Test.YtbdpcngcbnoioaaGreatDoorGpb
namespace Go.Proofs.YtbdpcngcbnoioaaGreatDoor
open Go.RowKit
set_option maxRecDepth 100000 in
set_option maxHeartbeats 4000000 in
theorem drawSessNew_any (a : Option Addr) (len cap : Nat) (w : World) (h : Src w (.slice a len cap) len) :
    Calls Tryz.prog 37 #[.slice a len cap] w fun e w' => ∃ (t : PT) (a : Option Addr) (i c : Nat), e = .returned (pl t.k t.n (.slice a i c)) ∧ t.sm ∧ KdS w.heap.size w' t (.slice a i c) ∧ Below w.heap.size w w' := by
  have hb0 : Below w.heap.size w (w.alloc (.cells #[.int .i64 0, .int .i64 0, .slice none 0 0] 25)) := bAlloc (Below.refl _ _) _
  have br : Bk (w.alloc (.cells #[.int .i64 0, .int .i64 0, .slice none 0 0] 25)) w.heap.size #[.int .i64 0, .int .i64 0, .slice none 0 0] 25 := Bk.new _ _ rfl
  have HS := (show Hid _ from h.keep hb0)
  have hz0 : (w.alloc (.cells #[.int .i64 0, .int .i64 0, .slice none 0 0] 25)).heap.size = w.heap.size + 1 := by simp
  clear h
  go_enter Tryz.func37, Tryz.ntmps37
  go_wp2_with fail
  refine (l6Open_any a len cap _ HS.out).mono ?_
  rintro e w1 ⟨he, ⟨v, n, hr1⟩, hb1⟩
  have br1 := br.keep hb1
  have hbw1 := bStep hb0 hb1
  have hz1 := hb1.size
  rw [hz0] at he hr1 hz1
  subst he
  clear br hb0 HS hb1 hz0
  go_wp2_with fail
  refine (l71Bent_any hr1 (by omega) (by omega)).mono ?_
  rintro e w2 ⟨t, a2, i2, c2, rfl, hsm, _, kd, _, hx2⟩
  have br2 := br1.keepx hx2 (by omega)
  have hb2 := hx2.below hbw1 (by omega) (by omega)
  obtain ⟨f0, f1, f2⟩ := br2.free3
  obtain ⟨z0, z1, z2⟩ := br2.three'
  obtain ⟨y0, y1, y2⟩ := (br2.set012 (.int .i64 t.k) (.int .i64 t.n) (.slice a2 i2 c2)).three'
  have b3 : Bx w.heap.size w2 (set3 w2 w.heap.size (.int .i64 t.k) (.int .i64 t.n) (.slice a2 i2 c2)) := (((Bx.refl w.heap.size w2).setG (p := ⟨w.heap.size, 0, none⟩) rfl _).setG (p := ⟨w.heap.size, 1, none⟩) rfl _).setG (p := ⟨w.heap.size, 2, none⟩) rfl _
  have HK := (show Hid _ from (kd.keepx b3 (by omega)).less (B' := w.heap.size) (by omega))
  have HB := (show Hid _ from ((hb2.setCell (p := ⟨w.heap.size, 0, none⟩) (Nat.le_refl _) (.int .i64 t.k)).setCell (p := ⟨w.heap.size, 1, none⟩) (Nat.le_refl _) (.int .i64 t.n)).setCell (p := ⟨w.heap.size, 2, none⟩) (Nat.le_refl _) (.slice a2 i2 c2))
  clear kd b3
  go_wp2_with fail
  refine bodyPost_ret (v := pl t.k t.n (.slice a2 i2 c2)) (by simp [results, Tryz.results37, go_sem, y0, y1, y2]; try first | rfl | exact ⟨rfl, rfl⟩) rfl ?_
  exact ⟨t, a2, i2, c2, rfl, hsm, HK.out, HB.out⟩
end Go.Proofs.YtbdpcngcbnoioaaGreatDoor
