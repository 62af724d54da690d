/- What the drawing for TimeJoin and TimeMeet answers: contracts. -/
import Derived.Test.YtakkgcmkefhmjaaDraw3
namespace Go.Proofs.Ytakkgcmkefhmjaa
open Go.RowKit
set_option maxHeartbeats 1000000 in
theorem drawJoin_any (a : Option Addr) (len cap : Nat) (w : World) (h : Src w (.slice a len cap) len) :
    Calls Try.prog 11 #[.slice a len cap] w fun e w' => ∃ s1 s2 t1 t2 : Int, e = .returned (.tuple #[tv s1 s2, tv t1 t2]) ∧ Below w.heap.size w w' := by
  have b1 : Bk ((w.alloc (.cells #[.int .i64 0, .int .i64 0] 24)).alloc (.cells #[.int .i64 0, .int .i64 0] 24)) w.heap.size #[.int .i64 0, .int .i64 0] 24 := (Bk.new _ _ rfl).alloc _
  have b2 : Bk ((w.alloc (.cells #[.int .i64 0, .int .i64 0] 24)).alloc (.cells #[.int .i64 0, .int .i64 0] 24)) (w.heap.size + 1) #[.int .i64 0, .int .i64 0] 24 := Bk.new _ _ (by simp)
  have hb0 : Below w.heap.size w ((w.alloc (.cells #[.int .i64 0, .int .i64 0] 24)).alloc (.cells #[.int .i64 0, .int .i64 0] 24)) := bAlloc (bAlloc (Below.refl _ _) _) _
  go_enter Try.func11, Try.ntmps11
  go_wp2_with fail
  refine (drawLess_any _ _ _ _ (h.keep hb0)).mono ?_
  rintro e w1 ⟨x1, x2, y1, y2, rfl, hbw⟩
  have c1 := b1.keep hbw
  have c2 := b2.keep hbw
  have hb1 := bStep hb0 hbw
  obtain ⟨p0, p1, f0, f1⟩ := c1.two
  obtain ⟨q0, q1, f2, f3⟩ := c2.two
  have e1 := ((c1.set01 (.int .i64 x1) (.int .i64 x2)).apart (p := ⟨w.heap.size + 1, 0, none⟩) (by simp) (.int .i64 y1)).apart (p := ⟨w.heap.size + 1, 1, none⟩) (by simp) (.int .i64 y2)
  have e2 := ((c2.apart (p := ⟨w.heap.size, 0, none⟩) (by simp) (.int .i64 x1)).apart (p := ⟨w.heap.size, 1, none⟩) (by simp) (.int .i64 x2)).set01 (.int .i64 y1) (.int .i64 y2)
  have d1 := c1.set01 (.int .i64 x1) (.int .i64 x2)
  have d2 := (c2.apart (p := ⟨w.heap.size, 0, none⟩) (by simp) (.int .i64 x1)).apart (p := ⟨w.heap.size, 1, none⟩) (by simp) (.int .i64 x2)
  obtain ⟨m0, m1, m2, m3⟩ := d2.two
  go_wp2_with fail
  obtain ⟨r0, r1, _, _⟩ := e1.two
  obtain ⟨r2, r3, _, _⟩ := e2.two
  refine bodyPost_ret (by simp [results, Try.results11, go_sem, r0, r1, r2, r3]; try rfl) rfl ?_
  refine ⟨_, _, _, _, rfl, ?_⟩
  exact (((hb1.setCell (by simp) _).setCell (by simp) _).setCell (by simp) _).setCell (by simp) _
set_option maxHeartbeats 1000000 in
theorem drawMeet_any (a : Option Addr) (len cap : Nat) (w : World) (h : Src w (.slice a len cap) len) :
    Calls Try.prog 18 #[.slice a len cap] w fun e w' => ∃ s1 s2 t1 t2 : Int, e = .returned (.tuple #[tv s1 s2, tv t1 t2]) ∧ Below w.heap.size w w' := by
  have b1 : Bk ((w.alloc (.cells #[.int .i64 0, .int .i64 0] 24)).alloc (.cells #[.int .i64 0, .int .i64 0] 24)) w.heap.size #[.int .i64 0, .int .i64 0] 24 := (Bk.new _ _ rfl).alloc _
  have b2 : Bk ((w.alloc (.cells #[.int .i64 0, .int .i64 0] 24)).alloc (.cells #[.int .i64 0, .int .i64 0] 24)) (w.heap.size + 1) #[.int .i64 0, .int .i64 0] 24 := Bk.new _ _ (by simp)
  have hb0 : Below w.heap.size w ((w.alloc (.cells #[.int .i64 0, .int .i64 0] 24)).alloc (.cells #[.int .i64 0, .int .i64 0] 24)) := bAlloc (bAlloc (Below.refl _ _) _) _
  go_enter Try.func18, Try.ntmps18
  go_wp2_with fail
  refine (drawLess_any _ _ _ _ (h.keep hb0)).mono ?_
  rintro e w1 ⟨x1, x2, y1, y2, rfl, hbw⟩
  have c1 := b1.keep hbw
  have c2 := b2.keep hbw
  have hb1 := bStep hb0 hbw
  obtain ⟨p0, p1, f0, f1⟩ := c1.two
  obtain ⟨q0, q1, f2, f3⟩ := c2.two
  have e1 := ((c1.set01 (.int .i64 x1) (.int .i64 x2)).apart (p := ⟨w.heap.size + 1, 0, none⟩) (by simp) (.int .i64 y1)).apart (p := ⟨w.heap.size + 1, 1, none⟩) (by simp) (.int .i64 y2)
  have e2 := ((c2.apart (p := ⟨w.heap.size, 0, none⟩) (by simp) (.int .i64 x1)).apart (p := ⟨w.heap.size, 1, none⟩) (by simp) (.int .i64 x2)).set01 (.int .i64 y1) (.int .i64 y2)
  have d1 := c1.set01 (.int .i64 x1) (.int .i64 x2)
  have d2 := (c2.apart (p := ⟨w.heap.size, 0, none⟩) (by simp) (.int .i64 x1)).apart (p := ⟨w.heap.size, 1, none⟩) (by simp) (.int .i64 x2)
  obtain ⟨m0, m1, m2, m3⟩ := d2.two
  go_wp2_with fail
  obtain ⟨r0, r1, _, _⟩ := e1.two
  obtain ⟨r2, r3, _, _⟩ := e2.two
  refine bodyPost_ret (by simp [results, Try.results18, go_sem, r0, r1, r2, r3]; try rfl) rfl ?_
  refine ⟨_, _, _, _, rfl, ?_⟩
  exact (((hb1.setCell (by simp) _).setCell (by simp) _).setCell (by simp) _).setCell (by simp) _
end Go.Proofs.Ytakkgcmkefhmjaa
