/- LinesPlan of the model: the contract. -/
import Derived.Test.YtfofchgcbdbikaaDoorLq3
namespace Go.Proofs.YtfofchgcbdbikaaDoor
open Go.RowKit Go.Shelf

theorem l41Plan_any : ∀ (d : Nat) {u w : World} {v : Value} {ws : List By}, d ≤ 4 → (∀ x ∈ ws, x.length ≤ 100000) → Below u.heap.size u w → Wss u v ws → Calls Tryd.prog 32 #[v, .int .i64 (d : Int)] w (L41Post u d ws w)
  | 0, _, _, _, _, h4, _, _, hv => l41Plan_no hv (.inl rfl) h4
  | d + 1, _, _, _, [], h4, _, _, hv => l41Plan_no hv (.inr rfl) h4
  | d + 1, u, w, _, x :: ws, h4, hx, hu, hv => l41Plan_some (by omega) (hx x (by simp)) hu hv fun W v' ws' hs hW hv' => l41Plan_any d (by omega) (fun y hy => hx y (List.mem_cons_of_mem _ (hs y hy))) hW hv'
theorem split_short (c : UInt8) : ∀ (s : By), ∀ x ∈ splitB c s, x.length ≤ s.length
  | [], x, h => by
    simp only [splitB, List.mem_singleton] at h
    subst h; simp
  | y :: s, x, h => by
    have ih := split_short c s
    simp only [splitB] at h
    split at h
    · rcases List.mem_cons.1 h with rfl | h
      · simp
      · have := ih x h; simp; omega
    · split at h
      · rename_i w ws e
        rcases List.mem_cons.1 h with rfl | h
        · have := ih w (by rw [e]; simp); simp; omega
        · have := ih x (by rw [e]; exact List.mem_cons_of_mem _ h); simp; omega
      · simp only [List.mem_singleton] at h
        subst h; simp
/-- What LinesPlan of the model answers. -/
def LinesPostS (s : By) (w : World) (e : Ending) (w' : World) : Prop :=
  ((∃ t a n c, linesS s = some t ∧ e = .returned (.tuple #[pl t.k t.n (.slice a n c), .bool true]) ∧ KdP (fun g => w.heap.size ≤ g) w' t (.slice a n c)) ∨ (linesS s = none ∧ e = .returned (.tuple #[pl 0 0 (.slice none 0 0), .bool false]))) ∧ Below w.heap.size w w'
set_option maxRecDepth 100000 in
set_option maxHeartbeats 4000000 in
theorem specLinesPlan_any (s : By) (w : World) : Calls Tryd.prog 13 #[.string (baS s)] w (LinesPostS s w) := by
  have bR : Bk (w.alloc (.cells #[.int .i64 0, .int .i64 0, .slice none 0 0] 25)) w.heap.size #[.int .i64 0, .int .i64 0, .slice none 0 0] 25 := Bk.new _ _ rfl
  have hb0 : Below w.heap.size w (w.alloc (.cells #[.int .i64 0, .int .i64 0, .slice none 0 0] 25)) := bAlloc (Below.refl _ _) _
  rcases Nat.lt_or_ge 2000 s.length with hl | hl
  · have hz : ((2000 : Int) < ((baS s).size : Int)) := by rw [baS_size]; omega
    have HX : Hid (linesS s = none) := by show linesS s = none; unfold linesS; rw [if_pos hl]
    have HB := (show Hid _ from hb0)
    clear bR hb0
    go_enter Tryd.func13, Tryd.ntmps13
    go_wp2_with fail
    refine bodyPost_ret (v := .tuple #[pl 0 0 (.slice none 0 0), .bool false]) (by simp [results, Tryd.results13, go_sem]; try rfl) rfl ?_
    exact ⟨.inr ⟨HX.out, rfl⟩, HB.out⟩
  · have hz : ¬ ((2000 : Int) < ((baS s).size : Int)) := by rw [baS_size]; omega
    have HI : Hid (linesS s = if s = [] ∨ planText (l41T 4 (splitB 32 s)).1 ≠ s then none else some (l41T 4 (splitB 32 s)).1) := by show linesS s = _; unfold linesS; rw [if_neg (by omega)]
    have HSH : Hid (∀ x ∈ splitB 32 s, x.length ≤ 100000) := fun x hx => by have := split_short 32 s x hx; omega
    go_enter Tryd.func13, Tryd.ntmps13
    go_wp2_with fail
    generalize (w.alloc (.cells #[.int .i64 0, .int .i64 0, .slice none 0 0] 25)) = W0 at *
    refine (l41Split_any s (by omega) W0).mono ?_
    rintro e w1 ⟨v, rfl, hv, hb1⟩
    have bR1 := bR.keep hb1
    have hbw1 := bStep hb0 hb1
    clear bR hb0 hb1 hz
    go_wp2_with fail
    refine (l41Plan_any 4 (by omega) HSH.out (Below.refl _ _) hv).mono ?_
    rintro e w2 ⟨⟨t, r, ta, tn, tc, v2, hr, rfl, hkp, hv2⟩, hb2⟩
    have hbw2 := bStep hbw1 hb2
    have hs1 := hbw1.size
    have hlt := bR1.lt
    have hlt2 := (bR1.keep hb2).lt
    have bP : Bk (w2.alloc (.cells #[.int .i64 t.k, .int .i64 t.n, .slice ta tn tc] 25)) w2.heap.size #[.int .i64 t.k, .int .i64 t.n, .slice ta tn tc] 25 := Bk.new _ _ rfl
    have bR3 := (bR1.keep hb2).alloc (.cells #[.int .i64 t.k, .int .i64 t.n, .slice ta tn tc] 25)
    have hbw3 := bAlloc hbw2 (.cells #[.int .i64 t.k, .int .i64 t.n, .slice ta tn tc] 25)
    have hkp3 : KdP (fun g => w1.heap.size ≤ g) (w2.alloc (.cells #[.int .i64 t.k, .int .i64 t.n, .slice ta tn tc] 25)) t (.slice ta tn tc) := hkp.move fun x hx hxl => ⟨hx, (bAlloc (Below.refl w2.heap.size w2) _).block x hxl⟩
    have hne : w2.heap.size ≠ w.heap.size := by omega
    obtain ⟨va, vc, rfl, -⟩ := hv2
    rw [hr] at HI
    clear hkp bR1 hbw1 hbw2 hb2 hr
    go_upto_region 4 with fail
    generalize (w2.alloc (.cells #[.int .i64 t.k, .int .i64 t.n, .slice ta tn tc] 25)) = W3 at *
    generalize w2.heap.size = b4 at *
    by_cases hs : s = []
    · have hse : (s == []) = true := by simp [hs]
      have HX : Hid (linesS s = none) := by show linesS s = none; rw [HI.out, if_pos (.inl hs)]
      obtain ⟨⟨r0, r1, r2⟩, f0, f1, f2, ⟨y0, y1, y2⟩, hb⟩ := bx_zero bR3 hbw3
      have HB := (show Hid _ from hb)
      clear hb bR3 hbw3 hkp3 bP hs
      go_wp2_with fail
      refine bodyPost_ret (v := .tuple #[pl 0 0 (.slice none 0 0), .bool false]) (by simp [results, Tryd.results13, go_sem, y0, y1, y2]; try rfl) rfl ?_
      exact ⟨.inr ⟨HX.out, rfl⟩, HB.out⟩
    · have hse : (s == []) = false := by simpa using hs
      obtain ⟨p0, p1, p2⟩ := bP.three'
      have HSP := (show Hid _ from specPlanText_any hkp3.kd)
      have HNS := (show Hid (s ≠ []) from hs)
      clear hs
      go_wp2_with fail
      refine Calls.mono HSP.out ?_
      rintro e w4 ⟨rfl, hb4⟩
      have bR4 := bR3.keep hb4
      have hbw4 := bStep hbw3 hb4
      have bP4 := bP.keep hb4
      have hkp4 : KdP (fun g => w1.heap.size ≤ g) w4 t (.slice ta tn tc) := hkp3.move fun x hx hxl => ⟨hx, hb4.block x hxl⟩
      clear p0 p1 p2 bP bR3 hbw3 hkp3 hb4 HSP
      by_cases hq : planText t = s
      · have hqe : (planText t == s) = true := by simpa using hq
        have HX : Hid (linesS s = some t) := by
          show linesS s = some t
          rw [HI.out, if_neg]
          rintro (h | h)
          · exact HNS.out h
          · exact h hq
        obtain ⟨p0, p1, p2⟩ := bP4.three'
        obtain ⟨r0, r1, r2⟩ := bR4.three'
        have f0 := bR4.free 0
        have g1 := bR4.set 0 (.int .i64 t.k)
        have f1 := g1.free 1
        have g2 := g1.set 1 (.int .i64 t.n)
        have f2 := g2.free 2
        have g3 : Bk (((w4.setCell ⟨w.heap.size, 0, none⟩ (.int .i64 t.k)).setCell ⟨w.heap.size, 1, none⟩ (.int .i64 t.n)).setCell ⟨w.heap.size, 2, none⟩ (.slice ta tn tc)) w.heap.size #[.int .i64 t.k, .int .i64 t.n, .slice ta tn tc] 25 := g2.set 2 _
        obtain ⟨y0, y1, y2⟩ := g3.three'
        have HB : Hid (Below w.heap.size w (((w4.setCell ⟨w.heap.size, 0, none⟩ (.int .i64 t.k)).setCell ⟨w.heap.size, 1, none⟩ (.int .i64 t.n)).setCell ⟨w.heap.size, 2, none⟩ (.slice ta tn tc))) := ((hbw4.setCell (by simp) _).setCell (by simp) _).setCell (by simp) _
        have hset : ∀ x, x ≠ w.heap.size → (((w4.setCell ⟨w.heap.size, 0, none⟩ (.int .i64 t.k)).setCell ⟨w.heap.size, 1, none⟩ (.int .i64 t.n)).setCell ⟨w.heap.size, 2, none⟩ (.slice ta tn tc)).heap[x]? = w4.heap[x]? := fun x hx => ((Below.heap_setCell _ _ _ _ hx).trans (Below.heap_setCell _ _ _ _ hx)).trans (Below.heap_setCell _ _ _ _ hx)
        have HKP := (show Hid _ from hkp4.move (q := fun g => w.heap.size ≤ g) fun x hx _ => ⟨by omega, hset x (by omega)⟩)
        clear g1 g2 g3 hset bR4 hbw4 hkp4 hq bP4
        go_wp2_with fail
        refine bodyPost_ret (v := .tuple #[pl t.k t.n (.slice ta tn tc), .bool true]) (by simp [results, Tryd.results13, go_sem, y0, y1, y2]; try rfl) rfl ?_
        exact ⟨.inl ⟨t, ta, tn, tc, HX.out, rfl, HKP.out⟩, HB.out⟩
      · have hqe : (planText t == s) = false := by simpa using hq
        have HX : Hid (linesS s = none) := by show linesS s = none; rw [HI.out, if_pos (.inr hq)]
        obtain ⟨⟨r0, r1, r2⟩, f0, f1, f2, ⟨y0, y1, y2⟩, hb⟩ := bx_zero bR4 hbw4
        have HB := (show Hid _ from hb)
        clear hb bR4 hbw4 hkp4 bP4 hq
        go_wp2_with fail
        refine bodyPost_ret (v := .tuple #[pl 0 0 (.slice none 0 0), .bool false]) (by simp [results, Tryd.results13, go_sem, y0, y1, y2]; try rfl) rfl ?_
        exact ⟨.inr ⟨HX.out, rfl⟩, HB.out⟩
end Go.Proofs.YtfofchgcbdbikaaDoor
