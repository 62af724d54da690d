/- Reading a plan's words, by the program: the contract; LinesPlan of the program. -/
import Derived.Test.YtfofchgcbdbikaaDoorLx8
namespace Go.Proofs.YtfofchgcbdbikaaDoor
open Go.RowKit Go.Shelf

set_option maxRecDepth 100000 in
set_option maxHeartbeats 4000000 in
theorem readPlanQ_no {d : Nat} {ws : List By} {a : Option Addr} {n c : Nat} {u w : World} {deep : Int} (h : 4 < deep ∨ (deep ≤ 4 ∧ n = 0)) (hn : readW d ws = none) :
    Calls Tryd.prog 27 #[.slice a n c, .int .i64 deep] w (ReadPostQ u d ws w) := by
  have HX : Hid (readW d ws = none) := hn
  have HB : Hid (Below w.heap.size w (w.alloc (.cells #[.int .i64 0, .int .i64 0, .slice none 0 0] 25))) := bAlloc (Below.refl _ _) _
  clear hn
  rcases h with h | ⟨h, rfl⟩
  all_goals
    go_enter Tryd.func27, Tryd.ntmps27
    go_wp2_with fail
    refine bodyPost_ret (v := .tuple #[pl 0 0 (.slice none 0 0), .slice none 0 0, .bool false]) (by simp [results, Tryd.results27, go_sem]; try rfl) rfl ?_
    exact ⟨.inr ⟨HX.out, rfl⟩, HB.out⟩
set_option maxRecDepth 100000 in
set_option maxHeartbeats 4000000 in
theorem readPlanQ_word {d : Nat} {x : By} {ws : List By} {v : Value} {w : World} {deep : Int} {u : World} (h4 : deep ≤ 4) (hp : lookW x = none) (hu : Below u.heap.size u w) (h : Wss u v (x :: ws)) :
    Calls Tryd.prog 27 #[v, .int .i64 deep] w (ReadPostQ u (d + 1) (x :: ws) w) := by
  have HP := (show Hid _ from hp)
  have HX : Hid (readW (d + 1) (x :: ws) = none) := by show readW _ _ = none; simp [readW, hp]
  have h5 : ¬ 4 < deep := by omega
  obtain ⟨a, c, rfl, h⟩ : ∃ a c, v = .slice a (ws.length + 1) c ∧ Wss u (.slice a (ws.length + 1) c) (x :: ws) := by
    obtain ⟨a, c, rfl, h1⟩ := h
    exact ⟨a, c, rfl, a, c, rfl, h1⟩
  obtain ⟨g, off, rfl, -, hc1, hc2, hcell, htail⟩ := h.tail
  have bR : Bk (w.alloc (.cells #[.int .i64 0, .int .i64 0, .slice none 0 0] 25)) w.heap.size #[.int .i64 0, .int .i64 0, .slice none 0 0] 25 := Bk.new _ _ rfl
  have hb0 : Below w.heap.size w (w.alloc (.cells #[.int .i64 0, .int .i64 0, .slice none 0 0] 25)) := bAlloc (Below.refl _ _) _
  have hcell0 := cell_below hb0 (cell_below hu hcell)
  have hz : ((ws.length : Int) + 1 == 0) = false := by simp; omega
  clear hp h htail hcell
  go_enter Tryd.func27, Tryd.ntmps27
  go_wp2_with fail
  generalize (w.alloc (.cells #[.int .i64 0, .int .i64 0, .slice none 0 0] 25)) = W0 at *
  refine (planOfWord_any x _).mono ?_
  rintro e w1 ⟨hor, hb1⟩
  rcases hor with ⟨p', hp', rfl⟩ | ⟨-, rfl⟩
  · rw [HP.out] at hp'; cases hp'
  · obtain ⟨⟨r0, r1, r2⟩, f0, f1, f2, ⟨y0, y1, y2⟩, hb⟩ := bx_zero ((bR.keep hb1).alloc (.cells #[.int .i64 0, .int .i64 0, .slice none 0 0] 25)) (bAlloc (bStep hb0 hb1) (.cells #[.int .i64 0, .int .i64 0, .slice none 0 0] 25))
    have HB := (show Hid _ from hb)
    clear hb hb1 hb0 bR hcell0
    go_wp2_with fail
    refine bodyPost_ret (v := .tuple #[pl 0 0 (.slice none 0 0), .slice none 0 0, .bool false]) (by simp [results, Tryd.results27, go_sem, y0, y1, y2]; try rfl) rfl ?_
    exact ⟨.inr ⟨HX.out, rfl⟩, HB.out⟩
theorem readPlanQ_any : ∀ (d : Nat) {u w : World} {v : Value} {ws : List By} (deep : Int), d ≤ 4 → deep + d = 5 → Below u.heap.size u w → Wss u v ws → Calls Tryd.prog 27 #[v, .int .i64 deep] w (ReadPostQ u d ws w)
  | 0, _, _, _, _, deep, _, hd, _, hv => by
    obtain ⟨a, c, rfl, _⟩ := hv
    exact readPlanQ_no (.inl (by omega)) rfl
  | d + 1, _, _, _, [], deep, h4, hd, _, hv => by
    obtain ⟨a, c, rfl, _⟩ := hv
    exact readPlanQ_no (.inr ⟨by omega, rfl⟩) rfl
  | d + 1, u, w, _, x :: ws, deep, h4, hd, hu, hv => by
    cases h : lookW x with
    | none => exact readPlanQ_word (by omega) h hu hv
    | some p => exact readPlanQ_some (by omega) (by omega) h hu hv fun W v' ws' hW hv' => readPlanQ_any d (deep + 1) (by omega) (by omega) hW hv'
/-- What LinesPlan answers. -/
def LinesPostQ (s : By) (w : World) (e : Ending) (w' : World) : Prop :=
  ((∃ t a n c, linesI s = some t ∧ e = .returned (.tuple #[pl t.k t.n (.slice a n c), .bool true]) ∧ KdQ (fun g => w.heap.size ≤ g) w' t (.slice a n c)) ∨ (linesI s = none ∧ e = .returned (.tuple #[pl 0 0 (.slice none 0 0), .bool false]))) ∧ Below w.heap.size w w'
set_option maxRecDepth 100000 in
set_option maxHeartbeats 4000000 in
theorem implLinesPlanQ_any (s : By) (m : Int) (w : World) (hm : w.cell? ⟨1, 0, none⟩ = some (.int .i64 m)) :
    Calls Tryd.prog 10 #[.string (baS s)] w (LinesPostQ s w) := by
  have bR : Bk (w.alloc (.cells #[.int .i64 0, .int .i64 0, .slice none 0 0] 25)) w.heap.size #[.int .i64 0, .int .i64 0, .slice none 0 0] 25 := Bk.new _ _ rfl
  have hb0 : Below w.heap.size w (w.alloc (.cells #[.int .i64 0, .int .i64 0, .slice none 0 0] 25)) := bAlloc (Below.refl _ _) _
  rcases Nat.lt_or_ge 2000 s.length with hl | hl
  · have hz : ((2000 : Int) < ((baS s).size : Int)) := by rw [baS_size]; omega
    have HX : Hid (linesI s = none) := by show linesI s = none; unfold linesI; rw [if_pos hl]
    have HB := (show Hid _ from hb0)
    clear hm bR hb0
    go_enter Tryd.func10, Tryd.ntmps10
    go_wp2_with fail
    refine bodyPost_ret (v := .tuple #[pl 0 0 (.slice none 0 0), .bool false]) (by simp [results, Tryd.results10, go_sem]; try rfl) rfl ?_
    exact ⟨.inr ⟨HX.out, rfl⟩, HB.out⟩
  · have hz : ¬ ((2000 : Int) < ((baS s).size : Int)) := by rw [baS_size]; omega
    have HI : Hid (linesI s = (readW 4 (splitB 32 s)).bind fun x => if x.2 = [] then some x.1 else none) := by show linesI s = _; unfold linesI; rw [if_neg (by omega)]
    have HM := cell_below hb0 hm
    clear hm
    go_enter Tryd.func10, Tryd.ntmps10
    go_wp2_with fail
    generalize (w.alloc (.cells #[.int .i64 0, .int .i64 0, .slice none 0 0] 25)) = W0 at *
    refine (split_any 32 s m W0 (by omega) HM).mono ?_
    rintro e w1 ⟨v, rfl, hv, hb1⟩
    have bR1 := bR.keep hb1
    have hbw1 := bStep hb0 hb1
    clear HM bR hb0 hb1 hz
    go_wp2_with fail
    refine (readPlanQ_any 4 1 (by omega) (by omega) (Below.refl _ _) hv).mono ?_
    rintro e w2 ⟨hor, hb2⟩
    have hbw2 := bStep hbw1 hb2
    have hs1 := hbw1.size
    have hlt := bR1.lt
    rcases hor with ⟨t, r, ta, tn, tc, v2, hr, rfl, hkp, hv2⟩ | ⟨hr, rfl⟩
    · obtain ⟨va, vc, rfl, -⟩ := hv2
      have bP : Bk (w2.alloc (.cells #[.int .i64 t.k, .int .i64 t.n, .slice ta tn tc] 25)) w2.heap.size #[.int .i64 t.k, .int .i64 t.n, .slice ta tn tc] 25 := Bk.new _ _ rfl
      have bR3 := (bR1.keep hb2).alloc (.cells #[.int .i64 t.k, .int .i64 t.n, .slice ta tn tc] 25)
      have hbw3 := bAlloc hbw2 (.cells #[.int .i64 t.k, .int .i64 t.n, .slice ta tn tc] 25)
      have hlt2 := (bR1.keep hb2).lt
      have hblk : ∀ x, x < w2.heap.size → (w2.alloc (.cells #[.int .i64 t.k, .int .i64 t.n, .slice ta tn tc] 25)).heap[x]? = w2.heap[x]? := fun x hx => (bAlloc (Below.refl w2.heap.size w2) _).block x hx
      have HBL := (show Hid _ from hblk)
      have hne : w2.heap.size ≠ w.heap.size := by omega
      obtain ⟨p0, p1, p2⟩ := bP.three'
      obtain ⟨r0, r1, r2⟩ := bR3.three'
      clear hblk bP bR1 hbw1 hbw2 hb2
      go_upto_region 4 with fail
      generalize (w2.alloc (.cells #[.int .i64 t.k, .int .i64 t.n, .slice ta tn tc] 25)) = W3 at *
      generalize hb4 : w2.heap.size = b4 at *
      have HE : Hid (w2.heap.size = b4) := hb4
      clear hb4
      by_cases hrr : r = []
      · subst hrr
        have HX : Hid (linesI s = some t) := by show linesI s = some t; rw [HI.out, hr]; simp
        have f0 := bR3.free 0
        have g1 := bR3.set 0 (.int .i64 t.k)
        have f1 := g1.free 1
        have g2 := g1.set 1 (.int .i64 t.n)
        have f2 := g2.free 2
        have g3 : Bk (((W3.setCell ⟨w.heap.size, 0, none⟩ (.int .i64 t.k)).setCell ⟨w.heap.size, 1, none⟩ (.int .i64 t.n)).setCell ⟨w.heap.size, 2, none⟩ (.slice ta tn tc)) w.heap.size #[.int .i64 t.k, .int .i64 t.n, .slice ta tn tc] 25 := g2.set 2 _
        obtain ⟨y0, y1, y2⟩ := g3.three'
        have HB : Hid (Below w.heap.size w (((W3.setCell ⟨w.heap.size, 0, none⟩ (.int .i64 t.k)).setCell ⟨w.heap.size, 1, none⟩ (.int .i64 t.n)).setCell ⟨w.heap.size, 2, none⟩ (.slice ta tn tc))) := ((hbw3.setCell (by simp) _).setCell (by simp) _).setCell (by simp) _
        have hset : ∀ x, x ≠ w.heap.size → x < b4 → (((W3.setCell ⟨w.heap.size, 0, none⟩ (.int .i64 t.k)).setCell ⟨w.heap.size, 1, none⟩ (.int .i64 t.n)).setCell ⟨w.heap.size, 2, none⟩ (.slice ta tn tc)).heap[x]? = w2.heap[x]? := fun x hx hxl => (((Below.heap_setCell _ _ _ _ hx).trans (Below.heap_setCell _ _ _ _ hx)).trans (Below.heap_setCell _ _ _ _ hx)).trans (HBL.out x hxl)
        have HKP := (show Hid _ from hkp.move (q := fun g => w.heap.size ≤ g) fun x hx hxl => ⟨by omega, hset x (by omega) (by have := HE.out; omega)⟩)
        clear g1 g2 g3 hset bR3 hbw3 hkp hr
        go_wp2_with fail
        refine bodyPost_ret (v := .tuple #[pl t.k t.n (.slice ta tn tc), .bool true]) (by simp [results, Tryd.results10, go_sem, y0, y1, y2]; try rfl) rfl ?_
        exact ⟨.inl ⟨t, ta, tn, tc, HX.out, rfl, HKP.out⟩, HB.out⟩
      · have HX : Hid (linesI s = none) := by show linesI s = none; rw [HI.out, hr]; simp [hrr]
        have hlen : (0 : Int) < (r.length : Int) := by have := List.length_pos_iff.2 hrr; omega
        obtain ⟨-, f0, f1, f2, ⟨y0, y1, y2⟩, hb⟩ := bx_zero bR3 hbw3
        have HB := (show Hid _ from hb)
        clear hb bR3 hbw3 hkp hr hrr
        go_wp2_with fail
        refine bodyPost_ret (v := .tuple #[pl 0 0 (.slice none 0 0), .bool false]) (by simp [results, Tryd.results10, go_sem, y0, y1, y2]; try rfl) rfl ?_
        exact ⟨.inr ⟨HX.out, rfl⟩, HB.out⟩
    · have HX : Hid (linesI s = none) := by show linesI s = none; rw [HI.out, hr]; rfl
      obtain ⟨⟨r0, r1, r2⟩, f0, f1, f2, ⟨y0, y1, y2⟩, hb⟩ := bx_zero ((bR1.keep hb2).alloc (.cells #[.int .i64 0, .int .i64 0, .slice none 0 0] 25)) (bAlloc hbw2 (.cells #[.int .i64 0, .int .i64 0, .slice none 0 0] 25))
      have HB := (show Hid _ from hb)
      clear hb bR1 hbw1 hbw2 hb2 hr
      go_wp2_with fail
      refine bodyPost_ret (v := .tuple #[pl 0 0 (.slice none 0 0), .bool false]) (by simp [results, Tryd.results10, go_sem, y0, y1, y2]; try rfl) rfl ?_
      exact ⟨.inr ⟨HX.out, rfl⟩, HB.out⟩
end Go.Proofs.YtfofchgcbdbikaaDoor
