/- SpineSince of the model: the contract. -/
import Derived.Test.YtjkojbafifbdgaaGreatZc1
import Derived.Test.YtjkojbafifbdgaaGreatZk5
namespace Go.Proofs.YtjkojbafifbdgaaGreat
open Go.RowKit Go.Shelf

theorem row_not_spine {w : World} {q : Nat} {c d : Array Value} (h : Bk w q c 74) (k : Bk w q d 26) : False := by
  unfold Bk at h k
  rw [h] at k
  cases k
theorem row_not_time {w : World} {q : Nat} {c d : Array Value} (h : Bk w q c 74) (k : Bk w q d 71) : False := by
  unfold Bk at h k
  rw [h] at k
  cases k
set_option maxRecDepth 100000 in
set_option maxHeartbeats 16000000 in
theorem specSpineSince_any (lv fv gv : Value) (L : List (List Rw)) (F f : List (Int × Int)) (w : World) (h : Spn w lv fv L F) (hv : Ts w gv f) :
    Calls Tryz.prog 75 #[spv lv fv, gv] w fun e w' => ∃ lv' fv' : Value, e = .returned (.tuple #[spv lv' fv', .bool (sinceB L F f)]) ∧ SpO w' w.heap.size lv' fv' (sinceL L F f) (sinceF L F f) ∧ Below w.heap.size w w' := by
  have HV := (show Hid (Ts w gv f) from hv)
  obtain ⟨aV, cV, rfl, hvc, hvm, hvn, hcells⟩ := hv
  unfold maxLen at hvm
  have HC := (show Hid _ from hcells)
  clear hcells
  have HS := (show Hid (Spn w lv fv L F) from h)
  obtain ⟨aL, cL, aF, cF, rfl, rfl⟩ := Spn.open h
  have bs0 : Bk ((w.alloc (.cells #[.slice aL L.length cL, .slice aF F.length cF] 26)).alloc (.cells #[.slice none 0 0, .slice none 0 0] 26)) w.heap.size #[.slice aL L.length cL, .slice aF F.length cF] 26 := (Bk.new _ _ rfl).alloc _
  have br0 : Bk ((w.alloc (.cells #[.slice aL L.length cL, .slice aF F.length cF] 26)).alloc (.cells #[.slice none 0 0, .slice none 0 0] 26)) (w.heap.size + 1) #[.slice none 0 0, .slice none 0 0] 26 := Bk.new (w := w.alloc _) _ _ (by simp)
  have hb0 : Below w.heap.size w ((w.alloc (.cells #[.slice aL L.length cL, .slice aF F.length cF] 26)).alloc (.cells #[.slice none 0 0, .slice none 0 0] 26)) := bAlloc (bAlloc (Below.refl _ _) _) _
  have hs0 : w.heap.size + 2 ≤ ((w.alloc (.cells #[.slice aL L.length cL, .slice aF F.length cF] 26)).alloc (.cells #[.slice none 0 0, .slice none 0 0] 26)).heap.size := by simp
  obtain ⟨s0, s1, _, _⟩ := bs0.two
  clear h
  cases hk : spokB L F
  · have HN := (show Hid _ from sinceB_no (f := f) (show sinceB L F f = false by simp [sinceB, hk]))
    go_enter Tryz.func75, Tryz.ntmps75
    go_wp2_with fail
    generalize ((w.alloc (.cells #[.slice aL L.length cL, .slice aF F.length cF] 26)).alloc (.cells #[.slice none 0 0, .slice none 0 0] 26)) = w0 at *
    refine (specSpineOk_eq hk (HS.out.keep hb0)).mono ?_
    rintro e w1 ⟨rfl, hb1⟩
    have hbw1 := bStep hb0 hb1
    have bs1 := bs0.keep hb1
    have br1 := br0.keep hb1
    have hs1 := Nat.le_trans hs0 hb1.size
    obtain ⟨p0, p1, _, _⟩ := bs1.two
    clear s0 s1 hb0 hb1 bs0 br0 hs0
    have q8 := (br1.set 0 (.slice none 0 0)).set 1 (.slice none 0 0)
    have q9 := br1.set 0 (.slice none 0 0)
    obtain ⟨x0, x1, g0, g1⟩ := br1.two
    obtain ⟨y0, y1, h0, h1⟩ := q9.two
    obtain ⟨t0, t1, _, _⟩ := q8.two
    have HB8 : Hid (Below w.heap.size w ((w1.setCell ⟨w.heap.size + 1, 0, none⟩ (.slice none 0 0)).setCell ⟨w.heap.size + 1, 1, none⟩ (.slice none 0 0))) := (hbw1.setCell (show w.heap.size ≤ w.heap.size + 1 by omega) _).setCell (show w.heap.size ≤ w.heap.size + 1 by omega) _
    clear q8 q9 br1 hbw1
    go_wp2_with fail
    refine bodyPost_ret (v := .tuple #[spv (.slice none 0 0) (.slice none 0 0), .bool false]) (by simp [results, Tryz.results75, go_sem, t0, t1]) rfl ?_
    exact ⟨_, _, by rw [HN.out.1], by rw [HN.out.2.1, HN.out.2.2]; exact SpO.nil _ _, HB8.out⟩
  cases hf : fokB f
  · have HN := (show Hid _ from sinceB_no (show sinceB L F f = false by simp [sinceB, hf]))
    go_enter Tryz.func75, Tryz.ntmps75
    go_wp2_with fail
    generalize ((w.alloc (.cells #[.slice aL L.length cL, .slice aF F.length cF] 26)).alloc (.cells #[.slice none 0 0, .slice none 0 0] 26)) = w0 at *
    refine (specSpineOk_eq hk (HS.out.keep hb0)).mono ?_
    rintro e w1 ⟨rfl, hb1⟩
    have hbw1 := bStep hb0 hb1
    have bs1 := bs0.keep hb1
    have br1 := br0.keep hb1
    have hs1 := Nat.le_trans hs0 hb1.size
    obtain ⟨p0, p1, _, _⟩ := bs1.two
    clear s0 s1 hb0 hb1 bs0 br0 hs0
    go_wp2_with fail
    refine (specFrontOk_eq hf (HV.out.keep hbw1)).mono ?_
    rintro e w2 ⟨rfl, hb2⟩
    have hbw2 := bStep hbw1 hb2
    have bs2 := bs1.keep hb2
    have br2 := br1.keep hb2
    obtain ⟨q0, q1, _, _⟩ := bs2.two
    have hs2 := Nat.le_trans hs1 hb2.size
    clear p0 p1 hbw1 hb2 bs1 br1 hs1
    have q8 := (br2.set 0 (.slice none 0 0)).set 1 (.slice none 0 0)
    have q9 := br2.set 0 (.slice none 0 0)
    obtain ⟨x0, x1, g0, g1⟩ := br2.two
    obtain ⟨y0, y1, h0, h1⟩ := q9.two
    obtain ⟨t0, t1, _, _⟩ := q8.two
    have HB8 : Hid (Below w.heap.size w ((w2.setCell ⟨w.heap.size + 1, 0, none⟩ (.slice none 0 0)).setCell ⟨w.heap.size + 1, 1, none⟩ (.slice none 0 0))) := (hbw2.setCell (show w.heap.size ≤ w.heap.size + 1 by omega) _).setCell (show w.heap.size ≤ w.heap.size + 1 by omega) _
    clear q8 q9 br2 hbw2
    go_wp2_with fail
    refine bodyPost_ret (v := .tuple #[spv (.slice none 0 0) (.slice none 0 0), .bool false]) (by simp [results, Tryz.results75, go_sem, t0, t1]) rfl ?_
    exact ⟨_, _, by rw [HN.out.1], by rw [HN.out.2.1, HN.out.2.2]; exact SpO.nil _ _, HB8.out⟩
  have hfl := fok_len hf
  by_cases hz : f.length = 0
  · have HN := (show Hid _ from sinceB_no (show sinceB L F f = false by simp [sinceB, hz]))
    have e0 : ((f.length : Int) == 0) = true := by simp [hz]
    clear hz
    go_enter Tryz.func75, Tryz.ntmps75
    go_wp2_with fail
    generalize ((w.alloc (.cells #[.slice aL L.length cL, .slice aF F.length cF] 26)).alloc (.cells #[.slice none 0 0, .slice none 0 0] 26)) = w0 at *
    refine (specSpineOk_eq hk (HS.out.keep hb0)).mono ?_
    rintro e w1 ⟨rfl, hb1⟩
    have hbw1 := bStep hb0 hb1
    have bs1 := bs0.keep hb1
    have br1 := br0.keep hb1
    have hs1 := Nat.le_trans hs0 hb1.size
    obtain ⟨p0, p1, _, _⟩ := bs1.two
    clear s0 s1 hb0 hb1 bs0 br0 hs0
    go_wp2_with fail
    refine (specFrontOk_eq hf (HV.out.keep hbw1)).mono ?_
    rintro e w2 ⟨rfl, hb2⟩
    have hbw2 := bStep hbw1 hb2
    have bs2 := bs1.keep hb2
    have br2 := br1.keep hb2
    obtain ⟨q0, q1, _, _⟩ := bs2.two
    have hs2 := Nat.le_trans hs1 hb2.size
    clear p0 p1 hbw1 hb2 bs1 br1 hs1
    have q8 := (br2.set 0 (.slice none 0 0)).set 1 (.slice none 0 0)
    have q9 := br2.set 0 (.slice none 0 0)
    obtain ⟨x0, x1, g0, g1⟩ := br2.two
    obtain ⟨y0, y1, h0, h1⟩ := q9.two
    obtain ⟨t0, t1, _, _⟩ := q8.two
    have HB8 : Hid (Below w.heap.size w ((w2.setCell ⟨w.heap.size + 1, 0, none⟩ (.slice none 0 0)).setCell ⟨w.heap.size + 1, 1, none⟩ (.slice none 0 0))) := (hbw2.setCell (show w.heap.size ≤ w.heap.size + 1 by omega) _).setCell (show w.heap.size ≤ w.heap.size + 1 by omega) _
    clear q8 q9 br2 hbw2
    go_wp2_with fail
    refine bodyPost_ret (v := .tuple #[spv (.slice none 0 0) (.slice none 0 0), .bool false]) (by simp [results, Tryz.results75, go_sem, t0, t1]) rfl ?_
    exact ⟨_, _, by rw [HN.out.1], by rw [HN.out.2.1, HN.out.2.2]; exact SpO.nil _ _, HB8.out⟩
  have e0 : ((f.length : Int) == 0) = false := by simpa using hz
  have h6 := (spok_iff.1 hk).1
  have hFl := fok_len (spok_iff.1 hk).2.1
  have HK : Hid (askedT F f = true → sinceB L F f = true) := fun ha => by simp [sinceB, hk, hf, ha]; simpa using hz
  go_enter Tryz.func75, Tryz.ntmps75
  go_wp2_with fail
  generalize ((w.alloc (.cells #[.slice aL L.length cL, .slice aF F.length cF] 26)).alloc (.cells #[.slice none 0 0, .slice none 0 0] 26)) = w0 at *
  refine (specSpineOk_eq hk (HS.out.keep hb0)).mono ?_
  rintro e w1 ⟨rfl, hb1⟩
  have hbw1 := bStep hb0 hb1
  have bs1 := bs0.keep hb1
  have br1 := br0.keep hb1
  have hs1 := Nat.le_trans hs0 hb1.size
  obtain ⟨p0, p1, _, _⟩ := bs1.two
  clear s0 s1 hb0 hb1 bs0 br0 hs0
  go_wp2_with fail
  refine (specFrontOk_eq hf (HV.out.keep hbw1)).mono ?_
  rintro e w2 ⟨rfl, hb2⟩
  have hbw2 := bStep hbw1 hb2
  have bs2 := bs1.keep hb2
  have br2 := br1.keep hb2
  obtain ⟨q0, q1, _, _⟩ := bs2.two
  have hs2 := Nat.le_trans hs1 hb2.size
  clear p0 p1 hbw1 hb2 bs1 br1 hs1
  have HB2 : Hid (∀ W, Below w2.heap.size w2 W → Bk W w.heap.size #[.slice aL L.length cL, .slice aF F.length cF] 26 ∧ Bk W (w.heap.size + 1) #[.slice none 0 0, .slice none 0 0] 26 ∧ Below w.heap.size w W) := fun W hW => ⟨bs2.keep hW, br2.keep hW, bStep hbw2 hW⟩
  clear bs2 br2 q0 q1
  go_wp2_with fail
  go_loopw [6] (fun i wr => ∃ j : Nat, j ≤ f.length ∧ i = .int .i64 j ∧ (List.range j).all (fun i => askedB F (tA f i) (tB f i)) = true ∧ Below w2.heap.size w2 wr) (fun i _ => f.length - (intOf i).toNat)
  case atStart => exact ⟨0, by omega, rfl, rfl, Below.refl _ _⟩
  case round =>
    obtain ⟨j, hj, rfl, hall, hb⟩ := hrel
    have HA := (show Hid ((List.range j).all (fun i => askedB F (tA f i) (tB f i)) = true) from hall)
    have hbw := bStep hbw2 hb
    clear hall
    by_cases hlt : j < f.length
    · cases hp : askedB F (tA f j) (tB f j)
      · have HN := (show Hid _ from sinceB_no (show sinceB L F f = false by simp [sinceB, askedT_no hlt hp]))
        have hF0 : F.length ≠ 0 := fun e => by rw [asked_nil e] at hp; cases hp
        have hcv : (fokB F && anyB F (tA f j) (tB f j)) = false := by rw [← asked_cov hF0]; exact hp
        have hF1 : decide (0 < F.length) = true := by simp; omega
        have hF2 : (0 : Int) < (F.length : Int) := by omega
        obtain ⟨g, off, rfl, hg, c0, c1⟩ := HC.out j hlt
        have ij : (j : Int) < (f.length : Int) := by omega
        have d0 : ∀ p : Bel wr, p.ww.cell? ⟨g, off + j * 2, none⟩ = some (.int .i64 (tA f j)) := fun p => cell_below p.below (cell_below hbw c0)
        have d1 : ∀ p : Bel wr, p.ww.cell? ⟨g, off + j * 2 + 1, none⟩ = some (.int .i64 (tB f j)) := fun p => cell_below p.below (cell_below hbw c1)
        have e0 : ∀ p : Bel wr, p.ww.cell? ⟨w.heap.size, 1, none⟩ = some (.slice aF F.length cF) := fun p => ((HB2.out wr hb).1.keep p.below).two.2.1
        have TB : ∀ p : Bel wr, Ts p.ww (.slice aF F.length cF) F := fun p => ((HS.out.keep hbw).keep p.below).2
        have hne := bel_some wr
        clear c0 c1
        generalize tA f j = A at *
        generalize tB f j = B at *
        go_wp2_with fail
        (refine wp_region_bel (by kernel_rfl) (by kernel_rfl) ?_; (repeat (go_big_quiet_step ((first | (go_at_call 58; exact calls_bel (specCovers_eq hcv (TB _))))))); refine wpQuiet_nil ?_)
        intro w3 hw3
        replace hw3 := bel_out hw3
        have hb3 := bStep hb hw3
        obtain ⟨bs3, br3, hbw3⟩ := HB2.out _ hb3
        clear d0 d1 e0 TB hne hbw hb
        have q8 := (br3.set 0 (.slice none 0 0)).set 1 (.slice none 0 0)
        have q9 := br3.set 0 (.slice none 0 0)
        obtain ⟨x0, x1, g0, g1⟩ := br3.two
        obtain ⟨y0, y1, h0, h1⟩ := q9.two
        obtain ⟨t0, t1, _, _⟩ := q8.two
        have HB8 : Hid (Below w.heap.size w ((w3.setCell ⟨w.heap.size + 1, 0, none⟩ (.slice none 0 0)).setCell ⟨w.heap.size + 1, 1, none⟩ (.slice none 0 0))) := (hbw3.setCell (show w.heap.size ≤ w.heap.size + 1 by omega) _).setCell (show w.heap.size ≤ w.heap.size + 1 by omega) _
        clear q8 q9 br3 hbw3
        go_wp2_with fail
        refine bodyPost_ret (v := .tuple #[spv (.slice none 0 0) (.slice none 0 0), .bool false]) (by simp [results, Tryz.results75, go_sem, t0, t1]) rfl ?_
        exact ⟨_, _, by rw [HN.out.1], by rw [HN.out.2.1, HN.out.2.2]; exact SpO.nil _ _, HB8.out⟩
      · have HN2 : Hid ((List.range (j + 1)).all (fun i => askedB F (tA f i) (tB f i)) = true) := by show _ = _; rw [asked_step, HA.out, hp]; rfl
        by_cases hF0 : F.length = 0
        · have hF1 : decide (0 < F.length) = false := by simp [hF0]
          obtain ⟨g, off, rfl, hg, c0, c1⟩ := HC.out j hlt
          have ij : (j : Int) < (f.length : Int) := by omega
          have d0 : ∀ p : Bel wr, p.ww.cell? ⟨g, off + j * 2, none⟩ = some (.int .i64 (tA f j)) := fun p => cell_below p.below (cell_below hbw c0)
          have d1 : ∀ p : Bel wr, p.ww.cell? ⟨g, off + j * 2 + 1, none⟩ = some (.int .i64 (tB f j)) := fun p => cell_below p.below (cell_below hbw c1)
          have e0 : ∀ p : Bel wr, p.ww.cell? ⟨w.heap.size, 1, none⟩ = some (.slice aF F.length cF) := fun p => ((HB2.out wr hb).1.keep p.below).two.2.1
          have TB : ∀ p : Bel wr, Ts p.ww (.slice aF F.length cF) F := fun p => ((HS.out.keep hbw).keep p.below).2
          have hne := bel_some wr
          clear c0 c1
          clear hF0
          generalize tA f j = A at *
          generalize tB f j = B at *
          go_wp2_with fail
          (refine wp_region_bel (by kernel_rfl) (by kernel_rfl) ?_; (repeat (go_big_quiet_step ((first | (go_at_call 58; exact calls_bel (specCovers_eq hp (TB _))))))); refine wpQuiet_nil ?_)
          intro w3 hw3
          replace hw3 := bel_out hw3
          have hb3 := bStep hb hw3
          go_wp2_with fail
          go_roundw
          case rel => exact ⟨j + 1, by omega, by go_num, HN2.out, hb3⟩
          case measure => simp [intOf]; omega
        · have hcv : (fokB F && anyB F (tA f j) (tB f j)) = true := by rw [← asked_cov hF0]; exact hp
          have hF1 : decide (0 < F.length) = true := by simp; omega
          have hF2 : (0 : Int) < (F.length : Int) := by omega
          obtain ⟨g, off, rfl, hg, c0, c1⟩ := HC.out j hlt
          have ij : (j : Int) < (f.length : Int) := by omega
          have d0 : ∀ p : Bel wr, p.ww.cell? ⟨g, off + j * 2, none⟩ = some (.int .i64 (tA f j)) := fun p => cell_below p.below (cell_below hbw c0)
          have d1 : ∀ p : Bel wr, p.ww.cell? ⟨g, off + j * 2 + 1, none⟩ = some (.int .i64 (tB f j)) := fun p => cell_below p.below (cell_below hbw c1)
          have e0 : ∀ p : Bel wr, p.ww.cell? ⟨w.heap.size, 1, none⟩ = some (.slice aF F.length cF) := fun p => ((HB2.out wr hb).1.keep p.below).two.2.1
          have TB : ∀ p : Bel wr, Ts p.ww (.slice aF F.length cF) F := fun p => ((HS.out.keep hbw).keep p.below).2
          have hne := bel_some wr
          clear c0 c1
          generalize tA f j = A at *
          generalize tB f j = B at *
          go_wp2_with fail
          (refine wp_region_bel (by kernel_rfl) (by kernel_rfl) ?_; (repeat (go_big_quiet_step ((first | (go_at_call 58; exact calls_bel (specCovers_eq hcv (TB _))))))); refine wpQuiet_nil ?_)
          intro w3 hw3
          replace hw3 := bel_out hw3
          have hb3 := bStep hb hw3
          go_wp2_with fail
          go_roundw
          case rel => exact ⟨j + 1, by omega, by go_num, HN2.out, hb3⟩
          case measure => simp [intOf]; omega
    · obtain rfl : j = f.length := by omega
      have HN := (show Hid _ from sinceB_yes (HK.out HA.out))
      obtain ⟨bs, br, _⟩ := HB2.out _ hb
      obtain ⟨p0, p1, _, _⟩ := bs.two
      go_wp2_with fail
      refine (l12Copy_any _ _ L F wr (HS.out.keep hbw) (by omega) (spok_few hk) (by omega)).mono ?_
      rintro e w4 ⟨lx, fx, rfl, spx, hb4⟩
      obtain ⟨vs, ov, eo, oF⟩ := spx
      obtain ⟨ax, cx, e⟩ := ownV_slice ov
      rw [eo.len] at e
      subst e
      obtain ⟨ay, cy, rfl⟩ := own_slice2 oF
      have br5 := ((br.keep hb4).alloc (.cells #[.slice ax L.length cx, .slice ay F.length cy] 26)).alloc (.cells #[] 71)
      have bx5 : Bk ((w4.alloc (.cells #[.slice ax L.length cx, .slice ay F.length cy] 26)).alloc (.cells #[] 71)) w4.heap.size #[.slice ax L.length cx, .slice ay F.length cy] 26 := (Bk.new _ _ rfl).alloc _
      have hb5 : Below wr.heap.size wr ((w4.alloc (.cells #[.slice ax L.length cx, .slice ay F.length cy] 26)).alloc (.cells #[] 71)) := bAlloc (bAlloc hb4 _) _
      have hb45 : Below w4.heap.size w4 ((w4.alloc (.cells #[.slice ax L.length cx, .slice ay F.length cy] 26)).alloc (.cells #[] 71)) := bAlloc (bAlloc (Below.refl _ _) _) _
      have HOV : Hid (OwnV ((w4.alloc (.cells #[.slice ax L.length cx, .slice ay F.length cy] 26)).alloc (.cells #[] 71)) wr.heap.size (.slice ax L.length cx) vs) := own_keep ov hb45
      have HOL : Hid (∀ q, (Value.slice ax L.length cx).ownBlock = some q → q < w4.heap.size) := fun q e => ownK_lt ov q e
      have HEO : Hid (EachO ((w4.alloc (.cells #[.slice ax L.length cx, .slice ay F.length cy] 26)).alloc (.cells #[] 71)) wr.heap.size vs L) := eo.keep hb45
      have oE : Own ((w4.alloc (.cells #[.slice ax L.length cx, .slice ay F.length cy] 26)).alloc (.cells #[] 71)) (w4.heap.size + 1) (.slice (some ⟨w4.heap.size + 1, 0, none⟩) 0 0) [] := by
        have := own_empty (w4.alloc (.cells #[.slice ax L.length cx, .slice ay F.length cy] 26)) 71 2
        rw [show (w4.alloc (.cells #[.slice ax L.length cx, .slice ay F.length cy] 26)).heap.size = w4.heap.size + 1 by simp] at this
        exact this
      have T5 : Ts ((w4.alloc (.cells #[.slice ax L.length cx, .slice ay F.length cy] 26)).alloc (.cells #[] 71)) (.slice aV f.length cV) f := HV.out.keep (bStep hbw hb5)
      have zE : w4.heap.size + 1 ≤ ((w4.alloc (.cells #[.slice ax L.length cx, .slice ay F.length cy] 26)).alloc (.cells #[] 71)).heap.size := by simp
      have hz4 := hb4.size
      have hzr := hbw.size
      have hzs : w.heap.size + 1 < wr.heap.size := br.lt
      have hne4 : w.heap.size + 1 ≠ w4.heap.size := by omega
      clear ov eo oF bs br p0 p1 hb45
      go_wp2_with (at_builtin; refine appTs _ rfl _ _ rfl (w4.heap.size + 1) _ [] rfl oE _ f rfl T5 (by simp; omega) zE ?_; intro v7 w7 own7 hg7; obtain ⟨a7, c7, rfl⟩ : ∃ a c, v7 = .slice a f.length c := own_slice2 (l := f) own7; have bx7 := Bk.grew bx5 hg7 (fun q e => by have := ownK_base oE q e; omega); have br7 := Bk.grew br5 hg7 (fun q e => by have := ownK_base oE q e; omega); have br8 := br7.apart (p := ⟨w4.heap.size, 1, none⟩) hne4 (.slice a7 f.length c7); have bx8 := bx7.set 1 (.slice a7 f.length c7); have q9 := br8.set 0 (.slice ax L.length cx); obtain ⟨z0, z1, f0, f1⟩ := bx7.two; obtain ⟨m0, m1, _, _⟩ := bx8.two; obtain ⟨x0, x1, g0, g1⟩ := br8.two; obtain ⟨y0, y1, h0, h1⟩ := q9.two)
      have own8 : Own w7 (w4.heap.size + 1) (.slice a7 f.length c7) f := own7
      have hb7 : Below wr.heap.size wr w7 := Below.grew hb5 hg7 hb5.size (fun q e => by have := ownK_base oE q e; omega)
      have hb8 : Below wr.heap.size wr (w7.setCell ⟨w4.heap.size, 1, none⟩ (.slice a7 f.length c7)) := hb7.setCell hz4 _
      have HSP : Hid (SpO (w7.setCell ⟨w4.heap.size, 1, none⟩ (.slice a7 f.length c7)) wr.heap.size (.slice ax L.length cx) (.slice a7 f.length c7) L f) := by
        refine ⟨vs, ownK_at HOV.out fun q e => ?_, ?_, own_less (ownK_at own8 fun q e => Below.heap_setCell _ _ _ _ (show q ≠ w4.heap.size from by have := ownK_base own8 q e; omega)) (by omega)⟩
        · have hq := HOL.out q e
          rw [Below.heap_setCell _ _ _ _ (show q ≠ w4.heap.size by omega), hg7.block q (by omega) (fun e2 => by have := ownK_base oE q e2.symm; omega)]
        · refine HEO.out.mono fun q c hq => ?_
          have h1 : q ≠ w4.heap.size := fun e => by subst e; exact row_not_spine hq bx5
          rw [Below.heap_setCell _ _ _ _ h1, hg7.block q hq.lt (fun e2 => by
            have h2 := ownK_open (enc := timC) oE timC_len
            rcases h2 with ⟨e3, _⟩ | ⟨g3, cap3, c3, e3, _, hb3, _⟩
            · cases e3
            · cases e3
              have e4 : some q = some (w4.heap.size + 1) := e2
              cases e4
              exact row_not_time hq hb3)]
      have q8 := q9.set 1 (.slice a7 f.length c7)
      obtain ⟨t0, t1, _, _⟩ := q8.two
      have hbw8 := bStep hbw hb8
      have HF : Hid (SpO (((w7.setCell ⟨w4.heap.size, 1, none⟩ (.slice a7 f.length c7)).setCell ⟨w.heap.size + 1, 0, none⟩ (.slice ax L.length cx)).setCell ⟨w.heap.size + 1, 1, none⟩ (.slice a7 f.length c7)) w.heap.size (.slice ax L.length cx) (.slice a7 f.length c7) (sinceL L F f) (sinceF L F f) ∧ Below w.heap.size w (((w7.setCell ⟨w4.heap.size, 1, none⟩ (.slice a7 f.length c7)).setCell ⟨w.heap.size + 1, 0, none⟩ (.slice ax L.length cx)).setCell ⟨w.heap.size + 1, 1, none⟩ (.slice a7 f.length c7))) := by
        refine ⟨?_, (hbw8.setCell (show w.heap.size ≤ w.heap.size + 1 by omega) _).setCell (show w.heap.size ≤ w.heap.size + 1 by omega) _⟩
        rw [HN.out.2.1, HN.out.2.2]
        exact (HSP.out.set2 (by omega)).less (by omega)
      refine bodyPost_ret (v := .tuple #[spv (.slice ax L.length cx) (.slice a7 f.length c7), .bool true]) (by simp [results, Tryz.results75, go_sem, t0, t1]) rfl ?_
      exact ⟨_, _, by rw [HN.out.1], HF.out.1, HF.out.2⟩
end Go.Proofs.YtjkojbafifbdgaaGreat
