/- SpineSince of the program: the contract. -/
import Derived.Test.YtjkojbafifbdgaaGreatZq0
namespace Go.Proofs.YtjkojbafifbdgaaGreat
open Go.RowKit Go.Shelf

theorem allMay_eq {F T : List (Int × Int)} {r : Bool} (e : askedT F T = r) {v u : Value} {w : World} (h : Ts w v F) (h' : Ts w u T) :
    Calls Tryz.prog 52 #[v, u] w fun e w' => e = .returned (.bool r) ∧ Below w.heap.size w w' := by
  rw [← e]; exact allMay_any v u F T w h h'
set_option maxRecDepth 100000 in
set_option maxHeartbeats 16000000 in
theorem implSpineSince_any (lv fv gv : Value) (L : List (List Rw)) (F f : List (Int × Int)) (w : World) (h : Spn w lv fv L F) (hv : Ts w gv f) :
    Calls Tryz.prog 18 #[spv lv fv, gv] w fun e w' => ∃ lv' fv' : Value, e = .returned (.tuple #[spv lv' fv', .bool (sinceB L F f)]) ∧ SpO w' w.heap.size lv' fv' (sinceL L F f) (sinceF L F f) ∧ Below w.heap.size w w' := by
  have HV := (show Hid (Ts w gv f) from hv)
  obtain ⟨aV, cV, rfl, -⟩ := hv
  have HS := (show Hid (Spn w lv fv L F) from h)
  obtain ⟨aL, cL, aF, cF, rfl, rfl⟩ := Spn.open h
  have bs0 : Bk ((w.alloc (.cells #[.slice aL L.length cL, .slice aF F.length cF] 26)).alloc (.cells #[.slice none 0 0, .slice none 0 0] 26)) w.heap.size #[.slice aL L.length cL, .slice aF F.length cF] 26 := (Bk.new _ _ rfl).alloc _
  have br0 : Bk ((w.alloc (.cells #[.slice aL L.length cL, .slice aF F.length cF] 26)).alloc (.cells #[.slice none 0 0, .slice none 0 0] 26)) (w.heap.size + 1) #[.slice none 0 0, .slice none 0 0] 26 := Bk.new (w := w.alloc _) _ _ (by simp)
  have hb0 : Below w.heap.size w ((w.alloc (.cells #[.slice aL L.length cL, .slice aF F.length cF] 26)).alloc (.cells #[.slice none 0 0, .slice none 0 0] 26)) := bAlloc (bAlloc (Below.refl _ _) _) _
  have hs0 : w.heap.size + 2 ≤ ((w.alloc (.cells #[.slice aL L.length cL, .slice aF F.length cF] 26)).alloc (.cells #[.slice none 0 0, .slice none 0 0] 26)).heap.size := by simp
  obtain ⟨s0, s1, _, _⟩ := bs0.two
  clear h
  cases hk : spokB L F
  · have HN := (show Hid _ from sinceB_no (f := f) (show sinceB L F f = false by simp [sinceB, hk]))
    go_enter Tryz.func18, Tryz.ntmps18
    go_wp2_with fail
    generalize ((w.alloc (.cells #[.slice aL L.length cL, .slice aF F.length cF] 26)).alloc (.cells #[.slice none 0 0, .slice none 0 0] 26)) = w0 at *
    refine (implSpineOk_eq hk (HS.out.keep hb0)).mono ?_
    rintro e w1 ⟨rfl, hb1⟩
    have hbw1 := bStep hb0 hb1
    have bs1 := bs0.keep hb1
    have br1 := br0.keep hb1
    have hs1 := Nat.le_trans hs0 hb1.size
    obtain ⟨p0, p1, _, _⟩ := bs1.two
    clear s0 s1 hb0 hb1 bs0 br0 hs0
    have q8 := (br1.set 0 (.slice none 0 0)).set 1 (.slice none 0 0)
    have q9 := br1.set 0 (.slice none 0 0)
    obtain ⟨x0, x1, g0, g1⟩ := br1.two
    obtain ⟨y0, y1, h0, h1⟩ := q9.two
    obtain ⟨t0, t1, _, _⟩ := q8.two
    have HB8 : Hid (Below w.heap.size w ((w1.setCell ⟨w.heap.size + 1, 0, none⟩ (.slice none 0 0)).setCell ⟨w.heap.size + 1, 1, none⟩ (.slice none 0 0))) := (hbw1.setCell (show w.heap.size ≤ w.heap.size + 1 by omega) _).setCell (show w.heap.size ≤ w.heap.size + 1 by omega) _
    clear q8 q9 br1 bs1 hbw1
    go_wp2_with fail
    refine bodyPost_ret (v := .tuple #[spv (.slice none 0 0) (.slice none 0 0), .bool false]) (by simp [results, Tryz.results18, go_sem, t0, t1]) rfl ?_
    exact ⟨_, _, by rw [HN.out.1], by rw [HN.out.2.1, HN.out.2.2]; exact SpO.nil _ _, HB8.out⟩
  cases hf : fokB f
  · have HN := (show Hid _ from sinceB_no (show sinceB L F f = false by simp [sinceB, hf]))
    go_enter Tryz.func18, Tryz.ntmps18
    go_wp2_with fail
    generalize ((w.alloc (.cells #[.slice aL L.length cL, .slice aF F.length cF] 26)).alloc (.cells #[.slice none 0 0, .slice none 0 0] 26)) = w0 at *
    refine (implSpineOk_eq hk (HS.out.keep hb0)).mono ?_
    rintro e w1 ⟨rfl, hb1⟩
    have hbw1 := bStep hb0 hb1
    have bs1 := bs0.keep hb1
    have br1 := br0.keep hb1
    have hs1 := Nat.le_trans hs0 hb1.size
    obtain ⟨p0, p1, _, _⟩ := bs1.two
    clear s0 s1 hb0 hb1 bs0 br0 hs0
    go_wp2_with fail
    refine (implFrontOk_eq hf (HV.out.keep hbw1)).mono ?_
    rintro e w2 ⟨rfl, hb2⟩
    have hbw2 := bStep hbw1 hb2
    have bs2 := bs1.keep hb2
    have br2 := br1.keep hb2
    obtain ⟨q0, q1, _, _⟩ := bs2.two
    have hs2 := Nat.le_trans hs1 hb2.size
    clear p0 p1 hbw1 hb2 bs1 br1 hs1
    have q8 := (br2.set 0 (.slice none 0 0)).set 1 (.slice none 0 0)
    have q9 := br2.set 0 (.slice none 0 0)
    obtain ⟨x0, x1, g0, g1⟩ := br2.two
    obtain ⟨y0, y1, h0, h1⟩ := q9.two
    obtain ⟨t0, t1, _, _⟩ := q8.two
    have HB8 : Hid (Below w.heap.size w ((w2.setCell ⟨w.heap.size + 1, 0, none⟩ (.slice none 0 0)).setCell ⟨w.heap.size + 1, 1, none⟩ (.slice none 0 0))) := (hbw2.setCell (show w.heap.size ≤ w.heap.size + 1 by omega) _).setCell (show w.heap.size ≤ w.heap.size + 1 by omega) _
    clear q8 q9 br2 bs2 hbw2
    go_wp2_with fail
    refine bodyPost_ret (v := .tuple #[spv (.slice none 0 0) (.slice none 0 0), .bool false]) (by simp [results, Tryz.results18, go_sem, t0, t1]) rfl ?_
    exact ⟨_, _, by rw [HN.out.1], by rw [HN.out.2.1, HN.out.2.2]; exact SpO.nil _ _, HB8.out⟩
  have hfl := fok_len hf
  by_cases hz : f.length = 0
  · have HN := (show Hid _ from sinceB_no (show sinceB L F f = false by simp [sinceB, hz]))
    have e0 : ((f.length : Int) == 0) = true := by simp [hz]
    clear hz
    go_enter Tryz.func18, Tryz.ntmps18
    go_wp2_with fail
    generalize ((w.alloc (.cells #[.slice aL L.length cL, .slice aF F.length cF] 26)).alloc (.cells #[.slice none 0 0, .slice none 0 0] 26)) = w0 at *
    refine (implSpineOk_eq hk (HS.out.keep hb0)).mono ?_
    rintro e w1 ⟨rfl, hb1⟩
    have hbw1 := bStep hb0 hb1
    have bs1 := bs0.keep hb1
    have br1 := br0.keep hb1
    have hs1 := Nat.le_trans hs0 hb1.size
    obtain ⟨p0, p1, _, _⟩ := bs1.two
    clear s0 s1 hb0 hb1 bs0 br0 hs0
    go_wp2_with fail
    refine (implFrontOk_eq hf (HV.out.keep hbw1)).mono ?_
    rintro e w2 ⟨rfl, hb2⟩
    have hbw2 := bStep hbw1 hb2
    have bs2 := bs1.keep hb2
    have br2 := br1.keep hb2
    obtain ⟨q0, q1, _, _⟩ := bs2.two
    have hs2 := Nat.le_trans hs1 hb2.size
    clear p0 p1 hbw1 hb2 bs1 br1 hs1
    have q8 := (br2.set 0 (.slice none 0 0)).set 1 (.slice none 0 0)
    have q9 := br2.set 0 (.slice none 0 0)
    obtain ⟨x0, x1, g0, g1⟩ := br2.two
    obtain ⟨y0, y1, h0, h1⟩ := q9.two
    obtain ⟨t0, t1, _, _⟩ := q8.two
    have HB8 : Hid (Below w.heap.size w ((w2.setCell ⟨w.heap.size + 1, 0, none⟩ (.slice none 0 0)).setCell ⟨w.heap.size + 1, 1, none⟩ (.slice none 0 0))) := (hbw2.setCell (show w.heap.size ≤ w.heap.size + 1 by omega) _).setCell (show w.heap.size ≤ w.heap.size + 1 by omega) _
    clear q8 q9 br2 bs2 hbw2
    go_wp2_with fail
    refine bodyPost_ret (v := .tuple #[spv (.slice none 0 0) (.slice none 0 0), .bool false]) (by simp [results, Tryz.results18, go_sem, t0, t1]) rfl ?_
    exact ⟨_, _, by rw [HN.out.1], by rw [HN.out.2.1, HN.out.2.2]; exact SpO.nil _ _, HB8.out⟩
  have e0 : ((f.length : Int) == 0) = false := by simpa using hz
  cases ha : askedT F f
  · have HN := (show Hid _ from sinceB_no (show sinceB L F f = false by simp [sinceB, ha]))
    go_enter Tryz.func18, Tryz.ntmps18
    go_wp2_with fail
    generalize ((w.alloc (.cells #[.slice aL L.length cL, .slice aF F.length cF] 26)).alloc (.cells #[.slice none 0 0, .slice none 0 0] 26)) = w0 at *
    refine (implSpineOk_eq hk (HS.out.keep hb0)).mono ?_
    rintro e w1 ⟨rfl, hb1⟩
    have hbw1 := bStep hb0 hb1
    have bs1 := bs0.keep hb1
    have br1 := br0.keep hb1
    have hs1 := Nat.le_trans hs0 hb1.size
    obtain ⟨p0, p1, _, _⟩ := bs1.two
    clear s0 s1 hb0 hb1 bs0 br0 hs0
    go_wp2_with fail
    refine (implFrontOk_eq hf (HV.out.keep hbw1)).mono ?_
    rintro e w2 ⟨rfl, hb2⟩
    have hbw2 := bStep hbw1 hb2
    have bs2 := bs1.keep hb2
    have br2 := br1.keep hb2
    obtain ⟨q0, q1, _, _⟩ := bs2.two
    have hs2 := Nat.le_trans hs1 hb2.size
    clear p0 p1 hbw1 hb2 bs1 br1 hs1
    go_wp2_with fail
    refine (allMay_eq ha (HS.out.keep hbw2).2 (HV.out.keep hbw2)).mono ?_
    rintro e w3 ⟨rfl, hb3⟩
    have hbw3 := bStep hbw2 hb3
    have bs3 := bs2.keep hb3
    have br3 := br2.keep hb3
    have hs3 := Nat.le_trans hs2 hb3.size
    obtain ⟨u0, u1, _, _⟩ := bs3.two
    clear q0 q1 hbw2 hb3 bs2 br2 hs2
    have q8 := (br3.set 0 (.slice none 0 0)).set 1 (.slice none 0 0)
    have q9 := br3.set 0 (.slice none 0 0)
    obtain ⟨x0, x1, g0, g1⟩ := br3.two
    obtain ⟨y0, y1, h0, h1⟩ := q9.two
    obtain ⟨t0, t1, _, _⟩ := q8.two
    have HB8 : Hid (Below w.heap.size w ((w3.setCell ⟨w.heap.size + 1, 0, none⟩ (.slice none 0 0)).setCell ⟨w.heap.size + 1, 1, none⟩ (.slice none 0 0))) := (hbw3.setCell (show w.heap.size ≤ w.heap.size + 1 by omega) _).setCell (show w.heap.size ≤ w.heap.size + 1 by omega) _
    clear q8 q9 br3 bs3 hbw3
    go_wp2_with fail
    refine bodyPost_ret (v := .tuple #[spv (.slice none 0 0) (.slice none 0 0), .bool false]) (by simp [results, Tryz.results18, go_sem, t0, t1]) rfl ?_
    exact ⟨_, _, by rw [HN.out.1], by rw [HN.out.2.1, HN.out.2.2]; exact SpO.nil _ _, HB8.out⟩
  have HN := (show Hid _ from sinceB_yes (show sinceB L F f = true by simp [sinceB, hk, hf, ha]; simpa using hz))
  have h6 := (spok_iff.1 hk).1
  have hsp := spok_since hk hf
  go_enter Tryz.func18, Tryz.ntmps18
  go_wp2_with fail
  generalize ((w.alloc (.cells #[.slice aL L.length cL, .slice aF F.length cF] 26)).alloc (.cells #[.slice none 0 0, .slice none 0 0] 26)) = w0 at *
  refine (implSpineOk_eq hk (HS.out.keep hb0)).mono ?_
  rintro e w1 ⟨rfl, hb1⟩
  have hbw1 := bStep hb0 hb1
  have bs1 := bs0.keep hb1
  have br1 := br0.keep hb1
  have hs1 := Nat.le_trans hs0 hb1.size
  obtain ⟨p0, p1, _, _⟩ := bs1.two
  clear s0 s1 hb0 hb1 bs0 br0 hs0
  go_wp2_with fail
  refine (implFrontOk_eq hf (HV.out.keep hbw1)).mono ?_
  rintro e w2 ⟨rfl, hb2⟩
  have hbw2 := bStep hbw1 hb2
  have bs2 := bs1.keep hb2
  have br2 := br1.keep hb2
  obtain ⟨q0, q1, _, _⟩ := bs2.two
  have hs2 := Nat.le_trans hs1 hb2.size
  clear p0 p1 hbw1 hb2 bs1 br1 hs1
  go_wp2_with fail
  refine (allMay_eq ha (HS.out.keep hbw2).2 (HV.out.keep hbw2)).mono ?_
  rintro e w3 ⟨rfl, hb3⟩
  have hbw3 := bStep hbw2 hb3
  have bs3 := bs2.keep hb3
  have br3 := br2.keep hb3
  have hs3 := Nat.le_trans hs2 hb3.size
  obtain ⟨u0, u1, _, _⟩ := bs3.two
  clear q0 q1 hbw2 hb3 bs2 br2 hs2
  go_wp2_with fail
  refine (linked_any _ L w3 (HS.out.keep hbw3).1 (spok_few hk)).mono ?_
  rintro e w4 ⟨p, gs, vs, rfl, lnk, hb4⟩
  obtain ⟨ap, rfl⟩ := lnk.ll.ptr
  have br4 := br3.keep hb4
  have hbw4 := bStep hbw3 hb4
  have hs4 := hb4.size
  have T4 := HV.out.keep hbw4
  clear u0 u1 bs3 br3
  go_wp2_with fail
  refine (spineOf_any (.pointer ap) _ gs vs L f w3.heap.size w3.heap.size w4 lnk T4 (by omega) (by omega) (by omega)).mono ?_
  rw [hsp, (okL_yes hsp).1, (okL_yes hsp).2]
  rintro e w5 ⟨lv', fv', rfl, sp5, hb5⟩
  have br5 := br4.keep hb5
  have hbw5 := bStep hbw4 hb5
  obtain ⟨ax, cx, ay, cy, rfl, rfl⟩ := sp5.open
  have q8 := (br5.set 0 (.slice ax L.length cx)).set 1 (.slice ay f.length cy)
  have q9 := br5.set 0 (.slice ax L.length cx)
  obtain ⟨x0, x1, g0, g1⟩ := br5.two
  obtain ⟨y0, y1, h0, h1⟩ := q9.two
  obtain ⟨t0, t1, _, _⟩ := q8.two
  have HF : Hid (SpO ((w5.setCell ⟨w.heap.size + 1, 0, none⟩ (.slice ax L.length cx)).setCell ⟨w.heap.size + 1, 1, none⟩ (.slice ay f.length cy)) w.heap.size (.slice ax L.length cx) (.slice ay f.length cy) (sinceL L F f) (sinceF L F f) ∧ Below w.heap.size w ((w5.setCell ⟨w.heap.size + 1, 0, none⟩ (.slice ax L.length cx)).setCell ⟨w.heap.size + 1, 1, none⟩ (.slice ay f.length cy))) := by
    refine ⟨?_, (hbw5.setCell (show w.heap.size ≤ w.heap.size + 1 by omega) _).setCell (show w.heap.size ≤ w.heap.size + 1 by omega) _⟩
    rw [HN.out.2.1, HN.out.2.2]
    exact (sp5.set2 (by omega)).less (by omega)
  clear sp5 q8 q9 br4 br5 hb4 hb5 hbw4 hbw5 hbw3 T4 lnk
  go_wp2_with fail
  refine bodyPost_ret (v := .tuple #[spv (.slice ax L.length cx) (.slice ay f.length cy), .bool true]) (by simp [results, Tryz.results18, go_sem, t0, t1]) rfl ?_
  exact ⟨_, _, by rw [HN.out.1], HF.out.1, HF.out.2⟩
end Go.Proofs.YtjkojbafifbdgaaGreat
