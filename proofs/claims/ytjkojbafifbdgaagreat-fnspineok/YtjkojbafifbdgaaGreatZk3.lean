/- SpineJoin of the program: the contract. -/
import Derived.Test.YtjkojbafifbdgaaGreatZq0
import Derived.Test.YtjkojbafifbdgaaGreatZk1
import Derived.Deep.RegionHeld3
namespace Go.Proofs.YtjkojbafifbdgaaGreat
open Go.RowKit Go.Shelf

set_option maxRecDepth 100000 in
set_option maxHeartbeats 16000000 in
theorem implSpineJoin_any (lv fv : Value) (L : List (List Rw)) (F : List (Int × Int)) (i : Int) (w : World) (h : Spn w lv fv L F) :
    Calls Tryz.prog 10 #[spv lv fv, .int .i64 i] w fun e w' => ∃ lv' fv' : Value, e = .returned (.tuple #[spv lv' fv', .bool (joinB L F i)]) ∧ SpO w' w.heap.size lv' fv' (joinL L F i) (joinF L F i) ∧ Below w.heap.size w w' := by
  have HS := (show Hid (Spn w lv fv L F) from h)
  obtain ⟨aL, cL, aF, cF, rfl, rfl⟩ := Spn.open h
  have bs0 : Bk ((w.alloc (.cells #[.slice aL L.length cL, .slice aF F.length cF] 26)).alloc (.cells #[.slice none 0 0, .slice none 0 0] 26)) w.heap.size #[.slice aL L.length cL, .slice aF F.length cF] 26 := (Bk.new _ _ rfl).alloc _
  have br0 : Bk ((w.alloc (.cells #[.slice aL L.length cL, .slice aF F.length cF] 26)).alloc (.cells #[.slice none 0 0, .slice none 0 0] 26)) (w.heap.size + 1) #[.slice none 0 0, .slice none 0 0] 26 := Bk.new (w := w.alloc _) _ _ (by simp)
  have hb0 : Below w.heap.size w ((w.alloc (.cells #[.slice aL L.length cL, .slice aF F.length cF] 26)).alloc (.cells #[.slice none 0 0, .slice none 0 0] 26)) := bAlloc (bAlloc (Below.refl _ _) _) _
  have hs0 : w.heap.size + 2 ≤ ((w.alloc (.cells #[.slice aL L.length cL, .slice aF F.length cF] 26)).alloc (.cells #[.slice none 0 0, .slice none 0 0] 26)).heap.size := by simp
  obtain ⟨s0, s1, _, _⟩ := bs0.two
  clear h
  cases hk : spokB L F
  · have HN := (show Hid _ from joinB_no1 (i := i) hk)
    go_enter Tryz.func10, Tryz.ntmps10
    go_wp2_with fail
    generalize ((w.alloc (.cells #[.slice aL L.length cL, .slice aF F.length cF] 26)).alloc (.cells #[.slice none 0 0, .slice none 0 0] 26)) = w0 at *
    refine (implSpineOk_eq hk (HS.out.keep hb0)).mono ?_
    rintro e w1 ⟨rfl, hb1⟩
    have hbw1 := bStep hb0 hb1
    have bs1 := bs0.keep hb1
    have br1 := br0.keep hb1
    have hs1 := Nat.le_trans hs0 hb1.size
    obtain ⟨p0, p1, _, _⟩ := bs1.two
    clear s0 s1 hb0 hb1 bs0 br0 hs0
    have q8 := (br1.set 0 (.slice none 0 0)).set 1 (.slice none 0 0)
    have q9 := br1.set 0 (.slice none 0 0)
    obtain ⟨x0, x1, g0, g1⟩ := br1.two
    obtain ⟨y0, y1, h0, h1⟩ := q9.two
    obtain ⟨t0, t1, _, _⟩ := q8.two
    have HB8 : Hid (Below w.heap.size w ((w1.setCell ⟨w.heap.size + 1, 0, none⟩ (.slice none 0 0)).setCell ⟨w.heap.size + 1, 1, none⟩ (.slice none 0 0))) := (hbw1.setCell (show w.heap.size ≤ w.heap.size + 1 by omega) _).setCell (show w.heap.size ≤ w.heap.size + 1 by omega) _
    clear q8 q9 br1 bs1 hbw1
    go_wp2_with fail
    refine bodyPost_ret (v := .tuple #[spv (.slice none 0 0) (.slice none 0 0), .bool false]) (by simp [results, Tryz.results10, go_sem, t0, t1]) rfl ?_
    exact ⟨_, _, by rw [HN.out.1], by rw [HN.out.2.1, HN.out.2.2]; exact SpO.nil _ _, HB8.out⟩
  have h6 := (spok_iff.1 hk).1
  have hwr : IntKind.i64.wrap ((L.length : Int) - 1) = (L.length : Int) - 1 := by rw [IntKind.wrap_i64]; omega
  by_cases hi0 : i < 0
  · have HN := (show Hid _ from joinB_no2 (L := L) (F := F) (i := i) (by omega))
    go_enter Tryz.func10, Tryz.ntmps10
    go_wp2_with fail
    generalize ((w.alloc (.cells #[.slice aL L.length cL, .slice aF F.length cF] 26)).alloc (.cells #[.slice none 0 0, .slice none 0 0] 26)) = w0 at *
    refine (implSpineOk_eq hk (HS.out.keep hb0)).mono ?_
    rintro e w1 ⟨rfl, hb1⟩
    have hbw1 := bStep hb0 hb1
    have bs1 := bs0.keep hb1
    have br1 := br0.keep hb1
    have hs1 := Nat.le_trans hs0 hb1.size
    obtain ⟨p0, p1, _, _⟩ := bs1.two
    clear s0 s1 hb0 hb1 bs0 br0 hs0
    have q8 := (br1.set 0 (.slice none 0 0)).set 1 (.slice none 0 0)
    have q9 := br1.set 0 (.slice none 0 0)
    obtain ⟨x0, x1, g0, g1⟩ := br1.two
    obtain ⟨y0, y1, h0, h1⟩ := q9.two
    obtain ⟨t0, t1, _, _⟩ := q8.two
    have HB8 : Hid (Below w.heap.size w ((w1.setCell ⟨w.heap.size + 1, 0, none⟩ (.slice none 0 0)).setCell ⟨w.heap.size + 1, 1, none⟩ (.slice none 0 0))) := (hbw1.setCell (show w.heap.size ≤ w.heap.size + 1 by omega) _).setCell (show w.heap.size ≤ w.heap.size + 1 by omega) _
    clear q8 q9 br1 bs1 hbw1
    go_wp2_with fail
    refine bodyPost_ret (v := .tuple #[spv (.slice none 0 0) (.slice none 0 0), .bool false]) (by simp [results, Tryz.results10, go_sem, t0, t1]) rfl ?_
    exact ⟨_, _, by rw [HN.out.1], by rw [HN.out.2.1, HN.out.2.2]; exact SpO.nil _ _, HB8.out⟩
  by_cases hi1 : (L.length : Int) - 1 ≤ i
  · have HN := (show Hid _ from joinB_no2 (L := L) (F := F) (i := i) (by omega))
    go_enter Tryz.func10, Tryz.ntmps10
    go_wp2_with fail
    generalize ((w.alloc (.cells #[.slice aL L.length cL, .slice aF F.length cF] 26)).alloc (.cells #[.slice none 0 0, .slice none 0 0] 26)) = w0 at *
    refine (implSpineOk_eq hk (HS.out.keep hb0)).mono ?_
    rintro e w1 ⟨rfl, hb1⟩
    have hbw1 := bStep hb0 hb1
    have bs1 := bs0.keep hb1
    have br1 := br0.keep hb1
    have hs1 := Nat.le_trans hs0 hb1.size
    obtain ⟨p0, p1, _, _⟩ := bs1.two
    clear s0 s1 hb0 hb1 bs0 br0 hs0
    have q8 := (br1.set 0 (.slice none 0 0)).set 1 (.slice none 0 0)
    have q9 := br1.set 0 (.slice none 0 0)
    obtain ⟨x0, x1, g0, g1⟩ := br1.two
    obtain ⟨y0, y1, h0, h1⟩ := q9.two
    obtain ⟨t0, t1, _, _⟩ := q8.two
    have HB8 : Hid (Below w.heap.size w ((w1.setCell ⟨w.heap.size + 1, 0, none⟩ (.slice none 0 0)).setCell ⟨w.heap.size + 1, 1, none⟩ (.slice none 0 0))) := (hbw1.setCell (show w.heap.size ≤ w.heap.size + 1 by omega) _).setCell (show w.heap.size ≤ w.heap.size + 1 by omega) _
    clear q8 q9 br1 bs1 hbw1
    go_wp2_with fail
    refine bodyPost_ret (v := .tuple #[spv (.slice none 0 0) (.slice none 0 0), .bool false]) (by simp [results, Tryz.results10, go_sem, t0, t1]) rfl ?_
    exact ⟨_, _, by rw [HN.out.1], by rw [HN.out.2.1, HN.out.2.2]; exact SpO.nil _ _, HB8.out⟩
  obtain ⟨k, rfl⟩ : ∃ k : Nat, i = (k : Int) := ⟨i.toNat, by omega⟩
  have hk2 : k + 2 ≤ L.length := by omega
  obtain ⟨n1, n2, n3⟩ := joinB_yes (F := F) hk rfl hk2
  have HN := (show Hid _ from (And.intro n1 (And.intro n2 n3)))
  have hfl := fok_len (spok_iff.1 hk).2.1
  have HJL : Hid ((joinO L F k).length ≤ 1000) := by have := join_len F hk2; show _ ≤ _; omega
  clear n1 n2 n3
  go_enter Tryz.func10, Tryz.ntmps10
  go_wp2_with fail
  generalize ((w.alloc (.cells #[.slice aL L.length cL, .slice aF F.length cF] 26)).alloc (.cells #[.slice none 0 0, .slice none 0 0] 26)) = w0 at *
  refine (implSpineOk_eq hk (HS.out.keep hb0)).mono ?_
  rintro e w1 ⟨rfl, hb1⟩
  have hbw1 := bStep hb0 hb1
  have bs1 := bs0.keep hb1
  have br1 := br0.keep hb1
  have hs1 := Nat.le_trans hs0 hb1.size
  obtain ⟨p0, p1, _, _⟩ := bs1.two
  clear s0 s1 hb0 hb1 bs0 br0 hs0
  go_wp2_with fail
  refine (linked_any _ L w1 (HS.out.keep hbw1).1 (spok_few hk)).mono ?_
  rintro e w2 ⟨p, gs, vs, rfl, lnk, hb2⟩
  obtain ⟨ap, rfl⟩ := lnk.ll.ptr
  have bs2 := bs1.keep hb2
  have br2 := br1.keep hb2
  have hbw2 := bStep hbw1 hb2
  have hs2 := hb2.size
  have hglen : gs.length = L.length := lnk.look.1
  have HG : Hid (∀ g ∈ gs, w1.heap.size ≤ g) := fun g hg => (lnk.ll.blk g hg).1
  have LD : Hid (Lnk w2.drew w1.heap.size w1.heap.size (.pointer ap) gs vs L) := lnk.keep (Below.refl _ _).drew
  have TD : Hid (Ts w2.drew (.slice aF F.length cF) F) := (HS.out.keep hbw2.drew).2
  have HX : Hid (∀ W, Kg gs w2 W → Bk W w.heap.size #[.slice aL L.length cL, .slice aF F.length cF] 26 ∧ Bk W (w.heap.size + 1) #[.slice none 0 0, .slice none 0 0] 26 ∧ Below w1.heap.size w1 W) := fun W hW => by
    refine ⟨?_, ?_, hW.below hb2 (by omega) HG.out⟩
    · unfold Bk; rw [hW.block _ bs2.lt (fun e => by have := HG.out _ e; omega)]; exact bs2
    · unfold Bk; rw [hW.block _ br2.lt (fun e => by have := HG.out _ e; omega)]; exact br2
  have hcur : Kg gs w2 w2.drew := Kg.of_below (Below.refl _ _).drew
  have hdz : w1.heap.size ≤ w2.drew.heap.size := hs2
  obtain ⟨q0, q1, _, _⟩ := bs2.two
  clear p0 p1 bs1 br1 lnk hb2 bs2 br2
  go_wp2_with fail
  go_region_held3 (fun W => W.cell? ⟨w.heap.size, 1, none⟩ = some (.slice aF F.length cF))
    (first | exact (HX.out _ hcur).1.two.2.1 | exact (HX.out _ hcur2).1.two.2.1)
    (first
      | (go_at_call 37; with_reducible refine (behind_c k _ gs vs _ _ LD.out.ll (by omega) (by omega)).mono ?_; rintro e wb ⟨rfl, rfl⟩)
      | (go_at_call 38; with_reducible refine (takeNext_any (.pointer ap) _ gs vs L F _ _ k _ LD.out TD.out hk hk2 hdz).mono ?_; rintro e w3 ⟨rfl, vs', lnk', kg'⟩; have hcur2 : Kg gs w2 w3 := hcur.trans kg'))
  all_goals
    obtain ⟨bs3, br3, hb3⟩ := HX.out _ hcur2
    have hs3 := hcur2.size
    have T3 := (HS.out.keep (bStep hbw1 hb3)).2
    obtain ⟨u0, u1, _, _⟩ := bs3.two
    go_wp2_with fail
    refine (spineOf_any (.pointer ap) _ _ vs' (joinO L F k) F w1.heap.size w1.heap.size w3 lnk' T3 HJL.out (by omega) (by omega)).mono ?_
    rintro e w4 ⟨lv', fv', rfl, sp4, hb4⟩
    have br4 := br3.keep hb4
    have hbw4 := bStep (bStep hbw1 hb3) hb4
    obtain ⟨ax, cx, ay, cy, rfl, rfl⟩ := sp4.open
    generalize hNL : (okL (joinO L F k) F).length = nL at *
    generalize hNF : (okF (joinO L F k) F).length = nF at *
    have q8 := (br4.set 0 (.slice ax nL cx)).set 1 (.slice ay nF cy)
    have q9 := br4.set 0 (.slice ax nL cx)
    obtain ⟨x0, x1, g0, g1⟩ := br4.two
    obtain ⟨y0, y1, h0, h1⟩ := q9.two
    obtain ⟨t0, t1, _, _⟩ := q8.two
    have HF : Hid (SpO ((w4.setCell ⟨w.heap.size + 1, 0, none⟩ (.slice ax nL cx)).setCell ⟨w.heap.size + 1, 1, none⟩ (.slice ay nF cy)) w.heap.size (.slice ax nL cx) (.slice ay nF cy) (joinL L F k) (joinF L F k) ∧ Below w.heap.size w ((w4.setCell ⟨w.heap.size + 1, 0, none⟩ (.slice ax nL cx)).setCell ⟨w.heap.size + 1, 1, none⟩ (.slice ay nF cy))) := by
      refine ⟨?_, (hbw4.setCell (show w.heap.size ≤ w.heap.size + 1 by omega) _).setCell (show w.heap.size ≤ w.heap.size + 1 by omega) _⟩
      rw [HN.out.2.1, HN.out.2.2]
      exact (sp4.set2 (by omega)).less (by omega)
    clear sp4 q8 q9 br3 br4 bs3 hb3 hb4 hbw4 lnk' kg' T3 hcur2 HX LD TD
    go_wp2_with fail
    refine bodyPost_ret (v := .tuple #[spv (.slice ax nL cx) (.slice ay nF cy), .bool (spokB (joinO L F k) F)]) (by simp [results, Tryz.results10, go_sem, t0, t1]) rfl ?_
    exact ⟨_, _, by rw [HN.out.1], HF.out.1, HF.out.2⟩
end Go.Proofs.YtjkojbafifbdgaaGreat
