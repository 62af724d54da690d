/- A plan that is refused, whatever its number. -/
import Derived.Test.YtpkfgjloepbfpaaDoorAn2
namespace Go.Proofs.YtpkfgjloepbfpaaDoor
open Go.RowKit Go.Shelf
namespace An
set_option maxRecDepth 100000 in
set_option maxHeartbeats 16000000 in
theorem okPlan_bad (ea : Addr) {T F : Nat} {t : PT} {B : Nat} {s : Value} {w : World} {deep : Int} (H : KindIs t.k T F) (hn : -9223372036854775808 ≤ t.n ∧ t.n ≤ 9223372036854775807) (hpw : Pow w) (hs : KdS B w t s) (hg : w.cell? ⟨0, 0, none⟩ = some (erV ea))
    (hbad : 4 < deep ∨ (¬ 4 < deep ∧ ¬ (t.len : Int) = kidN t.k) ∨ (¬ 4 < deep ∧ (t.len : Int) = kidN t.k ∧ t.n < numLo t.k) ∨ (¬ 4 < deep ∧ (t.len : Int) = kidN t.k ∧ ¬ t.n < numLo t.k ∧ numHi t.k < t.n)) :
    Calls Tryd.prog 13 #[pl t.k t.n s, .int .i64 deep] w fun e w' => e = .returned (.tuple #[okZ, erV ea]) ∧ Below w.heap.size w w' := by
  obtain ⟨a, c, rfl⟩ := hs.sl
  have HPW := (show Hid (Pow w) from hpw)
  clear hpw
  have HS := (show Hid (ShapeOf t.k F) from H.shape)
  have HK := (show Hid _ from H.kind)
  have hme := H.meth
  have hen := H.enters
  have bP : Bk ((w.alloc (.cells #[.int .i64 t.k, .int .i64 t.n, .slice a t.len c] 25)).alloc (.cells #[.nilIface, .slice none 0 0] 43)) w.heap.size #[.int .i64 t.k, .int .i64 t.n, .slice a t.len c] 25 := (Bk.new _ _ rfl).alloc _
  have bR : Bk ((w.alloc (.cells #[.int .i64 t.k, .int .i64 t.n, .slice a t.len c] 25)).alloc (.cells #[.nilIface, .slice none 0 0] 43)) (w.heap.size + 1) #[.nilIface, .slice none 0 0] 43 := Bk.new _ _ (by simp)
  have hb0 : Below w.heap.size w ((w.alloc (.cells #[.int .i64 t.k, .int .i64 t.n, .slice a t.len c] 25)).alloc (.cells #[.nilIface, .slice none 0 0] 43)) := bAlloc (bAlloc (Below.refl _ _) _) _
  clear hs H
  obtain ⟨x0, x1, x2⟩ := bP.three'
  go_enter Tryd.func13, Tryd.ntmps13
  go_wp2_with fail
  generalize ((w.alloc (.cells #[.int .i64 t.k, .int .i64 t.n, .slice a t.len c] 25)).alloc (.cells #[.nilIface, .slice none 0 0] 43)) = W0 at *
  refine (HK.out t.n _ _).mono ?_
  rintro e w1 ⟨rfl, hb1⟩
  have bP1 := bP.keep hb1
  have bR1 := bR.keep hb1
  have hbw1 := bStep hb0 hb1
  clear x0 x1 x2 bP bR hb0 hb1
  go_wp2_with fail
  refine (HS.out t.n _ hn (pow_keep HPW.out hbw1 rfl)).mono ?_
  rintro e w2 ⟨⟨sx, rfl⟩, hb2⟩
  have bS : Bk (w2.alloc (.cells #[.string sx, .int .i64 (kidN t.k), .int .i64 (numLo t.k), .int .i64 (numHi t.k)] 60)) w2.heap.size #[.string sx, .int .i64 (kidN t.k), .int .i64 (numLo t.k), .int .i64 (numHi t.k)] 60 := Bk.new _ _ rfl
  have hbS : Below w2.heap.size w2 (w2.alloc (.cells #[.string sx, .int .i64 (kidN t.k), .int .i64 (numLo t.k), .int .i64 (numHi t.k)] 60)) := bAlloc (Below.refl _ _) _
  have bP2 := (bP1.keep hb2).keep hbS
  have bR2 := (bR1.keep hb2).keep hbS
  have hbw2 := bStep (bStep hbw1 hb2) hbS
  have hg2 := cell_below hbw2 hg
  clear hb2 hbS bP1 bR1 hbw1 hme hen
  go_upto_region 5 with fail
  generalize (w2.alloc (.cells #[.string sx, .int .i64 (kidN t.k), .int .i64 (numLo t.k), .int .i64 (numHi t.k)] 60)) = W3 at *
  generalize w2.heap.size = sb at *
  obtain ⟨x0, x1, x2⟩ := bP2.three'
  obtain ⟨s0, s1, s2, s3⟩ := bS.four'
  obtain ⟨r0, r1, f0, f1⟩ := bR2.two
  have bo := (bR2.set01 .nilIface (.slice none 0 0)).drew
  have hbo : Below w.heap.size w ((W3.setCell ⟨w.heap.size + 1, 0, none⟩ .nilIface).setCell ⟨w.heap.size + 1, 1, none⟩ (.slice none 0 0)).drew := ((hbw2.setCell (by simp) _).setCell (by simp) _).drew
  obtain ⟨y0, y1, _, _⟩ := bo.two
  have hy0 : W3.drew.cell? ⟨0, 0, none⟩ = some (erV ea) := hg2
  clear bP2 bS bR2 bo HS HK
  rcases hbad with h1 | ⟨h1, h2⟩ | ⟨h1, h2, h3⟩ | ⟨h1, h2, h3, h4⟩
  all_goals
    go_wp2_with fail
    go_region
    go_wp2_with fail
    refine bodyPost_ret (v := .tuple #[okZ, erV ea]) (by simp [results, Tryd.results13, go_sem, y0, y1]; try rfl) rfl ?_
    exact ⟨rfl, hbo⟩
end An
end Go.Proofs.YtpkfgjloepbfpaaDoor
