/- A plan of any parts made anew by the exact laws: the whole. -/
import Derived.Test.YtpkfgjloepbfpaaDoorAnb
namespace Go.Proofs.YtpkfgjloepbfpaaDoor
open Go.RowKit Go.Shelf

set_option maxRecDepth 100000 in
set_option maxHeartbeats 8000000 in
theorem toPlan_rone {t : RT} {B : Nat} {s : Value} {w : World} (hs : RdS B w t s)
    (hrec : ∀ (W : World), RdS B W t s → Calls Tryd.prog 17 #[s] W (MadeR t W)) :
    Calls Tryd.prog 9 #[pl t.k t.n s] w fun e w' => ∃ b d, e = .returned (pl t.k t.n (.slice b t.m d)) ∧ RdF w.heap.size w' t (.slice b t.m d) ∧ Below w.heap.size w w' := by
  have HRC := (show Hid _ from hrec)
  have HS := (show Hid (RdS B w t s) from hs)
  obtain ⟨a, c, rfl, _, _⟩ := hs.sl
  clear hs hrec
  go_enter Tryd.func9, Tryd.ntmps9
  go_upto_region 2 with fail
  have bi : Bk (((w.alloc (.cells #[.int .i64 t.k, .int .i64 t.n, .slice a t.m c] 31)).alloc (.cells #[.int .i64 0, .int .i64 0, .slice none 0 0] 25)).alloc (.cells #[.int .i64 0, .int .i64 0, .slice none 0 0] 25)) w.heap.size #[.int .i64 t.k, .int .i64 t.n, .slice a t.m c] 31 := ((Bk.new _ _ rfl).alloc _).alloc _
  have br : Bk (((w.alloc (.cells #[.int .i64 t.k, .int .i64 t.n, .slice a t.m c] 31)).alloc (.cells #[.int .i64 0, .int .i64 0, .slice none 0 0] 25)).alloc (.cells #[.int .i64 0, .int .i64 0, .slice none 0 0] 25)) (w.heap.size + 1) #[.int .i64 0, .int .i64 0, .slice none 0 0] 25 := (Bk.new _ _ (by simp)).alloc _
  have bo : Bk (((w.alloc (.cells #[.int .i64 t.k, .int .i64 t.n, .slice a t.m c] 31)).alloc (.cells #[.int .i64 0, .int .i64 0, .slice none 0 0] 25)).alloc (.cells #[.int .i64 0, .int .i64 0, .slice none 0 0] 25)) (w.heap.size + 1 + 1) #[.int .i64 0, .int .i64 0, .slice none 0 0] 25 := Bk.new _ _ (by simp)
  have hbw : Below w.heap.size w (((w.alloc (.cells #[.int .i64 t.k, .int .i64 t.n, .slice a t.m c] 31)).alloc (.cells #[.int .i64 0, .int .i64 0, .slice none 0 0] 25)).alloc (.cells #[.int .i64 0, .int .i64 0, .slice none 0 0] 25)) := bAlloc (bAlloc (bAlloc (Below.refl _ _) _) _) _
  generalize (((w.alloc (.cells #[.int .i64 t.k, .int .i64 t.n, .slice a t.m c] 31)).alloc (.cells #[.int .i64 0, .int .i64 0, .slice none 0 0] 25)).alloc (.cells #[.int .i64 0, .int .i64 0, .slice none 0 0] 25)) = w1 at *
  generalize hO : w.heap.size + 1 + 1 = o at *
  generalize hR : w.heap.size + 1 = r at *
  have hro : r ≠ o := by omega
  have hor : o ≠ r := by omega
  have hwr : w.heap.size ≤ r := by omega
  have hwo : w.heap.size ≤ o := by omega
  have hio : w.heap.size ≠ o := by omega
  have HLT : Hid (r < o) := by show r < o; omega
  clear hO hR
  obtain ⟨i0, i1, i2⟩ := bi.three'
  have bo1 : Bk (w1.setCell ⟨o, 0, none⟩ (.int .i64 t.k)) o #[.int .i64 t.k, .int .i64 0, .slice none 0 0] 25 := bo.set 0 (.int .i64 t.k)
  have bo2 : Bk ((w1.setCell ⟨o, 0, none⟩ (.int .i64 t.k)).setCell ⟨o, 1, none⟩ (.int .i64 t.n)) o #[.int .i64 t.k, .int .i64 t.n, .slice none 0 0] 25 := bo1.set 1 (.int .i64 t.n)
  have br2 := (br.apart (p := ⟨o, 0, none⟩) hro (.int .i64 t.k)).apart (p := ⟨o, 1, none⟩) hro (.int .i64 t.n)
  have hb12 : Below w.heap.size w ((w1.setCell ⟨o, 0, none⟩ (.int .i64 t.k)).setCell ⟨o, 1, none⟩ (.int .i64 t.n)) := (hbw.setCell (by exact hwo) _).setCell (by exact hwo) _
  have f0 := bo.free 0
  have f1 := bo1.free 1
  obtain ⟨c0, _, _⟩ := bo.three'
  obtain ⟨_, c1, _⟩ := bo1.three'
  obtain ⟨_, i4, _⟩ := (bi.apart (p := ⟨o, 0, none⟩) hio (.int .i64 t.k)).three'
  obtain ⟨_, _, i5⟩ := ((bi.apart (p := ⟨o, 0, none⟩) hio (.int .i64 t.k)).apart (p := ⟨o, 1, none⟩) hio (.int .i64 t.n)).three'
  have HC := (show Hid _ from HRC.out _ (HS.out.keep hb12))
  have HLo := (show Hid (o < w1.heap.size) from bo.lt)
  have HB12 := (show Hid _ from hb12)
  have HBO := (show Hid (Bk _ _ _ _) from bo2)
  have HBR := (show Hid (Bk _ _ _ _) from br2)
  clear bo1 bo2 br2 br bo bi hb12 hbw
  go_wp2_with fail
  refine Calls.mono HC.out ?_
  rintro e w2 ⟨b, d, rfl, hnew, hb2⟩
  have HN := (show Hid (RdF _ _ _ _) from hnew)
  have hs1 : ((w1.setCell ⟨o, 0, none⟩ (.int .i64 t.k)).setCell ⟨o, 1, none⟩ (.int .i64 t.n)).heap.size = w1.heap.size := by simp
  have HSZ := (show Hid (_ = _) from hs1)
  have hbf := bStep HB12.out hb2
  have bo3 := HBO.out.keep hb2
  have br3 := HBR.out.keep hb2
  clear HC hnew i0 i1 i2 i4 i5 c0 c1 f0 f1 hs1 hb2
  obtain ⟨c0, c1, c2⟩ := bo3.three'
  have f2 := bo3.free 2
  have bo4 : Bk (w2.setCell ⟨o, 2, none⟩ (.slice b t.m d)) o #[.int .i64 t.k, .int .i64 t.n, .slice b t.m d] 25 := bo3.set 2 (.slice b t.m d)
  have br4 := br3.apart (p := ⟨o, 2, none⟩) hro (.slice b t.m d)
  obtain ⟨x0, x1, x2⟩ := bo4.three'
  obtain ⟨r0, r1, r2⟩ := br4.three'
  have g0 := br4.free 0
  have g1 := br4.free 1
  have g2 := br4.free 2
  have br8 : Bk ((((w2.setCell ⟨o, 2, none⟩ (.slice b t.m d)).setCell ⟨r, 0, none⟩ (.int .i64 t.k)).setCell ⟨r, 1, none⟩ (.int .i64 t.n)).setCell ⟨r, 2, none⟩ (.slice b t.m d)) r #[.int .i64 t.k, .int .i64 t.n, .slice b t.m d] 25 := ((br4.set 0 (.int .i64 t.k)).set 1 (.int .i64 t.n)).set 2 (.slice b t.m d)
  have HFB : Hid (Below w.heap.size w ((((w2.setCell ⟨o, 2, none⟩ (.slice b t.m d)).setCell ⟨r, 0, none⟩ (.int .i64 t.k)).setCell ⟨r, 1, none⟩ (.int .i64 t.n)).setCell ⟨r, 2, none⟩ (.slice b t.m d))) := (((hbf.setCell (by exact hwo) _).setCell (by exact hwr) _).setCell (by exact hwr) _).setCell (by exact hwr) _
  have HFR : Hid (RdF w.heap.size ((((w2.setCell ⟨o, 2, none⟩ (.slice b t.m d)).setCell ⟨r, 0, none⟩ (.int .i64 t.k)).setCell ⟨r, 1, none⟩ (.int .i64 t.n)).setCell ⟨r, 2, none⟩ (.slice b t.m d)) t (.slice b t.m d)) := by
    have h1 := HSZ.out
    have h2 := HLo.out
    have h3 := HLT.out
    refine RdF.less (B := ((w1.setCell ⟨o, 0, none⟩ (.int .i64 t.k)).setCell ⟨o, 1, none⟩ (.int .i64 t.n)).heap.size) (by omega) (HN.out.move fun x hx _ => ?_)
    have hxo : x ≠ o := by omega
    have hxr : x ≠ r := by omega
    exact (((Below.heap_setCell _ _ _ _ hxr).trans (Below.heap_setCell _ _ _ _ hxr)).trans (Below.heap_setCell _ _ _ _ hxr)).trans (Below.heap_setCell _ _ _ _ hxo)
  have HY := (show Hid (Bk _ _ _ _) from br8)
  clear bo3 br3 bo4 br4 br8 hbf HN
  go_wp2_with fail
  obtain ⟨y0, y1, y2⟩ := HY.out.three'
  refine bodyPost_ret (v := pl t.k t.n (.slice b t.m d)) (by simp [results, Tryd.results9, go_sem, y0, y1, y2]) rfl ?_
  exact ⟨b, d, rfl, HFR.out, HFB.out⟩
theorem toPlanS_rt : ∀ (t : RT) {B : Nat} {s : Value} {w : World}, t.nds ≤ 1048576 → RdS B w t s → Calls Tryd.prog 17 #[s] w (MadeR t w)
  | .nil, _, _, _, _, hs => hs.elim
  | .mk k n m f, _, _, _, hn, hs => toPlanS_rstep (by have := RT.nds_eq (.mk k n m f); omega) hs fun i hi _ _ h => toPlan_rone (t := f i) h fun _ h => toPlanS_rt (f i) (by
    have h1 := RT.nds_eq (.mk k n m f)
    have h2 := RT.upto_le (.mk k n m f) (show i + 1 ≤ m from hi)
    have h3 : RT.upto (.mk k n m f) (i + 1) = RT.upto (.mk k n m f) i + (f i).nds := rfl
    have h4 : (RT.mk k n m f).m = m := rfl
    rw [h4] at h1
    omega) h
theorem toPlan_rtF (t : RT) {B : Nat} {s : Value} {w : World} (hn : t.nds ≤ 1048576) (hs : RdS B w t s) :
    Calls Tryd.prog 9 #[pl t.k t.n s] w fun e w' => ∃ b d, e = .returned (pl t.k t.n (.slice b t.m d)) ∧ RdF w.heap.size w' t (.slice b t.m d) ∧ Below w.heap.size w w' :=
  toPlan_rone hs fun _ h => toPlanS_rt t hn h
theorem toPlan_rt (t : RT) {B : Nat} {s : Value} {w : World} (hn : t.nds ≤ 1048576) (hs : RdS B w t s) :
    Calls Tryd.prog 9 #[pl t.k t.n s] w fun e w' => ∃ b d, e = .returned (pl t.k t.n (.slice b t.m d)) ∧ RdS w.heap.size w' t (.slice b t.m d) ∧ Below w.heap.size w w' :=
  (toPlan_rtF t hn hs).mono fun _ _ ⟨b, d, h1, h2, h3⟩ => ⟨b, d, h1, h2.rd, h3⟩
end Go.Proofs.YtpkfgjloepbfpaaDoor
