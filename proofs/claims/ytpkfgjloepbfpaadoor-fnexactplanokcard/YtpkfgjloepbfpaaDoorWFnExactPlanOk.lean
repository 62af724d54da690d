/- The exact law of PlanOk: its walk. -/
import Derived.Test.YtpkfgjloepbfpaaDoorAnp
import Derived.Test.YtpkfgjloepbfpaaDoorAn9
import Derived.Test.YtpkfgjloepbfpaaDoorAnc
namespace Go.Proofs.YtpkfgjloepbfpaaDoor
open Go.RowKit Go.Shelf

set_option maxRecDepth 100000 in
set_option maxHeartbeats 16000000 in
theorem FnExactPlanOk.walk (ea : Addr) (t : RT) (s : Value) (w : World) (hf : t.fits) (hs : RdS 0 w t s) (hpw : Pow w) (hg : w.cell? ⟨0, 0, none⟩ = some (erV ea)) :
    Calls Tryd.prog 4 #[pl t.k t.n s] w fun e w' => e = .returned (.bool true) ∧ Below w.heap.size w w' := by
  have bA : Bk (w.alloc (.cells #[.int .i64 t.k, .int .i64 t.n, s] 31)) w.heap.size #[.int .i64 t.k, .int .i64 t.n, s] 31 := Bk.new _ _ rfl
  have hb0 : Below w.heap.size w (w.alloc (.cells #[.int .i64 t.k, .int .i64 t.n, s] 31)) := bAlloc (Below.refl _ _) _
  have HZ := (show Hid _ from szPlan_rt t (left := 1048576) (by omega) (by omega) (hs.keep hb0))
  have HS := (show Hid (RdS 0 w t s) from hs)
  have HP := (show Hid (Pow w) from hpw)
  have HF := (show Hid t.fits from hf)
  obtain ⟨a, c, rfl, _, _⟩ := hs.sl
  obtain ⟨x0, x1, x2⟩ := bA.three'
  have HA := (show Hid (Bk _ _ _ _) from bA)
  clear hs hpw hf bA
  go_enter Tryd.func4, Tryd.ntmps4
  go_wp2_with fail
  generalize (w.alloc (.cells #[.int .i64 t.k, .int .i64 t.n, .slice a t.m c] 31)) = W0 at *
  refine Calls.mono HZ.out ?_
  rintro e w1 ⟨rfl, hb1⟩
  have hbw1 := bStep hb0 hb1
  have HA1 := (show Hid (Bk _ _ _ _) from HA.out.keep hb1)
  obtain ⟨y0, y1, y2⟩ := HA1.out.three'
  clear x0 x1 x2 hb1
  by_cases hq : (1048576 : Int) < (t.nds : Int)
  · have hz : szN 1048576 t.nds = -1 := by unfold szN; rw [if_pos hq]
    rw [hz]
    go_wp2_with fail
    go_ret
    exact ⟨rfl, hbw1⟩
  · have hz : szN 1048576 t.nds = 1048576 - t.nds := by unfold szN; rw [if_neg hq]
    obtain ⟨l2, hl2⟩ : ∃ l2 : Int, 1048576 - (t.nds : Int) = l2 := ⟨_, rfl⟩
    have hl3 : ¬ l2 < 0 := by omega
    have HN : Hid (t.nds ≤ 1048576) := by show t.nds ≤ 1048576; omega
    have H1 := (show Hid _ from toPlan_rt t HN.out (HS.out.keep hbw1))
    rw [hz, hl2]
    clear hz hl2 hq
    go_wp2_with fail
    refine Calls.mono H1.out ?_
    rintro e w2 ⟨b2, d2, rfl, hr2, hb2⟩
    have H2 := (show Hid _ from specPlanOk_rt hr2)
    have hbw2 := bStep hbw1 hb2
    have HA2 := (show Hid (Bk _ _ _ _) from HA1.out.keep hb2)
    clear H1 hr2 hb2 y0 y1 y2
    go_wp2_with fail
    refine Calls.mono H2.out ?_
    rintro e w3 ⟨rfl, hb3⟩
    have hbw3 := bStep hbw2 hb3
    have HA3 := (show Hid (Bk _ _ _ _) from HA2.out.keep hb3)
    obtain ⟨y0, y1, y2⟩ := HA3.out.three'
    have H3 := (show Hid _ from toPlan_rt t HN.out (HS.out.keep hbw3))
    clear H2 hb3
    go_wp2_with fail
    refine Calls.mono H3.out ?_
    rintro e w4 ⟨b4, d4, rfl, hr4, hb4⟩
    have hbw4 := bStep hbw3 hb4
    have HA4 := (show Hid (Bk _ _ _ _) from HA3.out.keep hb4)
    have hal : Below w4.heap.size w4 (w4.alloc (.cells #[.int .i64 t.k, .int .i64 t.n, .slice b4 t.m d4] 25)) := bAlloc (Below.refl _ _) _
    have HR4 := (show Hid (RdS _ _ _ _) from hr4.keep hal)
    have HX := (show Hid (Bk _ _ _ _) from Bk.new (w := w4) #[.int .i64 t.k, .int .i64 t.n, .slice b4 t.m d4] 25 rfl)
    have HA5 := (show Hid (Bk _ _ _ _) from HA4.out.keep hal)
    have hbw5 := bStep hbw4 hal
    obtain ⟨z0, z1, z2⟩ := HX.out.three'
    have H4 := (show Hid _ from implPlanOk_rt ea HF.out (An.pow_keep HP.out hbw5 rfl) HR4.out (cell_below hbw5 hg))
    clear H3 hr4 hb4 y0 y1 y2 hal
    go_wp2_with fail
    generalize (w4.alloc (.cells #[.int .i64 t.k, .int .i64 t.n, .slice b4 t.m d4] 25)) = W5 at *
    generalize w4.heap.size = xb at *
    refine Calls.mono H4.out ?_
    rintro e w6 ⟨rfl, hb6⟩
    have hbw6 := bStep hbw5 hb6
    have HR6 := (show Hid (RdS _ _ _ _) from HR4.out.keep hb6)
    have HA6 := HA5.out.keep hb6
    have HX6 := HX.out.keep hb6
    obtain ⟨y0, y1, y2⟩ := HA6.three'
    clear H4 z0 z1 z2 hb6
    obtain ⟨z0, z1, z2⟩ := HX6.three'
    have hd : Below w6.heap.size w6 w6.drew := (Below.refl _ _).drew
    have hdw := bStep hbw6 hd
    have HT : Hid (∀ V : World, Below w6.heap.size w6 V → Calls Tryd.prog 9 #[pl t.k t.n (.slice a t.m c)] V fun e w' => ∃ b d, e = .returned (pl t.k t.n (.slice b t.m d)) ∧ RdS V.heap.size w' t (.slice b t.m d) ∧ Below V.heap.size V w') := fun V hV => toPlan_rt t HN.out (HS.out.keep (bStep hbw6 hV))
    have HE : Hid (∀ (V : World) (B' : Nat) (s' : Value), Below w6.heap.size w6 V → RdS B' V t s' → Calls Tryd.prog 10 #[pl t.k t.n (.slice b4 t.m d4), pl t.k t.n s'] V (TrueR V)) := fun V B' s' hV h => eqPlan_rt t (HR6.out.keep hV) h
    have HW : Hid (∀ V, Below w6.heap.size w6 V → (V.cell? ⟨w.heap.size, 0, none⟩ = some (.int .i64 t.k) ∧ V.cell? ⟨w.heap.size, 1, none⟩ = some (.int .i64 t.n) ∧ V.cell? ⟨w.heap.size, 2, none⟩ = some (.slice a t.m c)) ∧ V.cell? ⟨xb, 0, none⟩ = some (.int .i64 t.k) ∧ V.cell? ⟨xb, 1, none⟩ = some (.int .i64 t.n) ∧ V.cell? ⟨xb, 2, none⟩ = some (.slice b4 t.m d4)) := fun V hV => ⟨(HA6.keep hV).three', (HX6.keep hV).three'⟩
    clear HA6 HX6
    go_upto_region 5 with fail
    obtain ⟨⟨i0, i1, i2⟩, i3, i4, i5⟩ := HW.out _ hd
    go_region_law (first | (go_simp; go_at_call 9; refine Calls.mono (HT.out _ hd) ?_; rintro e w7 ⟨b7, d7, rfl, hr7, hb7⟩; have hc7 : Below w6.heap.size w6 w7 := bStep hd hb7; obtain ⟨⟨j0, j1, j2⟩, j3, j4, j5⟩ := HW.out _ hc7) | (go_simp; go_at_call 10; refine Calls.mono (HE.out _ _ _ hc7 hr7) ?_; rintro e w8 ⟨rfl, hb8⟩; have hc8 : Below w6.heap.size w6 w8 := bStep hc7 hb8; obtain ⟨⟨k0, k1, k2⟩, k3, k4, k5⟩ := HW.out _ hc8))
    all_goals
      go_wp2_with fail
      go_ret
      exact ⟨rfl, bStep hbw6 hc8⟩
end Go.Proofs.YtpkfgjloepbfpaaDoor
