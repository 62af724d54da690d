/- How a plan of any parts is written, by the program and by the model. -/
import Derived.Test.YtfofchgcbdbikaaDoorAn7
import Derived.Test.YtfofchgcbdbikaaDoorLp4
namespace Go.Proofs.YtfofchgcbdbikaaDoor
open Go.RowKit Go.Shelf

def planTextR (t : RT) : By := if An.pokB t.cut 4 then textT (anTo t.cut) else []
theorem specPlanOk_rt {t : RT} {B : Nat} {s : Value} {w : World} (hs : RdS B w t s) :
    Calls Tryd.prog 25 #[pl t.k t.n s] w fun e w' => e = .returned (.bool (An.pokB t.cut 4)) ∧ Below w.heap.size w w' := by
  have h := An.specPlanOk_any hs.cut
  rw [RT.cut_k, RT.cut_n] at h
  exact h
theorem implPlanOk_rt (ea : Addr) {t : RT} {B : Nat} {s : Value} {w : World} (hf : t.fits) (hpw : Pow w) (hs : RdS B w t s) (hg : w.cell? ⟨0, 0, none⟩ = some (erV ea)) :
    Calls Tryd.prog 14 #[pl t.k t.n s] w fun e w' => e = .returned (.bool (An.pokB t.cut 4)) ∧ Below w.heap.size w w' := by
  have h := An.implPlanOk_any ea (RT.cut_sm hf) hpw hs.cut hg
  rw [RT.cut_k, RT.cut_n] at h
  exact h
theorem say_rt {t : RT} {B : Nat} {s : Value} {w : World} (hp : An.pokB t.cut 4 = true) (hs : RdS B w t s) :
    Calls Tryd.prog 26 #[pl t.k t.n s] w fun e w' => e = .returned (.string (baS (textT (anTo t.cut)))) ∧ Below w.heap.size w w' := by
  have h := say_any 4 (anTo t.cut) (by omega) (an_ok hp) (an_kds hp hs.cut)
  rw [anTo_k, anTo_n, RT.cut_k, RT.cut_n] at h
  exact h
set_option maxRecDepth 100000 in
set_option maxHeartbeats 4000000 in
theorem implPlanText_rt (ea : Addr) {t : RT} {B : Nat} {s : Value} {w : World} (hf : t.fits) (hpw : Pow w) (hs : RdS B w t s) (hg : w.cell? ⟨0, 0, none⟩ = some (erV ea)) :
    Calls Tryd.prog 8 #[pl t.k t.n s] w fun e w' => e = .returned (.string (baS (planTextR t))) ∧ Below w.heap.size w w' := by
  have bP : Bk (w.alloc (.cells #[.int .i64 t.k, .int .i64 t.n, s] 25)) w.heap.size #[.int .i64 t.k, .int .i64 t.n, s] 25 := Bk.new _ _ rfl
  have hb0 : Below w.heap.size w (w.alloc (.cells #[.int .i64 t.k, .int .i64 t.n, s] 25)) := bAlloc (Below.refl _ _) _
  obtain ⟨x0, x1, x2⟩ := bP.three'
  have HC := (show Hid _ from (show Calls Tryd.prog 22 #[pl t.k t.n s, .int .i64 1] _ _ from by have h := An.okPlan_any ea 4 t.cut 1 (by omega) (by omega) (RT.cut_sm hf) (An.pow_keep hpw hb0 rfl) (hs.cut.keep hb0) (cell_below hb0 hg); rw [RT.cut_k, RT.cut_n] at h; exact h))
  obtain ⟨a, c, rfl, _, _⟩ := hs.sl
  clear hs hf hpw bP
  go_enter Tryd.func8, Tryd.ntmps8
  go_wp2_with fail
  refine Calls.mono HC.out ?_
  rintro e w1 ⟨hor, hb1⟩
  have hbw := bStep hb0 hb1
  clear HC x0 x1 x2
  rcases hor with ⟨hp0, a3, n3, c3, rfl, hok0⟩ | ⟨hp, rfl⟩
  · have hb2 := bAlloc hbw (.cells #[kiV (anTo t.cut), .slice a3 n3 c3] 49)
    have hg2 := cell_below hb2 hg
    have b3 : Bk (w1.alloc (.cells #[kiV (anTo t.cut), .slice a3 n3 c3] 49)) w1.heap.size #[kiV (anTo t.cut), .slice a3 n3 c3] 49 := Bk.new _ _ rfl
    have hok := an_oks hp0 hok0
    rw [← an_ki] at *
    have HO := (show Hid _ from okS_keepL (bAlloc (Below.refl _ _) (.cells #[kiV (anTo t.cut), .slice a3 n3 c3] 49)) hok)
    have HP := (show Hid (An.pokB t.cut 4 = true) from hp0)
    clear hok hok0 hp0
    go_wp2_with fail
    refine (is_nil _ _).mono ?_
    rintro e w2 ⟨rfl, rfl⟩
    obtain ⟨y0, y1, _, _⟩ := b3.two
    go_wp2_with fail
    refine (text_any 4 (anTo t.cut) (by omega) (an_ok HP.out) HO.out).mono ?_
    rintro e w3 ⟨rfl, hb3⟩
    have hbf := bStep hb2 hb3
    go_wp2_with fail
    go_ret
    exact ⟨by unfold planTextR; rw [HP.out]; rfl, hbf⟩
  · have hb2 := bAlloc hbw (.cells #[.nilIface, .slice none 0 0] 49)
    have hg2 := cell_below hb2 hg
    go_wp2_with fail
    refine (is_same _ _).mono ?_
    rintro e w2 ⟨rfl, rfl⟩
    go_wp2_with fail
    go_ret
    exact ⟨by unfold planTextR; rw [hp]; rfl, hb2⟩
set_option maxRecDepth 100000 in
set_option maxHeartbeats 4000000 in
theorem specPlanText_rt {t : RT} {B : Nat} {s : Value} {w : World} (hs : RdS B w t s) :
    Calls Tryd.prog 9 #[pl t.k t.n s] w fun e w' => e = .returned (.string (baS (planTextR t))) ∧ Below w.heap.size w w' := by
  have bP : Bk (w.alloc (.cells #[.int .i64 t.k, .int .i64 t.n, s] 25)) w.heap.size #[.int .i64 t.k, .int .i64 t.n, s] 25 := Bk.new _ _ rfl
  have hb0 : Below w.heap.size w (w.alloc (.cells #[.int .i64 t.k, .int .i64 t.n, s] 25)) := bAlloc (Below.refl _ _) _
  have HS := (show Hid _ from hs.keep hb0)
  obtain ⟨a, c, rfl, _, _⟩ := hs.sl
  obtain ⟨x0, x1, x2⟩ := bP.three'
  clear hs
  go_enter Tryd.func9, Tryd.ntmps9
  go_wp2_with fail
  refine (specPlanOk_rt HS.out).mono ?_
  rintro e w1 ⟨rfl, hb1⟩
  have hbw := bStep hb0 hb1
  have HS1 := (show Hid _ from HS.out.keep hb1)
  obtain ⟨y0, y1, y2⟩ := (bP.keep hb1).three'
  clear x0 x1 x2
  cases hp : An.pokB t.cut 4
  · go_wp2_with fail
    go_ret
    exact ⟨by unfold planTextR; rw [hp]; rfl, hbw⟩
  · have HP := (show Hid (An.pokB t.cut 4 = true) from hp)
    clear hp
    go_wp2_with fail
    refine (say_rt HP.out HS1.out).mono ?_
    rintro e w2 ⟨rfl, hb2⟩
    have hbf := bStep hbw hb2
    go_wp2_with fail
    go_ret
    exact ⟨by unfold planTextR; rw [HP.out]; rfl, hbf⟩
end Go.Proofs.YtfofchgcbdbikaaDoor
