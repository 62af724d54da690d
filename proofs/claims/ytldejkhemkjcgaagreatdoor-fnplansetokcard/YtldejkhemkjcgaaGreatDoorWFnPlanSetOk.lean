import Derived.Test.YtldejkhemkjcgaaGreatDoorGmi
import Derived.Test.YtldejkhemkjcgaaGreatDoorDp2
import Derived.Test.YtldejkhemkjcgaaGreatDoorGd3
import Derived.Test.YtldejkhemkjcgaaGreatDoorGtX
namespace Go.Proofs.YtldejkhemkjcgaaGreatDoor
open Go.RowKit
namespace FnPlanSetOk
set_option maxRecDepth 100000 in
set_option maxHeartbeats 8000000 in
theorem walk (ea : Addr) (x0 : Option Addr) (len0 cap0 : Nat) (w : World) (h0 : Src w (.slice x0 len0 cap0) len0) (hg : w.cell? ⟨0, 0, none⟩ = some (erV ea)) :
    Calls Tryz.prog 12 #[.slice x0 len0 cap0] w fun e w' => e = .returned (.bool true) ∧ Below w.heap.size w w' := by
  by_cases g0 : (1048576 : Int) < (len0 : Int)
  · go_enter Tryz.func12, Tryz.ntmps12
    go_wp2_with fail
    go_ret
    exact ⟨rfl, Below.refl _ _⟩
  go_enter Tryz.func12, Tryz.ntmps12
  go_wp2_with fail
  refine (drawPlanSet_any _ _ _ _ h0).mono ?_
  rintro e w1 ⟨t, a2, i2, c2, iv, K, rfl, hsm, KD_1, LY_1, hfew, hKl, hb1⟩
  have hbw1 := hb1
  clear h0 hb1
  obtain rfl : i2 = t.len := by obtain ⟨q1, q2, e⟩ := KdS.sl KD_1; cases e; rfl
  obtain ⟨ia, ic, eiv⟩ := LyI.sl LY_1
  subst eiv
  have HM := (show Hid (t.sm) from hsm)
  have HW : Hid (∀ l ∈ K, absum l ≤ 33) := fun l hl => by have := (hfew l hl).2; omega
  clear hsm hfew
  have hbx2 : Below w1.heap.size w1 (w1.alloc (.cells #[.int .i64 t.k, .int .i64 t.n, .slice a2 t.len c2] 25)) := bAlloc (Below.refl _ _) _
  have PB_2 : Bk (w1.alloc (.cells #[.int .i64 t.k, .int .i64 t.n, .slice a2 t.len c2] 25)) w1.heap.size #[.int .i64 t.k, .int .i64 t.n, .slice a2 t.len c2] 25 := Bk.new _ _ rfl
  have KD_2 := KD_1.keep hbx2
  have LY_2 := LY_1.keep hbx2
  have hbw2 := bStep hbw1 hbx2
  clear KD_1 LY_1 hbw1 hbx2
  rcases hf : flowI t K with _ | r
  · have HF := (show Hid (flowI t K = none) from hf)
    clear hf
    obtain ⟨y00_2, y01_2, y02_2⟩ := PB_2.three'
    go_wp2_with fail
    clear y00_2 y01_2 y02_2
    refine (specSet_no HF.out HW.out KD_2 LY_2).mono ?_
    rintro e w3 ⟨ow, rfl, W_3, hb3⟩
    have KD_3 := KD_2.keep hb3
    have LY_3 := LY_2.keep hb3
    have PB_3 := PB_2.keep hb3
    have hbw3 := bStep hbw2 hb3
    clear KD_2 LY_2 PB_2 hbw2 hb3
    obtain ⟨y00_3, y01_3, y02_3⟩ := PB_3.three'
    go_wp2_with fail
    clear y00_3 y01_3 y02_3
    refine (implSet_no ea HF.out HW.out HM.out KD_3 LY_3 (cell_below hbw3 hg)).mono ?_
    rintro e w4 ⟨ox, rfl, X_4, hb4⟩
    have KD_4 := KD_3.keep hb4
    have LY_4 := LY_3.keep hb4
    have PB_4 := PB_3.keep hb4
    have W_4 := W_3.keep hb4
    have hbw4 := bStep hbw3 hb4
    clear KD_3 LY_3 PB_3 W_3 hbw3 hb4
    obtain ⟨ax, cx, ex, -⟩ := Is.open X_4
    subst ex
    obtain ⟨y00_4, y01_4, y02_4⟩ := PB_4.three'
    go_wp2_with fail
    clear y00_4 y01_4 y02_4
    refine (lwItems_eq (selfI _) X_4 W_4).mono ?_
    rintro e w5 ⟨rfl, hb5⟩
    have KD_5 := KD_4.keep hb5
    have LY_5 := LY_4.keep hb5
    have PB_5 := PB_4.keep hb5
    have W_5 := W_4.keep hb5
    have X_5 := X_4.keep hb5
    have hbw5 := bStep hbw4 hb5
    clear KD_4 LY_4 PB_4 W_4 X_4 hbw4 hb5
    obtain ⟨y00_5, y01_5, y02_5⟩ := PB_5.three'
    go_wp2_with fail
    clear y00_5 y01_5 y02_5
    refine (implSetOk_eq sok_nil X_5).mono ?_
    rintro e w6 ⟨rfl, hb6⟩
    have KD_6 := KD_5.keep hb6
    have LY_6 := LY_5.keep hb6
    have PB_6 := PB_5.keep hb6
    have W_6 := W_5.keep hb6
    have X_6 := X_5.keep hb6
    have hbw6 := bStep hbw5 hb6
    clear KD_5 LY_5 PB_5 W_5 X_5 hbw5 hb6
    obtain ⟨y00_6, y01_6, y02_6⟩ := PB_6.three'
    go_wp2_with fail
    go_ret
    exact ⟨rfl, hbw6⟩
  · have HF := (show Hid (flowI t K = some r) from hf)
    clear hf
    obtain ⟨y00_2, y01_2, y02_2⟩ := PB_2.three'
    go_wp2_with fail
    clear y00_2 y01_2 y02_2
    refine (specSet_yes HF.out HW.out KD_2 LY_2).mono ?_
    rintro e w3 ⟨ow, rfl, W_3, hb3⟩
    have KD_3 := KD_2.keep hb3
    have LY_3 := LY_2.keep hb3
    have PB_3 := PB_2.keep hb3
    have hbw3 := bStep hbw2 hb3
    clear KD_2 LY_2 PB_2 hbw2 hb3
    obtain ⟨y00_3, y01_3, y02_3⟩ := PB_3.three'
    go_wp2_with fail
    clear y00_3 y01_3 y02_3
    refine (implSet_yes ea HF.out HW.out HM.out KD_3 LY_3 (cell_below hbw3 hg)).mono ?_
    rintro e w4 ⟨ox, rfl, X_4, hb4⟩
    have KD_4 := KD_3.keep hb4
    have LY_4 := LY_3.keep hb4
    have PB_4 := PB_3.keep hb4
    have W_4 := W_3.keep hb4
    have hbw4 := bStep hbw3 hb4
    clear KD_3 LY_3 PB_3 W_3 hbw3 hb4
    obtain ⟨y00_4, y01_4, y02_4⟩ := PB_4.three'
    go_wp2_with fail
    clear y00_4 y01_4 y02_4
    refine (lwItems_eq (selfI _) X_4 W_4).mono ?_
    rintro e w5 ⟨rfl, hb5⟩
    have KD_5 := KD_4.keep hb5
    have LY_5 := LY_4.keep hb5
    have PB_5 := PB_4.keep hb5
    have W_5 := W_4.keep hb5
    have X_5 := X_4.keep hb5
    have hbw5 := bStep hbw4 hb5
    clear KD_4 LY_4 PB_4 W_4 X_4 hbw4 hb5
    obtain ⟨y00_5, y01_5, y02_5⟩ := PB_5.three'
    go_wp2_with fail
    clear y00_5 y01_5 y02_5
    refine (implSetOk_eq (flowI_sok HF.out) X_5).mono ?_
    rintro e w6 ⟨rfl, hb6⟩
    have KD_6 := KD_5.keep hb6
    have LY_6 := LY_5.keep hb6
    have PB_6 := PB_5.keep hb6
    have W_6 := W_5.keep hb6
    have X_6 := X_5.keep hb6
    have hbw6 := bStep hbw5 hb6
    clear KD_5 LY_5 PB_5 W_5 X_5 hbw5 hb6
    obtain ⟨y00_6, y01_6, y02_6⟩ := PB_6.three'
    go_wp2_with fail
    go_ret
    exact ⟨rfl, hbw6⟩
end FnPlanSetOk
end Go.Proofs.YtldejkhemkjcgaaGreatDoor
