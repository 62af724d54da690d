import Derived.Test.YtldejkhemkjcgaaGreatDoorGmr
import Derived.Test.YtldejkhemkjcgaaGreatDoorDp1
import Derived.Test.YtldejkhemkjcgaaGreatDoorGd3
import Derived.Test.YtldejkhemkjcgaaGreatDoorPw3
namespace Go.Proofs.YtldejkhemkjcgaaGreatDoor
open Go.RowKit
theorem flow_first {t : PT} {a b r : List Rw} (h : flowR t [a, b] = some r) (hf : firstB t = true) : flowR t [a, []] = some r := by
  obtain ⟨a', b', e, hp, ha, hb, hr⟩ := flowR_some h
  simp only [List.cons.injEq, and_true] at e
  obtain ⟨rfl, rfl⟩ := e
  rw [flowR_two hp ha bok_nil, ← plan_first hp hf (b := b)]; exact hr
theorem nilP (w : World) : Rs w (.slice none 0 0) [] := OwnR.rs (ownK_nil rowC 5 56 w 0) (by simp)
namespace FnPlanIns
set_option maxRecDepth 100000 in
set_option maxHeartbeats 8000000 in
theorem walk (ea : Addr) (x0 : Option Addr) (len0 cap0 : Nat) (w : World) (h0 : Src w (.slice x0 len0 cap0) len0) (hg : w.cell? ⟨0, 0, none⟩ = some (erV ea)) :
    Calls Tryz.prog 11 #[.slice x0 len0 cap0] w fun e w' => e = .returned (.bool true) ∧ Below w.heap.size w w' := by
  by_cases g0 : (1048576 : Int) < (len0 : Int)
  · go_enter Tryz.func11, Tryz.ntmps11
    go_wp2_with fail
    go_ret
    exact ⟨rfl, Below.refl _ _⟩
  go_enter Tryz.func11, Tryz.ntmps11
  go_wp2_with fail
  refine (drawPlanFlow_any _ _ _ _ h0).mono ?_
  rintro e w1 ⟨t, a2, i2, c2, iv, K, rfl, hsm, KD_1, LY_1, hfew, hKl, hb1⟩
  have hbw1 := hb1
  clear h0 hb1
  obtain rfl : i2 = t.len := by obtain ⟨q1, q2, e⟩ := KdS.sl KD_1; cases e; rfl
  obtain ⟨ia, ic, eiv⟩ := LyR.sl LY_1
  subst eiv
  have HM := (show Hid (t.sm) from hsm)
  have HW := (show Hid (∀ l ∈ K, fewR l) from hfew)
  clear hsm hfew
  have hbx2 : Below w1.heap.size w1 (w1.alloc (.cells #[.int .i64 t.k, .int .i64 t.n, .slice a2 t.len c2] 25)) := bAlloc (Below.refl _ _) _
  have PB_2 : Bk (w1.alloc (.cells #[.int .i64 t.k, .int .i64 t.n, .slice a2 t.len c2] 25)) w1.heap.size #[.int .i64 t.k, .int .i64 t.n, .slice a2 t.len c2] 25 := Bk.new _ _ rfl
  have KD_2 := KD_1.keep hbx2
  have LY_2 := LY_1.keep hbx2
  have hbw2 := bStep hbw1 hbx2
  clear KD_1 LY_1 hbw1 hbx2
  rcases hf : flowR t K with _ | r
  · have HF := (show Hid (flowR t K = none) from hf)
    clear hf
    obtain ⟨y00_2, y01_2, y02_2⟩ := PB_2.three'
    go_wp2_with fail
    clear y00_2 y01_2 y02_2
    refine (specFlow_no HF.out KD_2 LY_2).mono ?_
    rintro e w3 ⟨ow, rfl, W_3, hb3⟩
    have KD_3 := KD_2.keep hb3
    have LY_3 := LY_2.keep hb3
    have PB_3 := PB_2.keep hb3
    have hbw3 := bStep hbw2 hb3
    clear KD_2 LY_2 PB_2 hbw2 hb3
    obtain ⟨y00_3, y01_3, y02_3⟩ := PB_3.three'
    go_wp2_with fail
    clear y00_3 y01_3 y02_3
    refine (implFlow_no ea HF.out HM.out KD_3 LY_3 (cell_below hbw3 hg)).mono ?_
    rintro e w4 ⟨ox, rfl, X_4, hb4⟩
    have KD_4 := KD_3.keep hb4
    have LY_4 := LY_3.keep hb4
    have PB_4 := PB_3.keep hb4
    have W_4 := W_3.keep hb4
    have hbw4 := bStep hbw3 hb4
    clear KD_3 LY_3 PB_3 W_3 hbw3 hb4
    obtain ⟨ax, cx, ex, -⟩ := Rs.open X_4
    subst ex
    obtain ⟨y00_4, y01_4, y02_4⟩ := PB_4.three'
    go_wp2_with fail
    clear y00_4 y01_4 y02_4
    refine (lwRows_eq (selfR _) X_4 W_4).mono ?_
    rintro e w5 ⟨rfl, hb5⟩
    have KD_5 := KD_4.keep hb5
    have LY_5 := LY_4.keep hb5
    have PB_5 := PB_4.keep hb5
    have W_5 := W_4.keep hb5
    have X_5 := X_4.keep hb5
    have hbw5 := bStep hbw4 hb5
    clear KD_4 LY_4 PB_4 W_4 X_4 hbw4 hb5
    obtain ⟨y00_5, y01_5, y02_5⟩ := PB_5.three'
    go_wp2_with fail
    clear y00_5 y01_5 y02_5
    refine (lwRows_eq (selfR _) X_5 W_5).mono ?_
    rintro e w6 ⟨rfl, hb6⟩
    have KD_6 := KD_5.keep hb6
    have LY_6 := LY_5.keep hb6
    have PB_6 := PB_5.keep hb6
    have W_6 := W_5.keep hb6
    have X_6 := X_5.keep hb6
    have hbw6 := bStep hbw5 hb6
    clear KD_5 LY_5 PB_5 W_5 X_5 hbw5 hb6
    obtain ⟨y00_6, y01_6, y02_6⟩ := PB_6.three'
    go_wp2_with fail
    go_ret
    exact ⟨rfl, hbw6⟩
  · have HF := (show Hid (flowR t K = some r) from hf)
    have hrl := flowR_len hf
    clear hf
    obtain ⟨y00_2, y01_2, y02_2⟩ := PB_2.three'
    go_wp2_with fail
    clear y00_2 y01_2 y02_2
    refine (specFlow_yes HF.out KD_2 LY_2).mono ?_
    rintro e w3 ⟨ow, rfl, W_3, hb3⟩
    have KD_3 := KD_2.keep hb3
    have LY_3 := LY_2.keep hb3
    have PB_3 := PB_2.keep hb3
    have hbw3 := bStep hbw2 hb3
    clear KD_2 LY_2 PB_2 hbw2 hb3
    obtain ⟨y00_3, y01_3, y02_3⟩ := PB_3.three'
    go_wp2_with fail
    clear y00_3 y01_3 y02_3
    refine (implFlow_yes ea HF.out HM.out KD_3 LY_3 (cell_below hbw3 hg)).mono ?_
    rintro e w4 ⟨ox, rfl, X_4, hb4⟩
    have KD_4 := KD_3.keep hb4
    have LY_4 := LY_3.keep hb4
    have PB_4 := PB_3.keep hb4
    have W_4 := W_3.keep hb4
    have hbw4 := bStep hbw3 hb4
    clear KD_3 LY_3 PB_3 W_3 hbw3 hb4
    cases hk : firstB t
    · obtain ⟨y00_4, y01_4, y02_4⟩ := PB_4.three'
      go_wp2_with fail
      clear y00_4 y01_4 y02_4
      refine (lwRows_eq (selfR _) X_4 W_4).mono ?_
      rintro e w5 ⟨rfl, hb5⟩
      have KD_5 := KD_4.keep hb5
      have LY_5 := LY_4.keep hb5
      have PB_5 := PB_4.keep hb5
      have W_5 := W_4.keep hb5
      have X_5 := X_4.keep hb5
      have hbw5 := bStep hbw4 hb5
      clear KD_4 LY_4 PB_4 W_4 X_4 hbw4 hb5
      obtain ⟨y00_5, y01_5, y02_5⟩ := PB_5.three'
      go_wp2_with fail
      clear y00_5 y01_5 y02_5
      refine (lwFirst_eq hk KD_5).mono ?_
      rintro e w6 ⟨rfl, hb6⟩
      have KD_6 := KD_5.keep hb6
      have LY_6 := LY_5.keep hb6
      have PB_6 := PB_5.keep hb6
      have W_6 := W_5.keep hb6
      have X_6 := X_5.keep hb6
      have hbw6 := bStep hbw5 hb6
      clear KD_5 LY_5 PB_5 W_5 X_5 hbw5 hb6
      obtain ⟨y00_6, y01_6, y02_6⟩ := PB_6.three'
      go_wp2_with fail
      clear y00_6 y01_6 y02_6
      refine (lwRows_eq (selfR _) X_6 W_6).mono ?_
      rintro e w7 ⟨rfl, hb7⟩
      have KD_7 := KD_6.keep hb7
      have LY_7 := LY_6.keep hb7
      have PB_7 := PB_6.keep hb7
      have W_7 := W_6.keep hb7
      have X_7 := X_6.keep hb7
      have hbw7 := bStep hbw6 hb7
      clear KD_6 LY_6 PB_6 W_6 X_6 hbw6 hb7
      obtain ⟨y00_7, y01_7, y02_7⟩ := PB_7.three'
      go_wp2_with fail
      go_ret
      exact ⟨rfl, hbw7⟩
    · obtain ⟨y00_4, y01_4, y02_4⟩ := PB_4.three'
      go_wp2_with fail
      clear y00_4 y01_4 y02_4
      refine (lwRows_eq (selfR _) X_4 W_4).mono ?_
      rintro e w5 ⟨rfl, hb5⟩
      have KD_5 := KD_4.keep hb5
      have LY_5 := LY_4.keep hb5
      have PB_5 := PB_4.keep hb5
      have X_5 := X_4.keep hb5
      have hbw5 := bStep hbw4 hb5
      clear KD_4 LY_4 PB_4 W_4 X_4 hbw4 hb5
      obtain ⟨y00_5, y01_5, y02_5⟩ := PB_5.three'
      go_wp2_with fail
      clear y00_5 y01_5 y02_5
      refine (lwFirst_eq hk KD_5).mono ?_
      rintro e w6 ⟨rfl, hb6⟩
      have KD_6 := KD_5.keep hb6
      have LY_6 := LY_5.keep hb6
      have PB_6 := PB_5.keep hb6
      have X_6 := X_5.keep hb6
      have hbw6 := bStep hbw5 hb6
      clear KD_5 LY_5 PB_5 X_5 hbw5 hb6
      obtain ⟨la, lb, hKK, -, -, -, -⟩ := flowR_some HF.out
      subst hKK
      obtain ⟨ig, ioff, icap, iad, icp, iad', icp', eiv, hig, ic0, ic1, iR0, iR1, hicap, himax⟩ := LyR.two LY_6
      obtain ⟨rfl, -, rfl⟩ := Value.slice.inj eiv
      clear eiv
      have HF2 : Hid (flowR t [la, []] = some r) := flow_first HF.out hk
      have hcur : Below w6.heap.size w6 w6.drew := (Below.refl _ _).drew
      have hcA : Below w6.heap.size w6 (w6.alloc (.cells #[.slice iad la.length icp, .slice none 0 0] 29)).drew := (bAlloc (Below.refl _ _) _).drew
      have HX : Hid (∀ V : World, Below w6.heap.size w6 V → V.cell? ⟨w1.heap.size, 0, none⟩ = some (.int .i64 t.k) ∧ V.cell? ⟨w1.heap.size, 1, none⟩ = some (.int .i64 t.n) ∧ V.cell? ⟨w1.heap.size, 2, none⟩ = some (.slice a2 t.len c2) ∧ V.cell? ⟨ig, ioff, none⟩ = some (.slice iad la.length icp)) := fun V hV => ⟨(PB_6.keep hV).three'.1, (PB_6.keep hV).three'.2.1, (PB_6.keep hV).three'.2.2, cell_below hV ic0⟩
      have kdA := KD_6.keep hcA
      have bA : Bk (w6.alloc (.cells #[.slice iad la.length icp, .slice none 0 0] 29)).drew w6.heap.size #[.slice iad la.length icp, .slice none 0 0] 29 := (Bk.new _ _ rfl).drew
      obtain ⟨s0, s1, _, _⟩ := bA.two
      have lyA : LyR (w6.alloc (.cells #[.slice iad la.length icp, .slice none 0 0] 29)).drew (.slice (some ⟨w6.heap.size, 0, none⟩) 2 2) [la, []] := LyR.mk2 s0 s1 (iR0.keep hcA) (nilP _) (by omega) (by decide)
      have hgA := cell_below (bStep hbw6 hcA) hg
      go_wp2_with fail
      go_region_held3 (fun V => V.cell? ⟨w1.heap.size, 0, none⟩ = some (.int .i64 t.k) ∧ V.cell? ⟨w1.heap.size, 1, none⟩ = some (.int .i64 t.n) ∧ V.cell? ⟨w1.heap.size, 2, none⟩ = some (.slice a2 t.len c2) ∧ V.cell? ⟨ig, ioff, none⟩ = some (.slice iad la.length icp))
        (first | exact HX.out _ hcur | exact HX.out _ hcA | exact HX.out _ hcB)
        (first
          | (go_at_call 15; refine (implFlow_yes ea HF2.out HM.out kdA lyA hgA).mono ?_; rintro e wB ⟨oB, rfl, YB, hbB⟩; have hcB : Below w6.heap.size w6 wB := bStep hcA hbB))
      have YH := (show Hid (Rs wB oB r) from YB)
      clear s0 s1 bA lyA kdA ic0 ic1 iR0 iR1 hcA
      have KD_7 := KD_6.keep hcB
      have LY_7 := LY_6.keep hcB
      have PB_7 := PB_6.keep hcB
      have X_7 := X_6.keep hcB
      have hbw7 := bStep hbw6 hcB
      clear KD_6 LY_6 PB_6 X_6 hbw6 hcB
      have Y_7 := YH.out
      obtain ⟨y00_7, y01_7, y02_7⟩ := PB_7.three'
      go_wp2_with fail
      clear y00_7 y01_7 y02_7
      refine (lwRows_eq (selfR _) Y_7 X_7).mono ?_
      rintro e w8 ⟨rfl, hb8⟩
      have KD_8 := KD_7.keep hb8
      have LY_8 := LY_7.keep hb8
      have PB_8 := PB_7.keep hb8
      have X_8 := X_7.keep hb8
      have Y_8 := Y_7.keep hb8
      have hbw8 := bStep hbw7 hb8
      clear KD_7 LY_7 PB_7 X_7 Y_7 hbw7 hb8
      obtain ⟨y00_8, y01_8, y02_8⟩ := PB_8.three'
      go_wp2_with fail
      go_ret
      exact ⟨rfl, hbw8⟩
end FnPlanIns
end Go.Proofs.YtldejkhemkjcgaaGreatDoor
