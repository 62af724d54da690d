import Derived.Test.YtldejkhemkjcgaaGreatDoorGmr
import Derived.Test.YtldejkhemkjcgaaGreatDoorDp1
import Derived.Test.YtldejkhemkjcgaaGreatDoorGd3
import Derived.Test.YtldejkhemkjcgaaGreatDoorPw2
import Derived.Test.YtldejkhemkjcgaaGreatDoorGmi
import Derived.Test.YtldejkhemkjcgaaGreatDoorGa5
namespace Go.Proofs.YtldejkhemkjcgaaGreatDoor
open Go.RowKit
theorem flow_items {t : PT} {K : List (List Rw)} {r : List Rw} (h : flowR t K = some r) {X Y : Int} (hX : okB X Y = true) : flowI t (K.map fun l => itemsL l X Y) = some (itemsL r X Y) := by
  obtain ⟨a, b, rfl, hp, ha, hb, hr⟩ := flowR_some h
  show flowI t [itemsL a X Y, itemsL b X Y] = _
  rw [flowI_two hp (items_sokF _ _ _) (items_sokF _ _ _)]
  exact plan_items ha hb hX hp hr
theorem few_items {K : List (List Rw)} (hW : ∀ l ∈ K, fewR l) (X Y : Int) : ∀ l ∈ K.map (fun l => itemsL l X Y), absum l ≤ 33 := by
  intro l hl
  obtain ⟨m, hm, rfl⟩ := List.mem_map.1 hl
  cases hk : rokB m
  · simp [itemsL, hk, absum]
  · have h1 := items_abs (l := m) X Y
    have h2 := (hW m hm).2 hk
    omega
namespace FnPlanTop
set_option maxRecDepth 100000 in
set_option maxHeartbeats 8000000 in
theorem walk (ea : Addr) (x0 : Option Addr) (len0 cap0 : Nat) (w : World) (h0 : Src w (.slice x0 len0 cap0) len0) (hg : w.cell? ⟨0, 0, none⟩ = some (erV ea)) :
    Calls Tryz.prog 3 #[.slice x0 len0 cap0] w fun e w' => e = .returned (.bool true) ∧ Below w.heap.size w w' := by
  by_cases g0 : (1048576 : Int) < (len0 : Int)
  · go_enter Tryz.func3, Tryz.ntmps3
    go_wp2_with fail
    go_ret
    exact ⟨rfl, Below.refl _ _⟩
  go_enter Tryz.func3, Tryz.ntmps3
  go_wp2_with fail
  refine (drawPlanFlow_any _ _ _ _ h0).mono ?_
  rintro e w1 ⟨t, a2, i2, c2, iv, K, rfl, hsm, KD_1, LY_1, hfew, hKl, hb1⟩
  have hbw1 := hb1
  clear h0 hb1
  obtain rfl : i2 = t.len := by obtain ⟨q1, q2, e⟩ := KdS.sl KD_1; cases e; rfl
  obtain ⟨ia, ic, eiv⟩ := LyR.sl LY_1
  subst eiv
  have HM := (show Hid (t.sm) from hsm)
  have HW := (show Hid (∀ l ∈ K, fewR l) from hfew)
  clear hsm hfew
  have hbx2 : Below w1.heap.size w1 (w1.alloc (.cells #[.int .i64 t.k, .int .i64 t.n, .slice a2 t.len c2] 25)) := bAlloc (Below.refl _ _) _
  have PB_2 : Bk (w1.alloc (.cells #[.int .i64 t.k, .int .i64 t.n, .slice a2 t.len c2] 25)) w1.heap.size #[.int .i64 t.k, .int .i64 t.n, .slice a2 t.len c2] 25 := Bk.new _ _ rfl
  have KD_2 := KD_1.keep hbx2
  have LY_2 := LY_1.keep hbx2
  have hbw2 := bStep hbw1 hbx2
  clear KD_1 LY_1 hbw1 hbx2
  rcases hf : flowR t K with _ | r
  · have HF := (show Hid (flowR t K = none) from hf)
    clear hf
    obtain ⟨y00_2, y01_2, y02_2⟩ := PB_2.three'
    go_wp2_with fail
    clear y00_2 y01_2 y02_2
    refine (specFlow_no HF.out KD_2 LY_2).mono ?_
    rintro e w3 ⟨ow, rfl, W_3, hb3⟩
    have KD_3 := KD_2.keep hb3
    have LY_3 := LY_2.keep hb3
    have PB_3 := PB_2.keep hb3
    have hbw3 := bStep hbw2 hb3
    clear KD_2 LY_2 PB_2 hbw2 hb3
    obtain ⟨y00_3, y01_3, y02_3⟩ := PB_3.three'
    go_wp2_with fail
    clear y00_3 y01_3 y02_3
    refine (implFlow_no ea HF.out HM.out KD_3 LY_3 (cell_below hbw3 hg)).mono ?_
    rintro e w4 ⟨ox, rfl, X_4, hb4⟩
    have KD_4 := KD_3.keep hb4
    have LY_4 := LY_3.keep hb4
    have PB_4 := PB_3.keep hb4
    have W_4 := W_3.keep hb4
    have hbw4 := bStep hbw3 hb4
    clear KD_3 LY_3 PB_3 W_3 hbw3 hb4
    obtain ⟨ax, cx, ex, -⟩ := Rs.open X_4
    subst ex
    obtain ⟨y00_4, y01_4, y02_4⟩ := PB_4.three'
    go_wp2_with fail
    clear y00_4 y01_4 y02_4
    refine (lwRows_eq (selfR _) X_4 W_4).mono ?_
    rintro e w5 ⟨rfl, hb5⟩
    have KD_5 := KD_4.keep hb5
    have LY_5 := LY_4.keep hb5
    have PB_5 := PB_4.keep hb5
    have W_5 := W_4.keep hb5
    have X_5 := X_4.keep hb5
    have hbw5 := bStep hbw4 hb5
    clear KD_4 LY_4 PB_4 W_4 X_4 hbw4 hb5
    obtain ⟨y00_5, y01_5, y02_5⟩ := PB_5.three'
    go_wp2_with fail
    clear y00_5 y01_5 y02_5
    refine (lwRows_eq (selfR _) X_5 W_5).mono ?_
    rintro e w6 ⟨rfl, hb6⟩
    have KD_6 := KD_5.keep hb6
    have LY_6 := LY_5.keep hb6
    have PB_6 := PB_5.keep hb6
    have W_6 := W_5.keep hb6
    have X_6 := X_5.keep hb6
    have hbw6 := bStep hbw5 hb6
    clear KD_5 LY_5 PB_5 W_5 X_5 hbw5 hb6
    obtain ⟨y00_6, y01_6, y02_6⟩ := PB_6.three'
    go_wp2_with fail
    go_ret
    exact ⟨rfl, hbw6⟩
  · have HF := (show Hid (flowR t K = some r) from hf)
    have hrl := flowR_len hf
    clear hf
    obtain ⟨y00_2, y01_2, y02_2⟩ := PB_2.three'
    go_wp2_with fail
    clear y00_2 y01_2 y02_2
    refine (specFlow_yes HF.out KD_2 LY_2).mono ?_
    rintro e w3 ⟨ow, rfl, W_3, hb3⟩
    have KD_3 := KD_2.keep hb3
    have LY_3 := LY_2.keep hb3
    have PB_3 := PB_2.keep hb3
    have hbw3 := bStep hbw2 hb3
    clear KD_2 LY_2 PB_2 hbw2 hb3
    obtain ⟨y00_3, y01_3, y02_3⟩ := PB_3.three'
    go_wp2_with fail
    clear y00_3 y01_3 y02_3
    refine (implFlow_yes ea HF.out HM.out KD_3 LY_3 (cell_below hbw3 hg)).mono ?_
    rintro e w4 ⟨ox, rfl, X_4, hb4⟩
    have KD_4 := KD_3.keep hb4
    have LY_4 := LY_3.keep hb4
    have PB_4 := PB_3.keep hb4
    have W_4 := W_3.keep hb4
    have hbw4 := bStep hbw3 hb4
    clear KD_3 LY_3 PB_3 W_3 hbw3 hb4
    obtain ⟨y00_4, y01_4, y02_4⟩ := PB_4.three'
    go_wp2_with fail
    clear y00_4 y01_4 y02_4
    refine (lwRows_eq (selfR _) X_4 W_4).mono ?_
    rintro e w5 ⟨rfl, hb5⟩
    have KD_5 := KD_4.keep hb5
    have LY_5 := LY_4.keep hb5
    have PB_5 := PB_4.keep hb5
    have X_5 := X_4.keep hb5
    have hbw5 := bStep hbw4 hb5
    clear KD_4 LY_4 PB_4 W_4 X_4 hbw4 hb5
    go_wp2_with fail
    refine (lwAll_any _).mono ?_
    rintro e w6 ⟨ga, capa, rfl, howna, hga, hb6⟩
    have HA := (show Hid _ from howna)
    clear howna
    have KD_6 := KD_5.keep hb6
    have LY_6 := LY_5.keep hb6
    have PB_6 := PB_5.keep hb6
    have X_6 := X_5.keep hb6
    have hbw6 := bStep hbw5 hb6
    clear KD_5 LY_5 PB_5 X_5 hbw5 hb6
    have hK2 : K.length ≤ 2 := by omega
    have HC : Hid (∀ V : World, Below w6.heap.size w6 V → (V.cell? ⟨w1.heap.size, 0, none⟩ = some (.int .i64 t.k) ∧ V.cell? ⟨w1.heap.size, 1, none⟩ = some (.int .i64 t.n) ∧ V.cell? ⟨w1.heap.size, 2, none⟩ = some (.slice a2 t.len c2)) ∧ KdS w.heap.size V t (.slice a2 t.len c2) ∧ LyR V (.slice ia K.length ic) K ∧ V.cell? ⟨0, 0, none⟩ = some (erV ea) ∧ Rs V ox r) := fun V hV => ⟨(PB_6.keep hV).three', KD_6.keep hV, LY_6.keep hV, cell_below (bStep hbw6 hV) hg, X_6.keep hV⟩
    clear PB_6 KD_6 LY_6 X_6
    go_wp2_with fail
    go_loopw [10] (fun i wr => ∃ k : Nat, k ≤ 64 ∧ i = .int .i64 k ∧ Below w6.heap.size w6 wr) (fun i _ => 64 - (intOf i).toNat)
    case atStart => exact ⟨0, by omega, rfl, Below.refl _ _⟩
    obtain ⟨k, hk64, rfl, hb⟩ := hrel
    by_cases hlt : k < 64
    · obtain ⟨c0, c1⟩ := all_cells HA.out hlt
      have HOK : Hid (okB ((k / 8 : Nat) : Int) ((k % 8 : Nat) : Int) = true) := by show _ = _; simp [okB]; omega
      have HX : Hid (∀ V, Below w6.heap.size w6 V → (V.cell? ⟨w1.heap.size, 0, none⟩ = some (.int .i64 t.k) ∧ V.cell? ⟨w1.heap.size, 1, none⟩ = some (.int .i64 t.n) ∧ V.cell? ⟨w1.heap.size, 2, none⟩ = some (.slice a2 t.len c2)) ∧ V.cell? ⟨ga, k * 2, none⟩ = some (.int .i64 ((k / 8 : Nat) : Int)) ∧ V.cell? ⟨ga, k * 2 + 1, none⟩ = some (.int .i64 ((k % 8 : Nat) : Int))) :=
        fun V hW => ⟨(HC.out V hW).1, cell_below hW c0, cell_below hW c1⟩
      have ik : (k : Int) < 64 := by omega
      clear c0 c1
      generalize hX : ((k / 8 : Nat) : Int) = X at *
      generalize hY : ((k % 8 : Nat) : Int) = Y at *
      clear hX hY
      have HFI : Hid (flowI t (K.map fun l => itemsL l X Y) = some (itemsL r X Y)) := flow_items HF.out HOK.out
      have HFE : Hid (∀ l ∈ K.map (fun l => itemsL l X Y), absum l ≤ 33) := few_items HW.out X Y
      have hbD := hb.drew
      have LYD : Hid (LyR wr.drew (.slice ia K.length ic) K) := (HC.out _ hbD).2.2.1
      go_wp2_with fail
      go_region_held3 (fun V => (V.cell? ⟨w1.heap.size, 0, none⟩ = some (.int .i64 t.k) ∧ V.cell? ⟨w1.heap.size, 1, none⟩ = some (.int .i64 t.n) ∧ V.cell? ⟨w1.heap.size, 2, none⟩ = some (.slice a2 t.len c2)) ∧ V.cell? ⟨ga, k * 2, none⟩ = some (.int .i64 X) ∧ V.cell? ⟨ga, k * 2 + 1, none⟩ = some (.int .i64 Y))
        (first | exact HX.out _ hbD | exact HX.out _ hbna | exact HX.out _ hbnb)
        (first
          | (go_at_call 19; with_reducible refine (lwAt_any _ K X Y _ LYD.out hK2).mono ?_; rintro e wa ⟨oA, rfl, lya, hba⟩; have hbna : Below w6.heap.size w6 wa := bStep hbD hba; have KDA := (HC.out _ hbna).2.1; have HGA := (HC.out _ hbna).2.2.2.1)
          | (go_at_call 18; refine (implSet_yes ea HFI.out HFE.out HM.out KDA lya HGA).mono ?_; rintro e wb ⟨oB, rfl, isb, hbb⟩; have hbnb : Below w6.heap.size w6 wb := bStep hbna hbb))
      all_goals
        obtain ⟨-, e0, e1⟩ := HX.out _ hbnb
        have HIB := (show Hid (Is wb oB (itemsL r X Y)) from isb)
        have rx := (HC.out _ hbnb).2.2.2.2
        clear isb hbD hb lya KDA HGA
        go_wp2_with fail
        refine (implAt_k rfl rx).mono ?_
        rintro e wd ⟨oD, rfl, isd, hbd⟩
        have hbnd : Below w6.heap.size w6 wd := bStep hbnb hbd
        have ise := SlK.keep HIB.out hbd
        go_wp2_with fail
        refine (lwItems_eq (selfI _) isd ise).mono ?_
        rintro e we ⟨rfl, hbe⟩
        have hbne : Below w6.heap.size w6 we := bStep hbnd hbe
        go_wp2_with fail
        go_roundw
        case rel => exact ⟨k + 1, by omega, by go_num, hbne⟩
        case measure => simp [intOf]; omega
    obtain rfl : k = 64 := by omega
    have hbw7 := bStep hbw6 hb
    go_wp2_with fail
    go_ret
    exact ⟨rfl, hbw7⟩
end FnPlanTop
end Go.Proofs.YtldejkhemkjcgaaGreatDoor
