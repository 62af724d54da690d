import Derived.Test.YtldejkhemkjcgaaGreatDoorGmr
import Derived.Test.YtldejkhemkjcgaaGreatDoorDp1
import Derived.Test.YtldejkhemkjcgaaGreatDoorGd3
import Derived.Test.YtldejkhemkjcgaaGreatDoorPm4
import Derived.Test.YtldejkhemkjcgaaGreatDoorGs2
import Derived.Test.YtldejkhemkjcgaaGreatDoorGk2
namespace Go.Proofs.YtldejkhemkjcgaaGreatDoor
open Go.RowKit
theorem implLess_eq0 {a b c d : Int} {r : Bool} (h : leB a b c d = r) (w : World) : Calls Tryz.prog 32 #[tv a b, tv c d] w fun e w' => e = .returned (.bool r) ∧ Below w.heap.size w w' := by
  rw [← h]; exact implLess_any a b c d w
namespace FnPlanAhead
set_option maxRecDepth 100000 in
set_option maxHeartbeats 8000000 in
theorem walk (ea : Addr) (x0 : Option Addr) (len0 cap0 : Nat) (x1 : Option Addr) (len1 cap1 : Nat) (w : World) (h0 : Src w (.slice x0 len0 cap0) len0) (h1 : Src w (.slice x1 len1 cap1) len1) (hg : w.cell? ⟨0, 0, none⟩ = some (erV ea)) :
    Calls Tryz.prog 6 #[.slice x0 len0 cap0, .slice x1 len1 cap1] w fun e w' => e = .returned (.bool true) ∧ Below w.heap.size w w' := by
  by_cases g0 : (1048576 : Int) < (len0 : Int)
  · go_enter Tryz.func6, Tryz.ntmps6
    go_wp2_with fail
    go_ret
    exact ⟨rfl, Below.refl _ _⟩
  by_cases g1 : (1048576 : Int) < (len1 : Int)
  · go_enter Tryz.func6, Tryz.ntmps6
    go_wp2_with fail
    go_ret
    exact ⟨rfl, Below.refl _ _⟩
  go_enter Tryz.func6, Tryz.ntmps6
  go_wp2_with fail
  refine (drawPlanFlow_any _ _ _ _ h0).mono ?_
  rintro e w1 ⟨t, a2, i2, c2, iv, K, rfl, hsm, KD_1, LY_1, hfew, hKl, hb1⟩
  have h1_1 := h1.keep hb1
  have hbw1 := hb1
  clear h0 h1 hb1
  obtain rfl : i2 = t.len := by obtain ⟨q1, q2, e⟩ := KdS.sl KD_1; cases e; rfl
  obtain ⟨ia, ic, eiv⟩ := LyR.sl LY_1
  subst eiv
  have HM := (show Hid (t.sm) from hsm)
  have HW := (show Hid (∀ l ∈ K, fewR l) from hfew)
  clear hsm hfew
  have hbx2 : Below w1.heap.size w1 (w1.alloc (.cells #[.int .i64 t.k, .int .i64 t.n, .slice a2 t.len c2] 25)) := bAlloc (Below.refl _ _) _
  have PB_2 : Bk (w1.alloc (.cells #[.int .i64 t.k, .int .i64 t.n, .slice a2 t.len c2] 25)) w1.heap.size #[.int .i64 t.k, .int .i64 t.n, .slice a2 t.len c2] 25 := Bk.new _ _ rfl
  have h1_2 := h1_1.keep hbx2
  have KD_2 := KD_1.keep hbx2
  have LY_2 := LY_1.keep hbx2
  have hbw2 := bStep hbw1 hbx2
  clear h1_1 KD_1 LY_1 hbw1 hbx2
  obtain ⟨y00_2, y01_2, y02_2⟩ := PB_2.three'
  go_wp2_with fail
  clear y00_2 y01_2 y02_2
  refine (drawBatchAt_any _ _ _ _ h1_2).mono ?_
  rintro e w3 ⟨oe, le, xa, ya, rfl, hde, E_3, hb3⟩
  have KD_3 := KD_2.keep hb3
  have LY_3 := LY_2.keep hb3
  have PB_3 := PB_2.keep hb3
  have hbw3 := bStep hbw2 hb3
  clear h1_2 KD_2 LY_2 PB_2 hbw2 hb3
  have hbx4 : Below w3.heap.size w3 (w3.alloc (.cells #[.int .i64 xa, .int .i64 ya] 41)) := bAlloc (Below.refl _ _) _
  have TB_4 : Bk (w3.alloc (.cells #[.int .i64 xa, .int .i64 ya] 41)) w3.heap.size #[.int .i64 xa, .int .i64 ya] 41 := Bk.new _ _ rfl
  have KD_4 := KD_3.keep hbx4
  have LY_4 := LY_3.keep hbx4
  have PB_4 := PB_3.keep hbx4
  have E_4 := E_3.keep hbx4
  have hbw4 := bStep hbw3 hbx4
  clear KD_3 LY_3 PB_3 E_3 hbw3 hbx4
  rcases hf : flowR t K with _ | r
  · have HF := (show Hid (flowR t K = none) from hf)
    clear hf
    obtain ⟨y00_4, y01_4, y02_4⟩ := PB_4.three'
    go_wp2_with fail
    clear y00_4 y01_4 y02_4
    refine (specFlow_no HF.out KD_4 LY_4).mono ?_
    rintro e w5 ⟨ow, rfl, W_5, hb5⟩
    have KD_5 := KD_4.keep hb5
    have LY_5 := LY_4.keep hb5
    have PB_5 := PB_4.keep hb5
    have E_5 := E_4.keep hb5
    have TB_5 := TB_4.keep hb5
    have hbw5 := bStep hbw4 hb5
    clear KD_4 LY_4 PB_4 E_4 TB_4 hbw4 hb5
    obtain ⟨y00_5, y01_5, y02_5⟩ := PB_5.three'
    go_wp2_with fail
    clear y00_5 y01_5 y02_5
    refine (implFlow_no ea HF.out HM.out KD_5 LY_5 (cell_below hbw5 hg)).mono ?_
    rintro e w6 ⟨ox, rfl, X_6, hb6⟩
    have KD_6 := KD_5.keep hb6
    have LY_6 := LY_5.keep hb6
    have PB_6 := PB_5.keep hb6
    have E_6 := E_5.keep hb6
    have TB_6 := TB_5.keep hb6
    have W_6 := W_5.keep hb6
    have hbw6 := bStep hbw5 hb6
    clear KD_5 LY_5 PB_5 E_5 TB_5 W_5 hbw5 hb6
    obtain ⟨ax, cx, ex, -⟩ := Rs.open X_6
    subst ex
    obtain ⟨y00_6, y01_6, y02_6⟩ := PB_6.three'
    go_wp2_with fail
    clear y00_6 y01_6 y02_6
    refine (lwRows_eq (selfR _) X_6 W_6).mono ?_
    rintro e w7 ⟨rfl, hb7⟩
    have KD_7 := KD_6.keep hb7
    have LY_7 := LY_6.keep hb7
    have PB_7 := PB_6.keep hb7
    have E_7 := E_6.keep hb7
    have TB_7 := TB_6.keep hb7
    have W_7 := W_6.keep hb7
    have X_7 := X_6.keep hb7
    have hbw7 := bStep hbw6 hb7
    clear KD_6 LY_6 PB_6 E_6 TB_6 W_6 X_6 hbw6 hb7
    obtain ⟨y00_7, y01_7, y02_7⟩ := PB_7.three'
    go_wp2_with fail
    clear y00_7 y01_7 y02_7
    refine (lwRows_eq (selfR _) X_7 W_7).mono ?_
    rintro e w8 ⟨rfl, hb8⟩
    have KD_8 := KD_7.keep hb8
    have LY_8 := LY_7.keep hb8
    have PB_8 := PB_7.keep hb8
    have E_8 := E_7.keep hb8
    have TB_8 := TB_7.keep hb8
    have W_8 := W_7.keep hb8
    have X_8 := X_7.keep hb8
    have hbw8 := bStep hbw7 hb8
    clear KD_7 LY_7 PB_7 E_7 TB_7 W_7 X_7 hbw7 hb8
    obtain ⟨y00_8, y01_8, y02_8⟩ := PB_8.three'
    go_wp2_with fail
    go_ret
    exact ⟨rfl, hbw8⟩
  · have HF := (show Hid (flowR t K = some r) from hf)
    have hrl := flowR_len hf
    clear hf
    obtain ⟨y00_4, y01_4, y02_4⟩ := PB_4.three'
    go_wp2_with fail
    clear y00_4 y01_4 y02_4
    refine (specFlow_yes HF.out KD_4 LY_4).mono ?_
    rintro e w5 ⟨ow, rfl, W_5, hb5⟩
    have KD_5 := KD_4.keep hb5
    have LY_5 := LY_4.keep hb5
    have PB_5 := PB_4.keep hb5
    have E_5 := E_4.keep hb5
    have TB_5 := TB_4.keep hb5
    have hbw5 := bStep hbw4 hb5
    clear KD_4 LY_4 PB_4 E_4 TB_4 hbw4 hb5
    obtain ⟨y00_5, y01_5, y02_5⟩ := PB_5.three'
    go_wp2_with fail
    clear y00_5 y01_5 y02_5
    refine (implFlow_yes ea HF.out HM.out KD_5 LY_5 (cell_below hbw5 hg)).mono ?_
    rintro e w6 ⟨ox, rfl, X_6, hb6⟩
    have KD_6 := KD_5.keep hb6
    have LY_6 := LY_5.keep hb6
    have PB_6 := PB_5.keep hb6
    have E_6 := E_5.keep hb6
    have TB_6 := TB_5.keep hb6
    have W_6 := W_5.keep hb6
    have hbw6 := bStep hbw5 hb6
    clear KD_5 LY_5 PB_5 E_5 TB_5 W_5 hbw5 hb6
    obtain ⟨y00_6, y01_6, y02_6⟩ := PB_6.three'
    go_wp2_with fail
    clear y00_6 y01_6 y02_6
    refine (lwRows_eq (selfR _) X_6 W_6).mono ?_
    rintro e w7 ⟨rfl, hb7⟩
    have KD_7 := KD_6.keep hb7
    have LY_7 := LY_6.keep hb7
    have PB_7 := PB_6.keep hb7
    have E_7 := E_6.keep hb7
    have TB_7 := TB_6.keep hb7
    have W_7 := W_6.keep hb7
    have X_7 := X_6.keep hb7
    have hbw7 := bStep hbw6 hb7
    clear KD_6 LY_6 PB_6 E_6 TB_6 W_6 X_6 hbw6 hb7
    cases hke : rokB le
    · obtain ⟨y00_7, y01_7, y02_7⟩ := PB_7.three'
      go_wp2_with fail
      clear y00_7 y01_7 y02_7
      refine (specRowsOk_eq hke E_7).mono ?_
      rintro e w8 ⟨rfl, hb8⟩
      have KD_8 := KD_7.keep hb8
      have LY_8 := LY_7.keep hb8
      have PB_8 := PB_7.keep hb8
      have E_8 := E_7.keep hb8
      have TB_8 := TB_7.keep hb8
      have W_8 := W_7.keep hb8
      have X_8 := X_7.keep hb8
      have hbw8 := bStep hbw7 hb8
      clear KD_7 LY_7 PB_7 E_7 TB_7 W_7 X_7 hbw7 hb8
      obtain ⟨y00_8, y01_8, y02_8⟩ := PB_8.three'
      go_wp2_with fail
      clear y00_8 y01_8 y02_8
      refine (lwRows_eq (selfR _) X_8 W_8).mono ?_
      rintro e w9 ⟨rfl, hb9⟩
      have KD_9 := KD_8.keep hb9
      have LY_9 := LY_8.keep hb9
      have PB_9 := PB_8.keep hb9
      have E_9 := E_8.keep hb9
      have TB_9 := TB_8.keep hb9
      have W_9 := W_8.keep hb9
      have X_9 := X_8.keep hb9
      have hbw9 := bStep hbw8 hb9
      clear KD_8 LY_8 PB_8 E_8 TB_8 W_8 X_8 hbw8 hb9
      obtain ⟨y00_9, y01_9, y02_9⟩ := PB_9.three'
      go_wp2_with fail
      go_ret
      exact ⟨rfl, hbw9⟩
    · cases hkt : okB xa ya
      · obtain ⟨y00_7, y01_7, y02_7⟩ := PB_7.three'
        go_wp2_with fail
        clear y00_7 y01_7 y02_7
        refine (specRowsOk_eq hke E_7).mono ?_
        rintro e w8 ⟨rfl, hb8⟩
        have KD_8 := KD_7.keep hb8
        have LY_8 := LY_7.keep hb8
        have PB_8 := PB_7.keep hb8
        have E_8 := E_7.keep hb8
        have TB_8 := TB_7.keep hb8
        have W_8 := W_7.keep hb8
        have X_8 := X_7.keep hb8
        have hbw8 := bStep hbw7 hb8
        clear KD_7 LY_7 PB_7 E_7 TB_7 W_7 X_7 hbw7 hb8
        obtain ⟨v0_8, v1_8, _, _⟩ := TB_8.two
        obtain ⟨y00_8, y01_8, y02_8⟩ := PB_8.three'
        go_wp2_with fail
        clear y00_8 y01_8 y02_8
        refine (specTimeOk_eq hkt _).mono ?_
        rintro e w9 ⟨rfl, hb9⟩
        have KD_9 := KD_8.keep hb9
        have LY_9 := LY_8.keep hb9
        have PB_9 := PB_8.keep hb9
        have E_9 := E_8.keep hb9
        have TB_9 := TB_8.keep hb9
        have W_9 := W_8.keep hb9
        have X_9 := X_8.keep hb9
        have hbw9 := bStep hbw8 hb9
        clear KD_8 LY_8 PB_8 E_8 TB_8 W_8 X_8 hbw8 hb9
        clear v0_8 v1_8
        obtain ⟨y00_9, y01_9, y02_9⟩ := PB_9.three'
        go_wp2_with fail
        clear y00_9 y01_9 y02_9
        refine (lwRows_eq (selfR _) X_9 W_9).mono ?_
        rintro e w10 ⟨rfl, hb10⟩
        have KD_10 := KD_9.keep hb10
        have LY_10 := LY_9.keep hb10
        have PB_10 := PB_9.keep hb10
        have E_10 := E_9.keep hb10
        have TB_10 := TB_9.keep hb10
        have W_10 := W_9.keep hb10
        have X_10 := X_9.keep hb10
        have hbw10 := bStep hbw9 hb10
        clear KD_9 LY_9 PB_9 E_9 TB_9 W_9 X_9 hbw9 hb10
        obtain ⟨y00_10, y01_10, y02_10⟩ := PB_10.three'
        go_wp2_with fail
        go_ret
        exact ⟨rfl, hbw10⟩
      · obtain ⟨y00_7, y01_7, y02_7⟩ := PB_7.three'
        go_wp2_with fail
        clear y00_7 y01_7 y02_7
        refine (specRowsOk_eq hke E_7).mono ?_
        rintro e w8 ⟨rfl, hb8⟩
        have KD_8 := KD_7.keep hb8
        have LY_8 := LY_7.keep hb8
        have PB_8 := PB_7.keep hb8
        have E_8 := E_7.keep hb8
        have TB_8 := TB_7.keep hb8
        have X_8 := X_7.keep hb8
        have hbw8 := bStep hbw7 hb8
        clear KD_7 LY_7 PB_7 E_7 TB_7 W_7 X_7 hbw7 hb8
        obtain ⟨v0_8, v1_8, _, _⟩ := TB_8.two
        obtain ⟨y00_8, y01_8, y02_8⟩ := PB_8.three'
        go_wp2_with fail
        clear y00_8 y01_8 y02_8
        refine (specTimeOk_eq hkt _).mono ?_
        rintro e w9 ⟨rfl, hb9⟩
        have KD_9 := KD_8.keep hb9
        have LY_9 := LY_8.keep hb9
        have PB_9 := PB_8.keep hb9
        have E_9 := E_8.keep hb9
        have TB_9 := TB_8.keep hb9
        have X_9 := X_8.keep hb9
        have hbw9 := bStep hbw8 hb9
        clear KD_8 LY_8 PB_8 E_8 TB_8 X_8 hbw8 hb9
        clear v0_8 v1_8
        obtain ⟨la, lb, hKK, -, hba, -, -⟩ := flowR_some HF.out
        subst hKK
        have HC : Hid (∀ V : World, Below w9.heap.size w9 V → (V.cell? ⟨w1.heap.size, 0, none⟩ = some (.int .i64 t.k) ∧ V.cell? ⟨w1.heap.size, 1, none⟩ = some (.int .i64 t.n) ∧ V.cell? ⟨w1.heap.size, 2, none⟩ = some (.slice a2 t.len c2)) ∧ KdS w.heap.size V t (.slice a2 t.len c2) ∧ LyR V (.slice ia [la, lb].length ic) [la, lb] ∧ V.cell? ⟨0, 0, none⟩ = some (erV ea) ∧ Rs V ox r ∧ Bk V w3.heap.size #[.int .i64 xa, .int .i64 ya] 41) := fun V hV => ⟨(PB_9.keep hV).three', KD_9.keep hV, LY_9.keep hV, cell_below (bStep hbw9 hV) hg, X_9.keep hV, TB_9.keep hV⟩
        have oR : OwnR (w9.alloc (.cells #[] 56)) w9.heap.size (.slice (some ⟨w9.heap.size, 0, none⟩) 0 0) [] := ownR_empty w9 rfl
        have hb0 : Below w9.heap.size w9 (w9.alloc (.cells #[] 56)) := bAlloc (Below.refl _ _) _
        have HRE := (show Hid (Rs w9 oe le) from E_9)
        obtain ⟨ae, ce, rfl, hce, hme, hne, hcle⟩ := Rs.open E_9
        unfold maxLen at hme
        have HCE := (show Hid _ from hcle)
        have hel := rok_len hke
        have HKE := (show Hid _ from hke)
        have HKT := (show Hid (okB xa ya = true) from hkt)
        have htb0 := TB_9.lt
        clear PB_9 KD_9 LY_9 X_9 E_9 TB_9 hcle hke hkt
        go_wp2_with fail
        go_loopw [13, 14] (fun o i wr => ∃ k : Nat, k ≤ le.length ∧ i = .int .i64 k ∧ OwnR wr w9.heap.size o (lateR xa ya (le.take k)) ∧ Below w9.heap.size w9 wr) (fun _ i _ => le.length - (intOf i).toNat)
        case atStart => exact ⟨0, by omega, rfl, oR, hb0⟩
        case round =>
          clear oR hb0
          obtain ⟨k, hkl, rfl, hown, hb⟩ := hrel
          have HO : Hid (OwnR wr w9.heap.size u13 (lateR xa ya (le.take k))) := hown
          clear hown
          by_cases hlt : k < le.length
          · obtain ⟨g, off, K8, V8, A8, B8, D8, rfl, hgl, hr, c0, c1, c2, c3, c4⟩ := HCE.out k hlt
            have HZ := (show Hid _ from late_snoc (x := xa) (y := ya) hr)
            have d0 := cell_below hb c0
            have d1 := cell_below hb c1
            have d2 := cell_below hb c2
            have d3 := cell_below hb c3
            have d4 := cell_below hb c4
            have hL : (lateR xa ya (le.take k)).length ≤ 400 := by rw [late_len]; simp; omega
            have ik : ((k : Int) < (le.length : Int)) := by omega
            have bt0 := Bk.new (w := wr) #[.int .i64 K8, .int .i64 V8, .int .i64 A8, .int .i64 B8, .int .i64 D8] 56 rfl
            have hbt : Below wr.heap.size wr (wr.alloc (.cells #[.int .i64 K8, .int .i64 V8, .int .i64 A8, .int .i64 B8, .int .i64 D8] 56)) := bAlloc (Below.refl _ _) _
            have hb' := bStep hb hbt
            have O1 : Hid (OwnR (wr.alloc (.cells #[.int .i64 K8, .int .i64 V8, .int .i64 A8, .int .i64 B8, .int .i64 D8] 56)) w9.heap.size u13 (lateR xa ya (le.take k))) := HO.out.alloc _
            obtain ⟨q0, q1, _, _⟩ := (HC.out _ hb').2.2.2.2.2.two
            obtain ⟨x0, x1, x2, x3, x4⟩ := bt0.five
            have hwr := hb.size
            have HBT : Hid (∀ q, u13.ownBlock = some q → q < wr.heap.size) := ownK_lt HO.out
            clear c0 c1 c2 c3 c4 hr HO hb hbt
            go_wp2_with fail
            generalize wr.heap.size = tb at *
            generalize World.alloc _ _ = wt at *
            refine (implJoin_any A8 B8 xa ya _).mono ?_
            rintro e w3' ⟨rfl, hb3⟩
            obtain ⟨m1, hm1⟩ : ∃ m1, jnA A8 B8 xa ya = m1 := ⟨_, rfl⟩
            obtain ⟨m2, hm2⟩ : ∃ m2, jnB A8 B8 xa ya = m2 := ⟨_, rfl⟩
            rw [hm1, hm2] at HZ ⊢
            have bt3 := bt0.keep hb3
            have hb4 := bStep hb' hb3
            have O3 : Hid (OwnR w3' w9.heap.size u13 (lateR xa ya (le.take k))) := own_keep O1.out hb3
            have f2 := bt3.free 2
            have f3 := (bt3.set 2 (.int .i64 m1)).free 3
            obtain ⟨y0, y1, y2, y3, y4⟩ := bt3.five
            have bt4 : Bk ((w3'.setCell ⟨tb, 2, none⟩ (.int .i64 m1)).setCell ⟨tb, 3, none⟩ (.int .i64 m2)) tb #[.int .i64 K8, .int .i64 V8, .int .i64 m1, .int .i64 m2, .int .i64 D8] 56 := (bt3.set 2 (.int .i64 m1)).set 3 (.int .i64 m2)
            have hb5 : Below w9.heap.size w9 ((w3'.setCell ⟨tb, 2, none⟩ (.int .i64 m1)).setCell ⟨tb, 3, none⟩ (.int .i64 m2)) := (hb4.setCell (by simp; omega) _).setCell (by simp; omega) _
            have O4 : OwnR ((w3'.setCell ⟨tb, 2, none⟩ (.int .i64 m1)).setCell ⟨tb, 3, none⟩ (.int .i64 m2)) w9.heap.size u13 (lateR xa ya (le.take k)) := ownK_at O3.out fun q e => by
              have := HBT.out q e
              rw [Below.heap_setCell _ _ _ _ (by simp; omega), Below.heap_setCell _ _ _ _ (by simp; omega)]
            clear d0 d1 d2 d3 d4 O1 O3 bt0 hb' hm1 hm2 x0 x1 x2 x3 x4 q0 q1
            go_upto_region 15 with fail
            generalize ((w3'.setCell ⟨tb, 2, none⟩ (.int .i64 m1)).setCell ⟨tb, 3, none⟩ (.int .i64 m2)) = w5' at *
            obtain ⟨z0, z1, z2, z3, z4⟩ := bt4.five
            have hs5 := hb5.size
            clear y0 y1 y2 y3 y4 f2 f3 bt3 hb3 hb4
            generalize lateR xa ya (le.take k) = L at *
            go_wp2_with (at_builtin; refine appR _ rfl _ _ rfl w9.heap.size _ _ rfl (O4.alloc _) _ _ _ _ _ _ rfl (Bk.new _ _ rfl) (by omega) (by simp; omega) ?_; intro g7 cap7 w7 own7 hgrow hlg)
            have hb7 : Below w9.heap.size w9 w7 := Below.grew (bAlloc hb5 _) hgrow (by simp; omega) (ownK_base O4)
            go_roundw
            case rel =>
              refine ⟨k + 1, by omega, by go_num, ?_, hb7⟩
              rw [HZ.out]; exact own7
            case measure => simp [intOf]; omega
          · obtain rfl : k = le.length := by omega
            have ik : ¬ ((le.length : Int) < (le.length : Int)) := by omega
            have R1 : Rs wr u13 (lateR xa ya le) := by
              have := HO.out; rw [List.take_length] at this
              exact OwnR.rs this (by rw [late_len]; omega)
            obtain ⟨-, hkd, hly, hge, -, -⟩ := HC.out _ hb
            obtain ⟨gi, oi, ci, ad, cp, ad', cp', eiv, hig, ic0, ic1, iR0, iR1, hicap, himax⟩ := LyR.two hly
            obtain ⟨rfl, -, rfl⟩ := Value.slice.inj eiv
            have HFW := (show Hid (fewR la) from HW.out la (by simp))
            have hcur : Below wr.heap.size wr wr.drew := (Below.refl _ _).drew
            have HX : Hid (∀ V, Below wr.heap.size wr V → V.cell? ⟨gi, oi, none⟩ = some (.slice ad la.length cp) ∧ V.cell? ⟨gi, oi + 1, none⟩ = some (.slice ad' lb.length cp')) := fun V hV => ⟨cell_below hV ic0, cell_below hV ic1⟩
            have HR0 : Hid (Rs wr.drew (.slice ad la.length cp) la) := iR0.keep hcur
            have HR1 : Hid (Rs wr.drew u13 (lateR xa ya le)) := R1.keep hcur
            have HRB : Hid (Rs wr (.slice ad' lb.length cp') lb) := iR1
            have hbl := bothB_len la (lateR xa ya le)
            clear eiv ic0 ic1 iR0 iR1 R1 HO hkd hly hge
            go_wp2_with fail
            go_region_held3 (fun V => V.cell? ⟨gi, oi, none⟩ = some (.slice ad la.length cp) ∧ V.cell? ⟨gi, oi + 1, none⟩ = some (.slice ad' lb.length cp'))
              (first | exact HX.out _ hcur | exact HX.out _ hcA | exact HX.out _ (bAlloc hcA _))
              (first
                | (go_at_call 31; refine (implBothB_k rfl HR0.out HR1.out).mono ?_; rintro e wA ⟨oA, rfl, rA, hbA⟩; have hcA : Below wr.heap.size wr wA := bStep hcur hbA; obtain ⟨aA, cA, eA, -⟩ := Rs.open rA; subst eA))
            have hb9 := bStep hb hcA
            have hb10 := bAlloc hb9 (.cells #[.slice aA (bothB la (lateR xa ya le)).length cA, .slice ad' lb.length cp'] 29)
            have bn : Bk (wA.alloc (.cells #[.slice aA (bothB la (lateR xa ya le)).length cA, .slice ad' lb.length cp'] 29)) wA.heap.size #[.slice aA (bothB la (lateR xa ya le)).length cA, .slice ad' lb.length cp'] 29 := Bk.new _ _ rfl
            have hbn : Below wA.heap.size wA (wA.alloc (.cells #[.slice aA (bothB la (lateR xa ya le)).length cA, .slice ad' lb.length cp'] 29)) := bAlloc (Below.refl _ _) _
            obtain ⟨s0, s1, _, _⟩ := bn.two
            have HLY : Hid (LyR (wA.alloc (.cells #[.slice aA (bothB la (lateR xa ya le)).length cA, .slice ad' lb.length cp'] 29)) (.slice (some ⟨wA.heap.size, 0, none⟩) 2 2) [bothB la (lateR xa ya le), lb]) := LyR.mk2 s0 s1 (rA.keep hbn) (HRB.out.keep (bStep hcA hbn)) (by omega) (by decide)
            clear s0 s1 bn hbn HRB HR0 HR1 HX rA
            generalize (wA.alloc (.cells #[.slice aA (bothB la (lateR xa ya le)).length cA, .slice ad' lb.length cp'] 29)) = wB at *
            generalize wA.heap.size = gB at *
            obtain ⟨⟨p0, p1, p2⟩, hkd, -, hge, -, -⟩ := HC.out _ hb10
            rcases hf2 : flowR t [bothB la (lateR xa ya le), lb] with _ | r2
            · have HF2 := (show Hid _ from hf2)
              clear hf2
              go_wp2_with fail
              refine (implFlow_no ea HF2.out HM.out hkd HLY.out hge).mono ?_
              rintro e wy ⟨oy, rfl, ry, hby⟩
              have hby2 := bStep hb10 hby
              clear p0 p1 p2 hkd hge HLY
              go_wp2_with fail
              refine (lwAll_any _).mono ?_
              rintro e wz ⟨ga, capa, rfl, -, hga, hbz⟩
              have hbzz := bStep hbw9 (bStep hby2 hbz)
              go_wp2_with fail
              refine wp_loop_rounds 1 ?_
              rw [rounds_succ]
              go_wp2_with fail
              go_ret
              exact ⟨rfl, hbzz⟩
            · have HF2 := (show Hid _ from hf2)
              have HIT : Hid (∀ X Y : Int, okB X Y = true → leB xa ya X Y = false → itemsL r2 X Y = itemsL r X Y) := fun X Y hX hn => (flow_ahead HF.out HF2.out HFW.out hde HKE.out HKT.out hX hn).symm
              clear hf2
              go_wp2_with fail
              refine (implFlow_yes ea HF2.out HM.out hkd HLY.out hge).mono ?_
              rintro e wy ⟨oy, rfl, ry, hby⟩
              have hby2 := bStep hb10 hby
              clear p0 p1 p2 hkd hge HLY
              go_wp2_with fail
              refine (lwAll_any _).mono ?_
              rintro e wz ⟨ga, capa, rfl, howna, hga, hbz⟩
              have HA := (show Hid _ from howna)
              have hbz2 := bStep hby2 hbz
              have HRY := (show Hid (Rs wz oy r2) from ry.keep hbz)
              clear howna ry hby hbz hby2
              go_wp2_with fail
              go_loopw [20] (fun i wr => ∃ k : Nat, k ≤ 64 ∧ i = .int .i64 k ∧ Below wz.heap.size wz wr) (fun i _ => 64 - (intOf i).toNat)
              case atStart => exact ⟨0, by omega, rfl, Below.refl _ _⟩
              case round =>
                obtain ⟨k, hk64, rfl, hbk⟩ := hrel
                by_cases hlt : k < 64
                · obtain ⟨c0, c1⟩ := all_cells HA.out hlt
                  have HOK : Hid (okB ((k / 8 : Nat) : Int) ((k % 8 : Nat) : Int) = true) := by show _ = _; simp [okB]; omega
                  have HX : Hid (∀ V, Below wz.heap.size wz V → (V.cell? ⟨w3.heap.size, 0, none⟩ = some (.int .i64 xa) ∧ V.cell? ⟨w3.heap.size, 1, none⟩ = some (.int .i64 ya)) ∧ V.cell? ⟨ga, k * 2, none⟩ = some (.int .i64 ((k / 8 : Nat) : Int)) ∧ V.cell? ⟨ga, k * 2 + 1, none⟩ = some (.int .i64 ((k % 8 : Nat) : Int))) :=
                    fun V hV => ⟨⟨(HC.out V (bStep hbz2 hV)).2.2.2.2.2.two.1, (HC.out V (bStep hbz2 hV)).2.2.2.2.2.two.2.1⟩, cell_below hV c0, cell_below hV c1⟩
                  have ik : (k : Int) < 64 := by omega
                  clear c0 c1
                  generalize hX : ((k / 8 : Nat) : Int) = X at *
                  generalize hY : ((k % 8 : Nat) : Int) = Y at *
                  clear hX hY
                  cases hle : leB xa ya X Y
                  · have HI : Hid (itemsL r2 X Y = itemsL r X Y) := HIT.out X Y HOK.out hle
                    have HR1 : Hid (∀ V, Below wz.heap.size wz V → Rs V ox r) := fun V hV => (HC.out V (bStep hbz2 hV)).2.2.2.2.1
                    have HR2 : Hid (∀ V, Below wz.heap.size wz V → Rs V oy r2) := fun V hV => HRY.out.keep hV
                    have hbD := hbk.drew
                    go_wp2_with fail
                    go_region_held3 (fun V => (V.cell? ⟨w3.heap.size, 0, none⟩ = some (.int .i64 xa) ∧ V.cell? ⟨w3.heap.size, 1, none⟩ = some (.int .i64 ya)) ∧ V.cell? ⟨ga, k * 2, none⟩ = some (.int .i64 X) ∧ V.cell? ⟨ga, k * 2 + 1, none⟩ = some (.int .i64 Y))
                      (first | exact HX.out _ hbD | exact HX.out _ hbn0 | exact HX.out _ hbna | exact HX.out _ hbnb | exact HX.out _ hbnc)
                      (first
                        | (go_at_call 32; with_reducible refine (implLess_eq0 hle _).mono ?_; rintro e w0 ⟨rfl, hb0⟩; have hbn0 : Below wz.heap.size wz w0 := bStep hbD hb0)
                        | (go_at_call 21; with_reducible refine (implAt_k rfl (HR1.out _ hbn0)).mono ?_; rintro e wa ⟨oa, rfl, isa, hba⟩; have hbna : Below wz.heap.size wz wa := bStep hbn0 hba)
                        | (go_at_call 21; with_reducible refine (implAt_k HI.out (HR2.out _ hbna)).mono ?_; rintro e wb ⟨ob, rfl, isb, hbb⟩; have hbnb : Below wz.heap.size wz wb := bStep hbna hbb; have isa2 := SlK.keep isa hbb)
                        | (go_at_call 20; with_reducible refine (lwItems_eq (selfI _) isa2 isb).mono ?_; rintro e wc ⟨rfl, hbc⟩; have hbnc : Below wz.heap.size wz wc := bStep hbnb hbc))
                    all_goals
                      go_wp2_with fail
                      go_roundw
                      case rel => exact ⟨k + 1, by omega, by go_num, hbnc⟩
                      case measure => simp [intOf]; omega
                  · have e0 : ∀ p : Bel wr, p.ww.cell? ⟨w3.heap.size, 0, none⟩ = some (.int .i64 xa) := fun p => (HX.out _ (bStep hbk p.below)).1.1
                    have e1 : ∀ p : Bel wr, p.ww.cell? ⟨w3.heap.size, 1, none⟩ = some (.int .i64 ya) := fun p => (HX.out _ (bStep hbk p.below)).1.2
                    have e2 : ∀ p : Bel wr, p.ww.cell? ⟨ga, k * 2, none⟩ = some (.int .i64 X) := fun p => (HX.out _ (bStep hbk p.below)).2.1
                    have e3 : ∀ p : Bel wr, p.ww.cell? ⟨ga, k * 2 + 1, none⟩ = some (.int .i64 Y) := fun p => (HX.out _ (bStep hbk p.below)).2.2
                    have hne := bel_some wr
                    go_wp2_with fail
                    (refine wp_region_bel (by kernel_rfl) (by kernel_rfl) ?_; (repeat (go_big_quiet_step ((first | (go_at_call 32; exact calls_bel (implLess_eq0 (by with_reducible assumption) _)))))); refine wpQuiet_nil ?_)
                    intro w9 hw9
                    replace hw9 := bel_out hw9
                    have hb9' := bStep hbk hw9
                    go_wp2_with fail
                    go_roundw
                    case rel => exact ⟨k + 1, by omega, by go_num, hb9'⟩
                    case measure => simp [intOf]; omega
                · obtain rfl : k = 64 := by omega
                  have hbe := bStep hbw9 (bStep hbz2 hbk)
                  go_wp2_with fail
                  go_ret
                  exact ⟨rfl, hbe⟩
        
end FnPlanAhead
end Go.Proofs.YtldejkhemkjcgaaGreatDoor
