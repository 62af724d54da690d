/- For all bytes, twice: SpineIn of the program answers of the spine and the batch that they draw as the model's; a spine that SpineIn, SpineSince or SpineJoin tells is ok; the arguments read afterwards as before. No condition. -/
import Derived.Test.YtjkojbafifbdgaaGreatPf
import Derived.Test.YtjkojbafifbdgaaGreatGx4
namespace Go.Proofs.YtjkojbafifbdgaaGreat
open Go.ChangeShapes Go.WideShapes Go.ChangeAt Go.RowKit Go.Joins

theorem implSince_h {L : List (List Rw)} {F f : List (Int × Int)} {lv fv gv : Value} {w : World} (h : Spn w lv fv L F) (hv : Ts w gv f) : Calls Tryz.prog 18 #[spv lv fv, gv] w fun e w' => ∃ (lv' fv' : Value) (r : Bool) (M : List (List Rw)) (G : List (Int × Int)), e = .returned (.tuple #[spv lv' fv', .bool r]) ∧ (r = true → spokB M G = true) ∧ Spn w' lv' fv' M G ∧ Below w.heap.size w w' := by
  refine (implSince_k rfl rfl rfl h hv).mono ?_
  rintro e w' ⟨lv', fv', rfl, h1, h2⟩
  exact ⟨lv', fv', _, _, _, rfl, fun h => (since_ok h).1, h1, h2⟩
theorem implJoin_h {L : List (List Rw)} {F : List (Int × Int)} {i : Int} {lv fv : Value} {w : World} (h : Spn w lv fv L F) : Calls Tryz.prog 10 #[spv lv fv, .int .i64 i] w fun e w' => ∃ (lv' fv' : Value) (r : Bool) (M : List (List Rw)) (G : List (Int × Int)), e = .returned (.tuple #[spv lv' fv', .bool r]) ∧ (r = true → spokB M G = true) ∧ Spn w' lv' fv' M G ∧ Below w.heap.size w w' := by
  refine (implJoinS_k rfl rfl rfl h).mono ?_
  rintro e w' ⟨lv', fv', rfl, h1, h2⟩
  exact ⟨lv', fv', _, _, _, rfl, fun h => (join_ok h).1, h1, h2⟩
namespace FnSpineOk
set_option maxRecDepth 100000 in
set_option maxHeartbeats 8000000 in
theorem walk (x0 : Option Addr) (len0 cap0 : Nat) (x1 : Option Addr) (len1 cap1 : Nat) (w : World) (h0 : Src w (.slice x0 len0 cap0) len0) (h1 : Src w (.slice x1 len1 cap1) len1) :
    Calls Tryz.prog 4 #[.slice x0 len0 cap0, .slice x1 len1 cap1] w fun e w' => e = .returned (.bool true) ∧ Below w.heap.size w w' := by
  by_cases g0 : (1048576 : Int) < (len0 : Int)
  · go_enter Tryz.func4, Tryz.ntmps4
    go_wp2_with fail
    go_ret
    exact ⟨rfl, Below.refl _ _⟩
  by_cases g1 : (1048576 : Int) < (len1 : Int)
  · go_enter Tryz.func4, Tryz.ntmps4
    go_wp2_with fail
    go_ret
    exact ⟨rfl, Below.refl _ _⟩
  go_enter Tryz.func4, Tryz.ntmps4
  go_wp2_with fail
  refine (drawSpineIn_any _ _ _ _ h0).mono ?_
  rintro e w1 ⟨lv, fv, o, L, F, b, rfl, hd, hbk, hb10, hb15, S_1, T_1, hb1⟩
  have h1_1 := h1.keep hb1
  have hbw1 := hb1
  clear h0 h1 hb1
  obtain ⟨aS, cS, bS, dS, eS1, eS2⟩ := Spn.open S_1
  subst eS1 eS2
  have hbx2 : Below w1.heap.size w1 (w1.alloc (.cells #[.slice aS (L).length cS, .slice bS (F).length dS] 26)) := bAlloc (Below.refl _ _) _
  have BS_2 : Bk (w1.alloc (.cells #[.slice aS (L).length cS, .slice bS (F).length dS] 26)) w1.heap.size #[.slice aS (L).length cS, .slice bS (F).length dS] 26 := Bk.new _ _ rfl
  have h1_2 := h1_1.keep hbx2
  have S_2 := S_1.keep hbx2
  have T_2 := T_1.keep hbx2
  have hbw2 := bStep hbw1 hbx2
  clear h1_1 S_1 T_1 hbw1 hbx2
  have HI1 : Hid (inB1 L F b = true → spokB (inLL L F b) (inF L F b) = true) := fun h => (in_ok h).1
  generalize hr1 : inB1 L F b = r1 at *
  obtain ⟨M, hL_M⟩ : ∃ zz, inLL L F b = zz := ⟨_, rfl⟩
  have HM : Hid (inLL L F b = M) := hL_M
  clear hL_M
  obtain ⟨G, hL_G⟩ : ∃ zz, inF L F b = zz := ⟨_, rfl⟩
  have HG : Hid (inF L F b = G) := hL_G
  clear hL_G
  have HJ1 : Hid (r1 = true → spokB M G = true) := by have h := HI1.out; rw [HM.out, HG.out] at h; exact h
  clear HI1
  obtain ⟨yy0_2, yz0_2, _, _⟩ := BS_2.two
  go_wp2_with fail
  clear yy0_2 yz0_2
  refine (implIn_k hr1 HM.out HG.out S_2 T_2).mono ?_
  rintro e w3 ⟨lx, fx, rfl, X_3, hb3⟩
  have h1_3 := h1_2.keep hb3
  have S_3 := S_2.keep hb3
  have T_3 := T_2.keep hb3
  have BS_3 := BS_2.keep hb3
  have hbw3 := bStep hbw2 hb3
  clear h1_2 S_2 T_2 BS_2 hbw2 hb3
  obtain ⟨aX, cX, bX, dX, eX1, eX2⟩ := Spn.open X_3
  subst eX1 eX2
  have hbx4 : Below w3.heap.size w3 (w3.alloc (.cells #[.slice aX (M).length cX, .slice bX (G).length dX] 26)) := bAlloc (Below.refl _ _) _
  have BX_4 : Bk (w3.alloc (.cells #[.slice aX (M).length cX, .slice bX (G).length dX] 26)) w3.heap.size #[.slice aX (M).length cX, .slice bX (G).length dX] 26 := Bk.new _ _ rfl
  have h1_4 := h1_3.keep hbx4
  have S_4 := S_3.keep hbx4
  have T_4 := T_3.keep hbx4
  have BS_4 := BS_3.keep hbx4
  have X_4 := X_3.keep hbx4
  have hbw4 := bStep hbw3 hbx4
  clear h1_3 S_3 T_3 BS_3 X_3 hbw3 hbx4
  obtain ⟨yy0_4, yz0_4, _, _⟩ := BS_4.two
  obtain ⟨yy1_4, yz1_4, _, _⟩ := BX_4.two
  go_wp2_with fail
  clear yy0_4 yz0_4 yy1_4 yz1_4
  refine (drawBatchMove_any _ _ _ _ h1_4).mono ?_
  rintro e w5 ⟨oa, ot, a, f, rfl, hda, hlf, R_5, U_5, hb5⟩
  have S_5 := S_4.keep hb5
  have T_5 := T_4.keep hb5
  have BS_5 := BS_4.keep hb5
  have X_5 := X_4.keep hb5
  have BX_5 := BX_4.keep hb5
  have hbw5 := bStep hbw4 hb5
  clear h1_4 S_4 T_4 BS_4 X_4 BX_4 hbw4 hb5
  obtain ⟨yy0_5, yz0_5, _, _⟩ := BS_5.two
  obtain ⟨yy1_5, yz1_5, _, _⟩ := BX_5.two
  go_wp2_with fail
  clear yy0_5 yz0_5 yy1_5 yz1_5
  refine (implSince_h S_5 U_5).mono ?_
  rintro e w6 ⟨ly, fy, r2, M2, G2, rfl, hJ2, Y_6, hb6⟩
  have S_6 := S_5.keep hb6
  have T_6 := T_5.keep hb6
  have BS_6 := BS_5.keep hb6
  have X_6 := X_5.keep hb6
  have BX_6 := BX_5.keep hb6
  have hbw6 := bStep hbw5 hb6
  clear S_5 T_5 BS_5 X_5 BX_5 R_5 U_5 hbw5 hb6
  obtain ⟨aY, cY, bY, dY, eY1, eY2⟩ := Spn.open Y_6
  subst eY1 eY2
  have hbx7 : Below w6.heap.size w6 (w6.alloc (.cells #[.slice aY (M2).length cY, .slice bY (G2).length dY] 26)) := bAlloc (Below.refl _ _) _
  have BY_7 : Bk (w6.alloc (.cells #[.slice aY (M2).length cY, .slice bY (G2).length dY] 26)) w6.heap.size #[.slice aY (M2).length cY, .slice bY (G2).length dY] 26 := Bk.new _ _ rfl
  have S_7 := S_6.keep hbx7
  have T_7 := T_6.keep hbx7
  have BS_7 := BS_6.keep hbx7
  have X_7 := X_6.keep hbx7
  have BX_7 := BX_6.keep hbx7
  have Y_7 := Y_6.keep hbx7
  have hbw7 := bStep hbw6 hbx7
  clear S_6 T_6 BS_6 X_6 BX_6 Y_6 hbw6 hbx7
  obtain ⟨yy0_7, yz0_7, _, _⟩ := BS_7.two
  obtain ⟨yy1_7, yz1_7, _, _⟩ := BX_7.two
  obtain ⟨yy2_7, yz2_7, _, _⟩ := BY_7.two
  go_wp2_with fail
  clear yy0_7 yz0_7 yy1_7 yz1_7 yy2_7 yz2_7
  refine (implJoin_h S_7).mono ?_
  rintro e w8 ⟨lz, fz, r3, M3, G3, rfl, hJ3, Z_8, hb8⟩
  have S_8 := S_7.keep hb8
  have T_8 := T_7.keep hb8
  have BS_8 := BS_7.keep hb8
  have X_8 := X_7.keep hb8
  have BX_8 := BX_7.keep hb8
  have Y_8 := Y_7.keep hb8
  have BY_8 := BY_7.keep hb8
  have hbw8 := bStep hbw7 hb8
  clear S_7 T_7 BS_7 X_7 BX_7 Y_7 BY_7 hbw7 hb8
  obtain ⟨aZ, cZ, bZ, dZ, eZ1, eZ2⟩ := Spn.open Z_8
  subst eZ1 eZ2
  have hbx9 : Below w8.heap.size w8 (w8.alloc (.cells #[.slice aZ (M3).length cZ, .slice bZ (G3).length dZ] 26)) := bAlloc (Below.refl _ _) _
  have BZ_9 : Bk (w8.alloc (.cells #[.slice aZ (M3).length cZ, .slice bZ (G3).length dZ] 26)) w8.heap.size #[.slice aZ (M3).length cZ, .slice bZ (G3).length dZ] 26 := Bk.new _ _ rfl
  have S_9 := S_8.keep hbx9
  have T_9 := T_8.keep hbx9
  have BS_9 := BS_8.keep hbx9
  have X_9 := X_8.keep hbx9
  have BX_9 := BX_8.keep hbx9
  have Y_9 := Y_8.keep hbx9
  have BY_9 := BY_8.keep hbx9
  have Z_9 := Z_8.keep hbx9
  have hbw9 := bStep hbw8 hbx9
  clear S_8 T_8 BS_8 X_8 BX_8 Y_8 BY_8 Z_8 hbw8 hbx9
  obtain ⟨yy0_9, yz0_9, _, _⟩ := BS_9.two
  obtain ⟨yy1_9, yz1_9, _, _⟩ := BX_9.two
  obtain ⟨yy2_9, yz2_9, _, _⟩ := BY_9.two
  obtain ⟨yy3_9, yz3_9, _, _⟩ := BZ_9.two
  go_wp2_with fail
  clear yy0_9 yz0_9 yy1_9 yz1_9 yy2_9 yz2_9 yy3_9 yz3_9
  refine (specIn_k hr1 HM.out HG.out S_9 T_9).mono ?_
  rintro e w10 ⟨lw, fw, rfl, W_10, hb10⟩
  have S_10 := S_9.keep hb10
  have T_10 := T_9.keep hb10
  have BS_10 := BS_9.keep hb10
  have X_10 := X_9.keep hb10
  have BX_10 := BX_9.keep hb10
  have Y_10 := Y_9.keep hb10
  have BY_10 := BY_9.keep hb10
  have Z_10 := Z_9.keep hb10
  have BZ_10 := BZ_9.keep hb10
  have hbw10 := bStep hbw9 hb10
  clear S_9 T_9 BS_9 X_9 BX_9 Y_9 BY_9 Z_9 BZ_9 hbw9 hb10
  obtain ⟨aW, cW, bW, dW, eW1, eW2⟩ := Spn.open W_10
  subst eW1 eW2
  have hbx11 : Below w10.heap.size w10 (w10.alloc (.cells #[.slice aW (M).length cW, .slice bW (G).length dW] 26)) := bAlloc (Below.refl _ _) _
  have BW_11 : Bk (w10.alloc (.cells #[.slice aW (M).length cW, .slice bW (G).length dW] 26)) w10.heap.size #[.slice aW (M).length cW, .slice bW (G).length dW] 26 := Bk.new _ _ rfl
  have S_11 := S_10.keep hbx11
  have T_11 := T_10.keep hbx11
  have BS_11 := BS_10.keep hbx11
  have X_11 := X_10.keep hbx11
  have BX_11 := BX_10.keep hbx11
  have Y_11 := Y_10.keep hbx11
  have BY_11 := BY_10.keep hbx11
  have Z_11 := Z_10.keep hbx11
  have BZ_11 := BZ_10.keep hbx11
  have W_11 := W_10.keep hbx11
  have hbw11 := bStep hbw10 hbx11
  clear S_10 T_10 BS_10 X_10 BX_10 Y_10 BY_10 Z_10 BZ_10 W_10 hbw10 hbx11
  have HJ2 := (show Hid _ from hJ2)
  have HJ3 := (show Hid _ from hJ3)
  clear hJ2 hJ3
  obtain ⟨yy0_11, yz0_11, _, _⟩ := BS_11.two
  obtain ⟨yy1_11, yz1_11, _, _⟩ := BX_11.two
  obtain ⟨yy2_11, yz2_11, _, _⟩ := BY_11.two
  obtain ⟨yy3_11, yz3_11, _, _⟩ := BZ_11.two
  obtain ⟨yy4_11, yz4_11, _, _⟩ := BW_11.two
  go_wp2_with fail
  clear yy0_11 yz0_11 yy1_11 yz1_11 yy2_11 yz2_11 yy3_11 yz3_11 yy4_11 yz4_11
  refine (lwSpine_same _ _ _ _ _ _ _ X_11 W_11).mono ?_
  rintro e w12 ⟨rfl, hb12⟩
  have S_12 := S_11.keep hb12
  have T_12 := T_11.keep hb12
  have BS_12 := BS_11.keep hb12
  have X_12 := X_11.keep hb12
  have BX_12 := BX_11.keep hb12
  have Y_12 := Y_11.keep hb12
  have BY_12 := BY_11.keep hb12
  have Z_12 := Z_11.keep hb12
  have BZ_12 := BZ_11.keep hb12
  have W_12 := W_11.keep hb12
  have BW_12 := BW_11.keep hb12
  have hbw12 := bStep hbw11 hb12
  clear S_11 T_11 BS_11 X_11 BX_11 Y_11 BY_11 Z_11 BZ_11 W_11 BW_11 hbw11 hb12
  cases r1
  · cases r2
    · cases r3
      · obtain ⟨yy0_12, yz0_12, _, _⟩ := BS_12.two
        obtain ⟨yy1_12, yz1_12, _, _⟩ := BX_12.two
        obtain ⟨yy2_12, yz2_12, _, _⟩ := BY_12.two
        obtain ⟨yy3_12, yz3_12, _, _⟩ := BZ_12.two
        obtain ⟨yy4_12, yz4_12, _, _⟩ := BW_12.two
        go_wp2_with fail
        clear yy0_12 yz0_12 yy1_12 yz1_12 yy2_12 yz2_12 yy3_12 yz3_12 yy4_12 yz4_12
        go_ret
        exact ⟨rfl, hbw12⟩
      · obtain ⟨yy0_12, yz0_12, _, _⟩ := BS_12.two
        obtain ⟨yy1_12, yz1_12, _, _⟩ := BX_12.two
        obtain ⟨yy2_12, yz2_12, _, _⟩ := BY_12.two
        obtain ⟨yy3_12, yz3_12, _, _⟩ := BZ_12.two
        obtain ⟨yy4_12, yz4_12, _, _⟩ := BW_12.two
        go_wp2_with fail
        clear yy0_12 yz0_12 yy1_12 yz1_12 yy2_12 yz2_12 yy3_12 yz3_12 yy4_12 yz4_12
        refine (implSpineOk_eq (HJ3.out (by trivial)) Z_12).mono ?_
        rintro e w13 ⟨rfl, hb13⟩
        have S_13 := S_12.keep hb13
        have T_13 := T_12.keep hb13
        have BS_13 := BS_12.keep hb13
        have X_13 := X_12.keep hb13
        have BX_13 := BX_12.keep hb13
        have Y_13 := Y_12.keep hb13
        have BY_13 := BY_12.keep hb13
        have Z_13 := Z_12.keep hb13
        have BZ_13 := BZ_12.keep hb13
        have W_13 := W_12.keep hb13
        have BW_13 := BW_12.keep hb13
        have hbw13 := bStep hbw12 hb13
        clear S_12 T_12 BS_12 X_12 BX_12 Y_12 BY_12 Z_12 BZ_12 W_12 BW_12 hbw12 hb13
        obtain ⟨yy0_13, yz0_13, _, _⟩ := BS_13.two
        obtain ⟨yy1_13, yz1_13, _, _⟩ := BX_13.two
        obtain ⟨yy2_13, yz2_13, _, _⟩ := BY_13.two
        obtain ⟨yy3_13, yz3_13, _, _⟩ := BZ_13.two
        obtain ⟨yy4_13, yz4_13, _, _⟩ := BW_13.two
        go_wp2_with fail
        clear yy0_13 yz0_13 yy1_13 yz1_13 yy2_13 yz2_13 yy3_13 yz3_13 yy4_13 yz4_13
        go_ret
        exact ⟨rfl, hbw13⟩
    · obtain ⟨yy0_12, yz0_12, _, _⟩ := BS_12.two
      obtain ⟨yy1_12, yz1_12, _, _⟩ := BX_12.two
      obtain ⟨yy2_12, yz2_12, _, _⟩ := BY_12.two
      obtain ⟨yy3_12, yz3_12, _, _⟩ := BZ_12.two
      obtain ⟨yy4_12, yz4_12, _, _⟩ := BW_12.two
      go_wp2_with fail
      clear yy0_12 yz0_12 yy1_12 yz1_12 yy2_12 yz2_12 yy3_12 yz3_12 yy4_12 yz4_12
      refine (implSpineOk_eq (HJ2.out (by trivial)) Y_12).mono ?_
      rintro e w13 ⟨rfl, hb13⟩
      have S_13 := S_12.keep hb13
      have T_13 := T_12.keep hb13
      have BS_13 := BS_12.keep hb13
      have X_13 := X_12.keep hb13
      have BX_13 := BX_12.keep hb13
      have Y_13 := Y_12.keep hb13
      have BY_13 := BY_12.keep hb13
      have Z_13 := Z_12.keep hb13
      have BZ_13 := BZ_12.keep hb13
      have W_13 := W_12.keep hb13
      have BW_13 := BW_12.keep hb13
      have hbw13 := bStep hbw12 hb13
      clear S_12 T_12 BS_12 X_12 BX_12 Y_12 BY_12 Z_12 BZ_12 W_12 BW_12 hbw12 hb13
      cases r3
      · obtain ⟨yy0_13, yz0_13, _, _⟩ := BS_13.two
        obtain ⟨yy1_13, yz1_13, _, _⟩ := BX_13.two
        obtain ⟨yy2_13, yz2_13, _, _⟩ := BY_13.two
        obtain ⟨yy3_13, yz3_13, _, _⟩ := BZ_13.two
        obtain ⟨yy4_13, yz4_13, _, _⟩ := BW_13.two
        go_wp2_with fail
        clear yy0_13 yz0_13 yy1_13 yz1_13 yy2_13 yz2_13 yy3_13 yz3_13 yy4_13 yz4_13
        go_ret
        exact ⟨rfl, hbw13⟩
      · obtain ⟨yy0_13, yz0_13, _, _⟩ := BS_13.two
        obtain ⟨yy1_13, yz1_13, _, _⟩ := BX_13.two
        obtain ⟨yy2_13, yz2_13, _, _⟩ := BY_13.two
        obtain ⟨yy3_13, yz3_13, _, _⟩ := BZ_13.two
        obtain ⟨yy4_13, yz4_13, _, _⟩ := BW_13.two
        go_wp2_with fail
        clear yy0_13 yz0_13 yy1_13 yz1_13 yy2_13 yz2_13 yy3_13 yz3_13 yy4_13 yz4_13
        refine (implSpineOk_eq (HJ3.out (by trivial)) Z_13).mono ?_
        rintro e w14 ⟨rfl, hb14⟩
        have S_14 := S_13.keep hb14
        have T_14 := T_13.keep hb14
        have BS_14 := BS_13.keep hb14
        have X_14 := X_13.keep hb14
        have BX_14 := BX_13.keep hb14
        have Y_14 := Y_13.keep hb14
        have BY_14 := BY_13.keep hb14
        have Z_14 := Z_13.keep hb14
        have BZ_14 := BZ_13.keep hb14
        have W_14 := W_13.keep hb14
        have BW_14 := BW_13.keep hb14
        have hbw14 := bStep hbw13 hb14
        clear S_13 T_13 BS_13 X_13 BX_13 Y_13 BY_13 Z_13 BZ_13 W_13 BW_13 hbw13 hb14
        obtain ⟨yy0_14, yz0_14, _, _⟩ := BS_14.two
        obtain ⟨yy1_14, yz1_14, _, _⟩ := BX_14.two
        obtain ⟨yy2_14, yz2_14, _, _⟩ := BY_14.two
        obtain ⟨yy3_14, yz3_14, _, _⟩ := BZ_14.two
        obtain ⟨yy4_14, yz4_14, _, _⟩ := BW_14.two
        go_wp2_with fail
        clear yy0_14 yz0_14 yy1_14 yz1_14 yy2_14 yz2_14 yy3_14 yz3_14 yy4_14 yz4_14
        go_ret
        exact ⟨rfl, hbw14⟩
  · obtain ⟨yy0_12, yz0_12, _, _⟩ := BS_12.two
    obtain ⟨yy1_12, yz1_12, _, _⟩ := BX_12.two
    obtain ⟨yy2_12, yz2_12, _, _⟩ := BY_12.two
    obtain ⟨yy3_12, yz3_12, _, _⟩ := BZ_12.two
    obtain ⟨yy4_12, yz4_12, _, _⟩ := BW_12.two
    go_wp2_with fail
    clear yy0_12 yz0_12 yy1_12 yz1_12 yy2_12 yz2_12 yy3_12 yz3_12 yy4_12 yz4_12
    refine (implSpineOk_eq (HJ1.out (by trivial)) X_12).mono ?_
    rintro e w13 ⟨rfl, hb13⟩
    have S_13 := S_12.keep hb13
    have T_13 := T_12.keep hb13
    have BS_13 := BS_12.keep hb13
    have X_13 := X_12.keep hb13
    have BX_13 := BX_12.keep hb13
    have Y_13 := Y_12.keep hb13
    have BY_13 := BY_12.keep hb13
    have Z_13 := Z_12.keep hb13
    have BZ_13 := BZ_12.keep hb13
    have W_13 := W_12.keep hb13
    have BW_13 := BW_12.keep hb13
    have hbw13 := bStep hbw12 hb13
    clear S_12 T_12 BS_12 X_12 BX_12 Y_12 BY_12 Z_12 BZ_12 W_12 BW_12 hbw12 hb13
    cases r2
    · cases r3
      · obtain ⟨yy0_13, yz0_13, _, _⟩ := BS_13.two
        obtain ⟨yy1_13, yz1_13, _, _⟩ := BX_13.two
        obtain ⟨yy2_13, yz2_13, _, _⟩ := BY_13.two
        obtain ⟨yy3_13, yz3_13, _, _⟩ := BZ_13.two
        obtain ⟨yy4_13, yz4_13, _, _⟩ := BW_13.two
        go_wp2_with fail
        clear yy0_13 yz0_13 yy1_13 yz1_13 yy2_13 yz2_13 yy3_13 yz3_13 yy4_13 yz4_13
        go_ret
        exact ⟨rfl, hbw13⟩
      · obtain ⟨yy0_13, yz0_13, _, _⟩ := BS_13.two
        obtain ⟨yy1_13, yz1_13, _, _⟩ := BX_13.two
        obtain ⟨yy2_13, yz2_13, _, _⟩ := BY_13.two
        obtain ⟨yy3_13, yz3_13, _, _⟩ := BZ_13.two
        obtain ⟨yy4_13, yz4_13, _, _⟩ := BW_13.two
        go_wp2_with fail
        clear yy0_13 yz0_13 yy1_13 yz1_13 yy2_13 yz2_13 yy3_13 yz3_13 yy4_13 yz4_13
        refine (implSpineOk_eq (HJ3.out (by trivial)) Z_13).mono ?_
        rintro e w14 ⟨rfl, hb14⟩
        have S_14 := S_13.keep hb14
        have T_14 := T_13.keep hb14
        have BS_14 := BS_13.keep hb14
        have X_14 := X_13.keep hb14
        have BX_14 := BX_13.keep hb14
        have Y_14 := Y_13.keep hb14
        have BY_14 := BY_13.keep hb14
        have Z_14 := Z_13.keep hb14
        have BZ_14 := BZ_13.keep hb14
        have W_14 := W_13.keep hb14
        have BW_14 := BW_13.keep hb14
        have hbw14 := bStep hbw13 hb14
        clear S_13 T_13 BS_13 X_13 BX_13 Y_13 BY_13 Z_13 BZ_13 W_13 BW_13 hbw13 hb14
        obtain ⟨yy0_14, yz0_14, _, _⟩ := BS_14.two
        obtain ⟨yy1_14, yz1_14, _, _⟩ := BX_14.two
        obtain ⟨yy2_14, yz2_14, _, _⟩ := BY_14.two
        obtain ⟨yy3_14, yz3_14, _, _⟩ := BZ_14.two
        obtain ⟨yy4_14, yz4_14, _, _⟩ := BW_14.two
        go_wp2_with fail
        clear yy0_14 yz0_14 yy1_14 yz1_14 yy2_14 yz2_14 yy3_14 yz3_14 yy4_14 yz4_14
        go_ret
        exact ⟨rfl, hbw14⟩
    · obtain ⟨yy0_13, yz0_13, _, _⟩ := BS_13.two
      obtain ⟨yy1_13, yz1_13, _, _⟩ := BX_13.two
      obtain ⟨yy2_13, yz2_13, _, _⟩ := BY_13.two
      obtain ⟨yy3_13, yz3_13, _, _⟩ := BZ_13.two
      obtain ⟨yy4_13, yz4_13, _, _⟩ := BW_13.two
      go_wp2_with fail
      clear yy0_13 yz0_13 yy1_13 yz1_13 yy2_13 yz2_13 yy3_13 yz3_13 yy4_13 yz4_13
      refine (implSpineOk_eq (HJ2.out (by trivial)) Y_13).mono ?_
      rintro e w14 ⟨rfl, hb14⟩
      have S_14 := S_13.keep hb14
      have T_14 := T_13.keep hb14
      have BS_14 := BS_13.keep hb14
      have X_14 := X_13.keep hb14
      have BX_14 := BX_13.keep hb14
      have Y_14 := Y_13.keep hb14
      have BY_14 := BY_13.keep hb14
      have Z_14 := Z_13.keep hb14
      have BZ_14 := BZ_13.keep hb14
      have W_14 := W_13.keep hb14
      have BW_14 := BW_13.keep hb14
      have hbw14 := bStep hbw13 hb14
      clear S_13 T_13 BS_13 X_13 BX_13 Y_13 BY_13 Z_13 BZ_13 W_13 BW_13 hbw13 hb14
      cases r3
      · obtain ⟨yy0_14, yz0_14, _, _⟩ := BS_14.two
        obtain ⟨yy1_14, yz1_14, _, _⟩ := BX_14.two
        obtain ⟨yy2_14, yz2_14, _, _⟩ := BY_14.two
        obtain ⟨yy3_14, yz3_14, _, _⟩ := BZ_14.two
        obtain ⟨yy4_14, yz4_14, _, _⟩ := BW_14.two
        go_wp2_with fail
        clear yy0_14 yz0_14 yy1_14 yz1_14 yy2_14 yz2_14 yy3_14 yz3_14 yy4_14 yz4_14
        go_ret
        exact ⟨rfl, hbw14⟩
      · obtain ⟨yy0_14, yz0_14, _, _⟩ := BS_14.two
        obtain ⟨yy1_14, yz1_14, _, _⟩ := BX_14.two
        obtain ⟨yy2_14, yz2_14, _, _⟩ := BY_14.two
        obtain ⟨yy3_14, yz3_14, _, _⟩ := BZ_14.two
        obtain ⟨yy4_14, yz4_14, _, _⟩ := BW_14.two
        go_wp2_with fail
        clear yy0_14 yz0_14 yy1_14 yz1_14 yy2_14 yz2_14 yy3_14 yz3_14 yy4_14 yz4_14
        refine (implSpineOk_eq (HJ3.out (by trivial)) Z_14).mono ?_
        rintro e w15 ⟨rfl, hb15⟩
        have S_15 := S_14.keep hb15
        have T_15 := T_14.keep hb15
        have BS_15 := BS_14.keep hb15
        have X_15 := X_14.keep hb15
        have BX_15 := BX_14.keep hb15
        have Y_15 := Y_14.keep hb15
        have BY_15 := BY_14.keep hb15
        have Z_15 := Z_14.keep hb15
        have BZ_15 := BZ_14.keep hb15
        have W_15 := W_14.keep hb15
        have BW_15 := BW_14.keep hb15
        have hbw15 := bStep hbw14 hb15
        clear S_14 T_14 BS_14 X_14 BX_14 Y_14 BY_14 Z_14 BZ_14 W_14 BW_14 hbw14 hb15
        obtain ⟨yy0_15, yz0_15, _, _⟩ := BS_15.two
        obtain ⟨yy1_15, yz1_15, _, _⟩ := BX_15.two
        obtain ⟨yy2_15, yz2_15, _, _⟩ := BY_15.two
        obtain ⟨yy3_15, yz3_15, _, _⟩ := BZ_15.two
        obtain ⟨yy4_15, yz4_15, _, _⟩ := BW_15.two
        go_wp2_with fail
        clear yy0_15 yz0_15 yy1_15 yz1_15 yy2_15 yz2_15 yy3_15 yz3_15 yy4_15 yz4_15
        go_ret
        exact ⟨rfl, hbw15⟩
end FnSpineOk
namespace RowFnSpineOk
theorem own : ownKnob Tryz.prog.godebug = none := by kernel_rfl
set_option maxRecDepth 100000 in
theorem lifted (os : Os) (started : os.Started) (H : Type) (enc : TypeId × Value → H) :
    ReturnsInHanded {} Tryz.checked os 4 .any (Rows.fnSpineOkSpec.pre6 enc Tryz.prog Tryz.f4 Rows.fnSpineOkRow.domain false) (Rows.fnSpineOkSpec.post enc Tryz.prog Tryz.f4 false true false false) := by
  refine returnsInHanded_of_change (C := Tryz.checked) own started (by kernel_rfl) Tryz.func4
    (ChangeSpec.witness6 (enc := enc) (C := Tryz.checked) false ⟨#[], #[.slice none 0 0, .slice none 0 0], []⟩ 8 (by kernel_rfl) (by kernel_rfl) (by kernel_rfl) (by kernel_rfl)) ?_
  intro W base args ds gs before hval0 hW hcnd _
  have hval : ∀ (j : Nat) t v, Tryz.f4.params[j]? = some t → args[j]? = some v → Value.okWide Tryz.prog W .any base t v := hval0
  have hW' := hW
  obtain ⟨p, q, hA0, hV, rfl, hfz, hnd⟩ := hW
  have hA : DataW.TrodAll enc Tryz.prog W 0 (fun _ => true) true Tryz.f4.params.toList args.toList ds p := hA0
  rw [Tryz.params4] at hA hval
  obtain ⟨v0, vs0, d0, ds0, p0, q0, hargs, rfl, rfl, h0, r0⟩ := trodAll_cons hA
  obtain ⟨v1, vs1, d1, ds1, p1, q1, rfl, rfl, rfl, h1, r1⟩ := trodAll_cons r0
  obtain ⟨rfl, rfl, rfl⟩ := trodAll_nil r1
  obtain rfl : args = #[v0, v1] := by cases args; simp_all
  obtain ⟨rfl, rfl⟩ := trodVars_none hV
  obtain ⟨a0, len0, cap0, rfl⟩ := okWide_slice Tryz.underlying22 (hval 0 22 v0 rfl rfl)
  have k0 := h0
  have lt0 : ∀ x ∈ p0, x.block < W.heap.size := by obtain ⟨m, hm⟩ := k0; exact DataW.trod_lt m _ _ _ hm
  have w0 : Src W (.slice a0 len0 cap0) len0 := by
    obtain ⟨fuel, hf⟩ := h0
    rcases open_ints Tryz.underlying22 Tryz.underlying5 (by kernel_rfl) hf with ⟨hcs, _⟩ | ⟨x, l, c, zs, hcs, _, hl, hm, hz, _, hcell, hwz⟩
    · simp [Value.cells] at hcs
      obtain ⟨rfl, rfl, rfl⟩ := hcs
      exact Src.nil _
    · simp [Value.cells] at hcs
      obtain ⟨rfl, rfl, rfl⟩ := hcs
      exact Src.of_row hl hm (by simpa using hz) hcell hwz
  obtain ⟨a1, len1, cap1, rfl⟩ := okWide_slice Tryz.underlying22 (hval 1 22 v1 rfl rfl)
  have k1 := h1
  have lt1 : ∀ x ∈ p1, x.block < W.heap.size := by obtain ⟨m, hm⟩ := k1; exact DataW.trod_lt m _ _ _ hm
  have w1 : Src W (.slice a1 len1 cap1) len1 := by
    obtain ⟨fuel, hf⟩ := h1
    rcases open_ints Tryz.underlying22 Tryz.underlying5 (by kernel_rfl) hf with ⟨hcs, _⟩ | ⟨x, l, c, zs, hcs, _, hl, hm, hz, _, hcell, hwz⟩
    · simp [Value.cells] at hcs
      obtain ⟨rfl, rfl, rfl⟩ := hcs
      exact Src.nil _
    · simp [Value.cells] at hcs
      obtain ⟨rfl, rfl, rfl⟩ := hcs
      exact Src.of_row hl hm (by simpa using hz) hcell hwz
  clear hA0 hval0
  refine (FnSpineOk.walk a0 len0 cap0 a1 len1 cap1 W w0 w1).mono fun e W' ⟨he, bel⟩ => ?_
  subst he
  exact ⟨_, rfl, _, _, _, [], _, [], hW', trodAll_mk1 (shut_bool Tryz.underlying4 _), (trodAll_cons_mk (Below.trod pfLaid (by kernel_rfl) (of_decide_eq_true (by kernel_rfl)) k0 bel lt0) (trodAll_cons_mk (Below.trod pfLaid (by kernel_rfl) (of_decide_eq_true (by kernel_rfl)) k1 bel lt1) trodAll_mk0)), rfl, bel.frame _, fun h => by cases h⟩
set_option maxHeartbeats 4000000 in
theorem closed : joinedFacts Tryz.prog 4 Tryz.f4 Rows.fnSpineOkSpec Rows.fnSpineOkRow = true := by
  unfold joinedFacts
  exact (andB (andB (andB (andB (andB (andB (andB (andB (andB (andB (andB (andB (andB (andB (andB (andB (andB (andB (andB (andB (andB (andB (andB (andB (andB (andB (andB (andB (andB (andB (andB (by as_aux_lemma => kernel_rfl) pfLaid) pfRowed) (by as_aux_lemma => kernel_rfl)) (by as_aux_lemma => kernel_rfl)) (by as_aux_lemma => kernel_rfl)) (by as_aux_lemma => kernel_rfl)) (by as_aux_lemma => kernel_rfl)) (by as_aux_lemma => kernel_rfl)) (by as_aux_lemma => kernel_rfl)) (by as_aux_lemma => kernel_rfl)) (by as_aux_lemma => kernel_rfl)) (by as_aux_lemma => kernel_rfl)) (by as_aux_lemma => kernel_rfl)) (by as_aux_lemma => kernel_rfl)) (by as_aux_lemma => kernel_rfl)) (by as_aux_lemma => kernel_rfl)) (by as_aux_lemma => kernel_rfl)) (by as_aux_lemma => kernel_rfl)) (by as_aux_lemma => kernel_rfl)) (by as_aux_lemma => kernel_rfl)) (by as_aux_lemma => kernel_rfl)) (by as_aux_lemma => kernel_rfl)) (by as_aux_lemma => kernel_rfl)) pfHeard) pfEnter) (pfLiftB rfl)) (pfMakeB rfl)) (by as_aux_lemma => kernel_rfl)) (by as_aux_lemma => kernel_rfl)) (by as_aux_lemma => kernel_rfl)) (by as_aux_lemma => kernel_rfl))
theorem over : Rows.fnSpineOkRow.holds Tryz.pinned (OpenSpec.ofChange Rows.fnSpineOkSpec) :=
  OpenClaim.holds_of_wide 4 Tryz.f4 rfl rfl rfl rfl rfl rfl rfl ⟨rfl, rfl, rfl, rfl, rfl⟩ rfl rfl rfl rfl rfl (by kernel_rfl) Tryz.func4 closed
    (of_decide_eq_true (by kernel_rfl)) (by unfold Func.isWrapper; first | (rw [if_pos (by decide +kernel)]; kernel_rfl) | (rw [if_neg (by decide +kernel)]; exact ⟨rfl, rfl⟩))
    (fun os started H enc _ => lifted os started H enc)
end RowFnSpineOk
theorem fnSpineOk_holds : Rows.FnSpineOkSaid := RowFnSpineOk.over
end Go.Proofs.YtjkojbafifbdgaaGreat
