/- For every spine and time, whatever their numbers, SpineAt of the program answers as SpineAt of the model, both answers (a spine of more than 1048576 layers, rows and times together is passed by, as the law says), the spine is left as it was, the answer keeps nothing of it and owns its memory, behind another call too, and the arguments read afterwards as before. No condition. -/
import Derived.Test.YtdbhgocaelmanaaPf
import Derived.Test.YtdbhgocaelmanaaZe2
import Derived.Test.YtdbhgocaelmanaaGb1
import Derived.Test.YtdbhgocaelmanaaZs4
import Derived.Deep.RegionHeld3
namespace Go.Proofs.Ytdbhgocaelmanaa
open Go.ChangeShapes Go.WideShapes Go.ChangeAt Go.RowKit Go.Joins

theorem sat_len (L : List (List Rw)) (F : List (Int × Int)) (x y : Int) : (satL L F x y).length ≤ 400 := by
  unfold satL; split
  · exact items_len _ x y
  · simp
namespace FnExactSpineAt
theorem implAt_eq {L : List (List Rw)} {F : List (Int × Int)} {x y : Int} {r : Bool} (e : satB L F x y = r) {lv fv : Value} {w : World} (h : Spn w lv fv L F) :
    Calls Try.prog 17 #[spv lv fv, tv x y] w fun e w' => ∃ o : Value, e = .returned (.tuple #[o, .bool r]) ∧ OwnI w' w.heap.size o (satL L F x y) ∧ Below w.heap.size w w' := by
  rw [← e]; exact implSpineAt_any lv fv L F x y w h
theorem specAt_eq {L : List (List Rw)} {F : List (Int × Int)} {x y : Int} {r : Bool} (e : satB L F x y = r) {lv fv : Value} {w : World} (h : Spn w lv fv L F) :
    Calls Try.prog 25 #[spv lv fv, tv x y] w fun e w' => ∃ o : Value, e = .returned (.tuple #[o, .bool r]) ∧ OwnI w' w.heap.size o (satL L F x y) ∧ Below w.heap.size w w' := by
  rw [← e]; exact specSpineAt_any lv fv L F x y w h
set_option maxRecDepth 100000 in
set_option maxHeartbeats 16000000 in
theorem walk (a : Option Addr) (len cap : Nat) (ns : Nat → Nat) (b : Option Addr) (lem cbp : Nat) (x y : Int) (w : World) (h0 : LsArg w a len cap ns) (h1 : TsArg w b lem cbp) :
    Calls Try.prog 10 #[spv (.slice a len cap) (.slice b lem cbp), tv x y] w fun e w' => e = .returned (.bool true) ∧ Below w.heap.size w w' := by
  have bt0 : Bk ((w.alloc (.cells #[.slice a len cap, .slice b lem cbp] 52)).alloc (.cells #[.int .i64 x, .int .i64 y] 63)) w.heap.size #[.slice a len cap, .slice b lem cbp] 52 := (Bk.new _ _ rfl).alloc _
  have bu0 : Bk ((w.alloc (.cells #[.slice a len cap, .slice b lem cbp] 52)).alloc (.cells #[.int .i64 x, .int .i64 y] 63)) (w.heap.size + 1) #[.int .i64 x, .int .i64 y] 63 := Bk.new (w := w.alloc _) _ _ (by simp)
  have hb0 : Below w.heap.size w ((w.alloc (.cells #[.slice a len cap, .slice b lem cbp] 52)).alloc (.cells #[.int .i64 x, .int .i64 y] 63)) := bAlloc (bAlloc (Below.refl _ _) _) _
  obtain ⟨s0, s1, _, _⟩ := bt0.two
  have A0 := (show Hid (LsArg w a len cap ns) from h0)
  have A1 := (show Hid (TsArg w b lem cbp) from h1)
  clear h0 h1
  by_cases hbig : (1048576 : Int) < ((len + sumN ns len + lem : Nat) : Int)
  · have HV : Hid (szV 1048576 (len + sumN ns len + lem) = -1) := if_pos hbig
    go_enter Try.func10, Try.ntmps10
    go_wp2_with fail
    refine (szSpine_any a len cap ns b lem cbp 1048576 _ (A0.out.keep hb0) (A1.out.keep hb0) (by omega) (by omega)).mono ?_
    rw [HV.out]
    rintro e w1 ⟨rfl, hb1⟩
    go_wp2_with fail
    go_ret
    exact ⟨rfl, bStep hb0 hb1⟩
  have HV : Hid (szV 1048576 (len + sumN ns len + lem) = 1048576 - ((len + sumN ns len + lem : Nat) : Int)) := if_neg hbig
  obtain ⟨L, rfl, hLy, hfl⟩ := A0.out.ly (by omega)
  obtain ⟨F, rfl, hTs⟩ := A1.out.ts (by omega)
  have HS : Hid (Spn w (.slice a L.length cap) (.slice b F.length cbp) L F) := ⟨hLy, hTs⟩
  have hL1 : L.length ≤ 1048576 := by omega
  have hL2 : L.flatten.length ≤ 1048576 := by omega
  have hL3 : F.length ≤ 1048576 := by omega
  have hRl := sat_len L F x y
  have hkn : decide ((1 : Int) + 5 * (L.flatten.length : Int) + 2 * (F.length : Int) < 0) = false := by simp; omega
  clear hLy hTs hfl
  obtain ⟨R, HR⟩ : ∃ R, Hid (satB L F x y = R) := ⟨_, rfl⟩
  generalize hZ : (1048576 : Int) - ((L.length + sumN ns L.length + F.length : Nat) : Int) = Z at *
  have hz0 : ¬ (Z < 0) := by omega
  go_enter Try.func10, Try.ntmps10
  go_wp2_with fail
  refine (szSpine_any a L.length cap ns b F.length cbp 1048576 _ (A0.out.keep hb0) (A1.out.keep hb0) (by omega) (by omega)).mono ?_
  rw [HV.out]
  rintro e w1 ⟨rfl, hb1⟩
  have hbw1 := bStep hb0 hb1
  have bt1 := bt0.keep hb1
  have bu1 := bu0.keep hb1
  have HX1 : Hid (∀ W, Below w1.heap.size w1 W → (W.cell? ⟨w.heap.size, 0, none⟩ = some (.slice a L.length cap) ∧ W.cell? ⟨w.heap.size, 1, none⟩ = some (.slice b F.length cbp)) ∧ (W.cell? ⟨w.heap.size + 1, 0, none⟩ = some (.int .i64 x) ∧ W.cell? ⟨w.heap.size + 1, 1, none⟩ = some (.int .i64 y))) := fun W hW => ⟨⟨(bt1.keep hW).two.1, (bt1.keep hW).two.2.1⟩, (bu1.keep hW).two.1, (bu1.keep hW).two.2.1⟩
  have HS1 : Hid (∀ W, Below w1.heap.size w1 W → Spn W (.slice a L.length cap) (.slice b F.length cbp) L F) := fun W hW => (HS.out.keep hbw1).keep hW
  obtain ⟨⟨k0, k1⟩, k2, k3⟩ := HX1.out w1 (Below.refl _ _)
  have hcur : Below w1.heap.size w1 w1.drew := (Below.refl _ _).drew
  clear s0 s1 bt0 bu0 hb0 hb1
  go_wp2_with fail
  go_region_held3 (fun W => (W.cell? ⟨w.heap.size, 0, none⟩ = some (.slice a L.length cap) ∧ W.cell? ⟨w.heap.size, 1, none⟩ = some (.slice b F.length cbp)) ∧ W.cell? ⟨w.heap.size + 1, 0, none⟩ = some (.int .i64 x) ∧ W.cell? ⟨w.heap.size + 1, 1, none⟩ = some (.int .i64 y))
    (first | exact HX1.out _ hcur | exact HX1.out _ hc2 | exact HX1.out _ hc3 | exact HX1.out _ hc4)
    (first
      | (go_at_call 30; with_reducible refine (toSpine_any _ _ L F _ (HS1.out _ hcur)).mono ?_; rintro e w2 ⟨g2, f2, rfl, hm2, hb2⟩; have hc2 : Below w1.heap.size w1 w2 := bStep hcur hb2; have S2 := hm2.spn hL1 hL2 hL3)
      | (go_at_call 38; with_reducible refine (toTime_any _ _ _).mono ?_; rintro e w2t ⟨rfl, hb2t⟩; have hc3 : Below w1.heap.size w1 w2t := bStep hc2 hb2t; have S2t := S2.keep hb2t)
      | (go_at_call 25; with_reducible refine (specAt_eq HR.out S2t).mono ?_; rintro e w3 ⟨o3, rfl, own3, hb3⟩; have hc4 : Below w1.heap.size w1 w3 := bStep hc3 hb3))
  have hbw3 := bStep hbw1 hc4
  have bt3 := bt1.keep hc4
  have bu3 := bu1.keep hc4
  obtain ⟨q0, q1, _, _⟩ := bt3.two
  have OS3 : Hid (OwnI w3 w2t.heap.size o3 (satL L F x y)) := own3
  have SL := (show Hid _ from ownK_lt own3)
  have hs3 := hbw3.size
  have hlt3 : w.heap.size + 1 < w3.heap.size := bu3.lt
  clear k0 k1 k2 k3 bt1 bu1 hbw1 HX1 HS1 hcur hc2 hc3 hc4 hb2 hb2t hb3 hm2 S2 S2t own3
  go_wp2_with fail
  refine (toSpine_any _ _ L F _ (HS.out.keep hbw3)).mono ?_
  rintro e w4 ⟨g4, f4, rfl, hm4, hb4⟩
  have hbw4 := bStep hbw3 hb4
  have hs4 := hb4.size
  have bn2 : Bk (w4.alloc (.cells #[(.slice (some ⟨g4, 0, none⟩) L.length L.length), (.slice (some ⟨f4, 0, none⟩) F.length F.length)] 26)) w4.heap.size #[(.slice (some ⟨g4, 0, none⟩) L.length L.length), (.slice (some ⟨f4, 0, none⟩) F.length F.length)] 26 := Bk.new _ _ rfl
  have HB5 : Below w4.heap.size w4 (w4.alloc (.cells #[(.slice (some ⟨g4, 0, none⟩) L.length L.length), (.slice (some ⟨f4, 0, none⟩) F.length F.length)] 26)) := bAlloc (Below.refl _ _) _
  have bt5 := (bt3.keep hb4).keep HB5
  have bu5 := (bu3.keep hb4).keep HB5
  have M5 : Hid (SpM (w4.alloc (.cells #[(.slice (some ⟨g4, 0, none⟩) L.length L.length), (.slice (some ⟨f4, 0, none⟩) F.length F.length)] 26)) w3.heap.size g4 f4 L F) := hm4.keep HB5
  have hf4 : f4 < w4.heap.size := by obtain ⟨_, _, _, _, _, _, _, _, _, hk, _⟩ := hm4; exact hk.lt
  have hbw5 := bStep hbw4 HB5
  have hs5 := HB5.size
  have OS5 : Hid (OwnI (w4.alloc (.cells #[(.slice (some ⟨g4, 0, none⟩) L.length L.length), (.slice (some ⟨f4, 0, none⟩) F.length F.length)] 26)) w2t.heap.size o3 (satL L F x y)) := own_keep (own_keep OS3.out hb4) HB5
  obtain ⟨x0, x1, _, _⟩ := bn2.two
  obtain ⟨y0, y1, _, _⟩ := bu5.two
  clear q0 q1 bt3 bu3 hm4 hbw4 hbw3 hb4 HB5 OS3
  have HX5 : Hid (∀ W, Below (w4.alloc (.cells #[(.slice (some ⟨g4, 0, none⟩) L.length L.length), (.slice (some ⟨f4, 0, none⟩) F.length F.length)] 26)).heap.size (w4.alloc (.cells #[(.slice (some ⟨g4, 0, none⟩) L.length L.length), (.slice (some ⟨f4, 0, none⟩) F.length F.length)] 26)) W → (W.cell? ⟨w4.heap.size, 0, none⟩ = some (.slice (some ⟨g4, 0, none⟩) L.length L.length) ∧ W.cell? ⟨w4.heap.size, 1, none⟩ = some (.slice (some ⟨f4, 0, none⟩) F.length F.length)) ∧ (W.cell? ⟨w.heap.size + 1, 0, none⟩ = some (.int .i64 x) ∧ W.cell? ⟨w.heap.size + 1, 1, none⟩ = some (.int .i64 y))) := fun W hW => ⟨⟨(bn2.keep hW).two.1, (bn2.keep hW).two.2.1⟩, (bu5.keep hW).two.1, (bu5.keep hW).two.2.1⟩
  go_wp2_with fail
  generalize (w4.alloc (.cells #[(.slice (some ⟨g4, 0, none⟩) L.length L.length), (.slice (some ⟨f4, 0, none⟩) F.length F.length)] 26)) = w5 at *
  have hcur5 : Below w5.heap.size w5 w5.drew := (Below.refl _ _).drew
  go_region_held3 (fun W => (W.cell? ⟨w4.heap.size, 0, none⟩ = some (.slice (some ⟨g4, 0, none⟩) L.length L.length) ∧ W.cell? ⟨w4.heap.size, 1, none⟩ = some (.slice (some ⟨f4, 0, none⟩) F.length F.length)) ∧ (W.cell? ⟨w.heap.size + 1, 0, none⟩ = some (.int .i64 x) ∧ W.cell? ⟨w.heap.size + 1, 1, none⟩ = some (.int .i64 y)))
    (first | exact HX5.out _ hcur5 | exact HX5.out _ hd2 | exact HX5.out _ hd3)
    (first
      | (go_at_call 38; with_reducible refine (toTime_any _ _ _).mono ?_; rintro e w5t ⟨rfl, hb5t⟩; have hd2 : Below w5.heap.size w5 w5t := bStep hcur5 hb5t)
      | (go_at_call 17; with_reducible refine (implAt_eq HR.out (SpM.spn (SpM.keep M5.out hd2) hL1 hL2 hL3)).mono ?_; rintro e w6 ⟨o6, rfl, own6, hb6⟩; have hd3 : Below w5.heap.size w5 w6 := bStep hd2 hb6))
  have hbw6 := bStep hbw5 hd3
  have hs6 := hd3.size
  have hs5t := hd2.size
  have hs65 := hb6.size
  have bt6 := bt5.keep hd3
  have bu6 := bu5.keep hd3
  have bx6 := bn2.keep hd3
  have OS6 : Hid (OwnI w6 w2t.heap.size o3 (satL L F x y)) := own_keep OS5.out hd3
  have OG6 : Hid (OwnI w6 w5.heap.size o6 (satL L F x y)) := own_less own6 hs5t
  have GB := (show Hid _ from ownK_base OG6.out)
  have M6 : Hid (SpM w6 w3.heap.size g4 f4 L F) := SpM.keep M5.out hd3
  clear x0 x1 y0 y1 bn2 bt5 bu5 hbw5 hb6 own6 OS5 M5 HX5 hcur5 hd2 hd3 hb5t
  go_wp2_with fail
  refine (eqItemS_same _ _ _ _ (OwnI.is OG6.out (by omega)) (OwnI.is OS6.out (by omega))).mono ?_
  rintro e w7 ⟨rfl, hb7⟩
  have hbw7 := bStep hbw6 hb7
  have hs7 := hb7.size
  have bt7 := bt6.keep hb7
  have bu7 := bu6.keep hb7
  have bx7 := bx6.keep hb7
  have OS7 : Hid (OwnI w7 w2t.heap.size o3 (satL L F x y)) := own_keep OS6.out hb7
  have OG7 : Hid (OwnI w7 w5.heap.size o6 (satL L F x y)) := own_keep OG6.out hb7
  have M7 : Hid (SpM w7 w3.heap.size g4 f4 L F) := SpM.keep M6.out hb7
  have HX : Hid (∀ W, Below w7.heap.size w7 W → (W.cell? ⟨w.heap.size, 0, none⟩ = some (.slice a L.length cap) ∧ W.cell? ⟨w.heap.size, 1, none⟩ = some (.slice b F.length cbp)) ∧ (W.cell? ⟨w4.heap.size, 0, none⟩ = some (.slice (some ⟨g4, 0, none⟩) L.length L.length) ∧ W.cell? ⟨w4.heap.size, 1, none⟩ = some (.slice (some ⟨f4, 0, none⟩) F.length F.length))) := fun W hW => ⟨⟨(bt7.keep hW).two.1, (bt7.keep hW).two.2.1⟩, (bx7.keep hW).two.1, (bx7.keep hW).two.2.1⟩
  have HY : Hid (∀ W, Below w7.heap.size w7 W → Spn W (.slice (some ⟨g4, 0, none⟩) L.length L.length) (.slice (some ⟨f4, 0, none⟩) F.length F.length) L F) := fun W hW => SpM.spn (SpM.keep M7.out hW) hL1 hL2 hL3
  have HSW : Hid (∀ W, Below w7.heap.size w7 W → Spn W (.slice a L.length cap) (.slice b F.length cbp) L F) := fun W hW => (HS.out.keep hbw7).keep hW
  obtain ⟨⟨k0, k1⟩, k2, k3⟩ := HX.out w7 (Below.refl _ _)
  have hcur : Below w7.heap.size w7 w7.drew := (Below.refl _ _).drew
  clear bt6 bu6 bx6 hb7 M6 OS6 OG6
  go_wp2_with fail
  go_region_held3 (fun W => (W.cell? ⟨w.heap.size, 0, none⟩ = some (.slice a L.length cap) ∧ W.cell? ⟨w.heap.size, 1, none⟩ = some (.slice b F.length cbp)) ∧ (W.cell? ⟨w4.heap.size, 0, none⟩ = some (.slice (some ⟨g4, 0, none⟩) L.length L.length) ∧ W.cell? ⟨w4.heap.size, 1, none⟩ = some (.slice (some ⟨f4, 0, none⟩) F.length F.length)))
    (first | exact HX.out _ hcur | exact HX.out _ hcur2 | exact HX.out _ hcur3)
    (first
      | (go_at_call 30; with_reducible refine (toSpine_any _ _ L F _ (HSW.out _ hcur)).mono ?_; rintro e wc ⟨gc, fc, rfl, hmc, hbc⟩; have hcur2 : Below w7.heap.size w7 wc := bStep hcur hbc; have SC := hmc.spn hL1 hL2 hL3)
      | (go_at_call 31; with_reducible refine (eqSpine_same _ _ _ _ L F _ (HY.out _ hcur2) SC).mono ?_; rintro e w8 ⟨rfl, hbd⟩; have hcur3 : Below w7.heap.size w7 w8 := bStep hcur2 hbd))
  obtain ⟨⟨j0, j1⟩, j2, j3⟩ := HX.out w8 hcur3
  have hbw8 := bStep hbw7 hcur3
  have hs8 := hcur3.size
  have bt8 := bt7.keep hcur3
  have bu8 := bu7.keep hcur3
  have OS8 : Hid (OwnI w8 w2t.heap.size o3 (satL L F x y)) := own_keep OS7.out hcur3
  have OG8 : Hid (OwnI w8 w5.heap.size o6 (satL L F x y)) := own_keep OG7.out hcur3
  have M8 : SpM w8 w3.heap.size g4 f4 L F := SpM.keep M7.out hcur3
  clear k0 k1 k2 k3 HX HY HSW hcur hcur2 hcur3 hbd hbc hmc SC bt7 bu7 bx7 M7 OS7 OG7
  go_wp2_with fail
  refine (markSpine_any _ g4 f4 w4.heap.size L F 1 _ M8 hf4 (by omega) hL1 hL2 hL3 (by omega) (by omega)).mono ?_
  rintro e w9 ⟨rfl, hz9⟩
  have hbw9 := hz9.below hbw8 (by omega) (by omega)
  have OS9 : Hid (OwnI w9 w2t.heap.size o3 (satL L F x y)) := ownK_besides OS8.out hz9 (fun q e => by have := SL.out q e; omega)
  have OG9 : Hid (OwnI w9 w5.heap.size o6 (satL L F x y)) := ownK_besides OG8.out hz9 (fun q e => by have := GB.out q e; omega)
  have hs9 := hz9.size
  have bt9 := bt8.keepz hz9 (by omega)
  have bu9 := bu8.keepz hz9 (by omega)
  clear j0 j1 j2 j3 bt8 bu8 OS8 OG8 M8 hz9
  go_wp2_with fail
  refine (eqItemS_same _ _ _ _ (OwnI.is OG9.out (by omega)) (OwnI.is OS9.out (by omega))).mono ?_
  rintro e w10 ⟨rfl, hb10⟩
  have hbw10 := bStep hbw9 hb10
  have hs10 := hb10.size
  have bt10 := bt9.keep hb10
  have bu10 := bu9.keep hb10
  have OS10 : Hid (OwnI w10 w2t.heap.size o3 (satL L F x y)) := own_keep OS9.out hb10
  have OG10 : Hid (OwnI w10 w5.heap.size o6 (satL L F x y)) := own_keep OG9.out hb10
  clear bt9 bu9 OS9 OG9 hb10
  go_wp2_with fail
  refine (markIO_any OG10.out (by omega) (by omega) 1 (by omega) (by omega)).mono ?_
  rintro e w11 ⟨rfl, om11, hb11⟩
  have hbw11 := hbw10.trans (hb11.mono (by omega))
  have hs11 := hb11.size
  have bt11 := bt10.under hb11 (by omega)
  have bu11 := bu10.under hb11 (by omega)
  have OS11 : Hid (OwnI w11 w2t.heap.size o3 (satL L F x y)) := ownK_under OS10.out hb11 (fun q e => by have := SL.out q e; omega)
  have OM11 : Hid (OwnI w11 w5.heap.size o6 (marksI 1 (satL L F x y).length)) := om11
  clear om11 hb11 bt10 bu10 OS10 OG10
  have hqn : decide ((1 : Int) + 3 * ((satL L F x y).length : Int) < 0) = false := by simp; omega
  go_wp2_with fail
  refine (heldI_any _ (satL L F x y).length 1 _ (OwnI.is OM11.out (by rw [marksI_len]; omega)) (by omega) (by omega)).mono ?_
  rintro e w12 ⟨rfl, hb12⟩
  have hbw12 := bStep hbw11 hb12
  have hs12 := hb12.size
  have bt12 := bt11.keep hb12
  have bu12 := bu11.keep hb12
  have OS12 : Hid (OwnI w12 w2t.heap.size o3 (satL L F x y)) := own_keep OS11.out hb12
  have OM12 : Hid (OwnI w12 w5.heap.size o6 (marksI 1 (satL L F x y).length)) := own_keep OM11.out hb12
  have HXE : Hid (∀ W, Below w12.heap.size w12 W → (W.cell? ⟨w.heap.size, 0, none⟩ = some (.slice a L.length cap) ∧ W.cell? ⟨w.heap.size, 1, none⟩ = some (.slice b F.length cbp)) ∧ (W.cell? ⟨w.heap.size + 1, 0, none⟩ = some (.int .i64 x) ∧ W.cell? ⟨w.heap.size + 1, 1, none⟩ = some (.int .i64 y))) := fun W hW => ⟨⟨(bt12.keep hW).two.1, (bt12.keep hW).two.2.1⟩, (bu12.keep hW).two.1, (bu12.keep hW).two.2.1⟩
  have HSE : Hid (∀ W, Below w12.heap.size w12 W → Spn W (.slice a L.length cap) (.slice b F.length cbp) L F) := fun W hW => (HS.out.keep hbw12).keep hW
  obtain ⟨⟨k0, k1⟩, k2, k3⟩ := HXE.out w12 (Below.refl _ _)
  have hcur : Below w12.heap.size w12 w12.drew := (Below.refl _ _).drew
  clear hb12 bt11 bu11 OS11 OM11 bt12 bu12
  go_wp2_with fail
  go_region_held3 (fun W => (W.cell? ⟨w.heap.size, 0, none⟩ = some (.slice a L.length cap) ∧ W.cell? ⟨w.heap.size, 1, none⟩ = some (.slice b F.length cbp)) ∧ (W.cell? ⟨w.heap.size + 1, 0, none⟩ = some (.int .i64 x) ∧ W.cell? ⟨w.heap.size + 1, 1, none⟩ = some (.int .i64 y)))
    (first | exact HXE.out _ hcur | exact HXE.out _ hc2 | exact HXE.out _ hc3 | exact HXE.out _ hc4)
    (first
      | (go_at_call 30; with_reducible refine (toSpine_any _ _ L F _ (HSE.out _ hcur)).mono ?_; rintro e w13 ⟨g13, f13, rfl, hm13, hb13⟩; have hc2 : Below w12.heap.size w12 w13 := bStep hcur hb13; have S13 := hm13.spn hL1 hL2 hL3)
      | (go_at_call 38; with_reducible refine (toTime_any _ _ _).mono ?_; rintro e w13t ⟨rfl, hb13t⟩; have hc3 : Below w12.heap.size w12 w13t := bStep hc2 hb13t; have S13t := S13.keep hb13t)
      | (go_at_call 17; with_reducible refine (implAt_eq HR.out S13t).mono ?_; rintro e w14 ⟨o14, rfl, own14, hb14⟩; have hc4 : Below w12.heap.size w12 w14 := bStep hc3 hb14))
  have hbw14 := bStep hbw12 hc4
  have OS14 : Hid (OwnI w14 w2t.heap.size o3 (satL L F x y)) := own_keep OS12.out hc4
  have OM14 : Hid (OwnI w14 w5.heap.size o6 (marksI 1 (satL L F x y).length)) := own_keep OM12.out hc4
  have th := OwnI.is own14 (by omega)
  clear own14 hb14 OS12 OM12 S13 S13t hm13 hb13 hb13t hc2 hc3 hc4 hcur HXE HSE k0 k1 k2 k3
  go_wp2_with fail
  refine (eqItemS_same _ _ _ _ th (OwnI.is OS14.out (by omega))).mono ?_
  rintro e w15 ⟨rfl, hb15⟩
  have hbw15 := bStep hbw14 hb15
  have OM15 : Hid (OwnI w15 w5.heap.size o6 (marksI 1 (satL L F x y).length)) := own_keep OM14.out hb15
  clear hb15 OS14 OM14 th
  go_wp2_with fail
  refine (heldI_any _ (satL L F x y).length 1 _ (OwnI.is OM15.out (by rw [marksI_len]; omega)) (by omega) (by omega)).mono ?_
  rintro e w16 ⟨rfl, hb16⟩
  have hbw16 := bStep hbw15 hb16
  go_wp2_with fail
  go_ret
  exact ⟨rfl, hbw16⟩
end FnExactSpineAt
namespace RowFnExactSpineAt
theorem own : ownKnob Try.prog.godebug = none := by kernel_rfl
theorem cellsT : Try.prog.cellsOf 63 = 2 := by kernel_rfl
set_option maxRecDepth 100000 in
theorem lifted (os : Os) (started : os.Started) (H : Type) (enc : TypeId × Value → H) :
    ReturnsInHanded {} Try.checked os 10 .any (Rows.fnExactSpineAtSpec.pre6 enc Try.prog Try.f10 Rows.fnExactSpineAtRow.domain false) (Rows.fnExactSpineAtSpec.post enc Try.prog Try.f10 false true false false) := by
  refine returnsInHanded_of_change (C := Try.checked) own started (by kernel_rfl) Try.func10
    (ChangeSpec.witness6 (enc := enc) (C := Try.checked) false ⟨#[], #[.agg #[.slice none 0 0, .slice none 0 0], .agg #[.int .i64 0, .int .i64 0]], []⟩ 8 (by kernel_rfl) (by kernel_rfl) (by kernel_rfl) (by kernel_rfl)) ?_
  intro W base args ds gs before hval0 hW hcnd _
  have hval : ∀ (j : Nat) t v, Try.f10.params[j]? = some t → args[j]? = some v → Value.okWide Try.prog W .any base t v := hval0
  have hW' := hW
  obtain ⟨p, q, hA0, hV, rfl, hfz, hnd⟩ := hW
  have hA : DataW.TrodAll enc Try.prog W 0 (fun _ => true) true Try.f10.params.toList args.toList ds p := hA0
  rw [Try.params10] at hA hval
  obtain ⟨v0, vs0, d0, ds0, p0, q0, hargs, rfl, rfl, h0, r0⟩ := trodAll_cons hA
  obtain ⟨v1, vs1, d1, ds1, p1, q1, rfl, rfl, rfl, h1, r1⟩ := trodAll_cons r0
  obtain ⟨rfl, rfl, rfl⟩ := trodAll_nil r1
  obtain rfl : args = #[v0, v1] := by cases args; simp_all
  obtain ⟨rfl, rfl⟩ := trodVars_none hV
  have k0 := h0
  have lt0 : ∀ x ∈ p0, x.block < W.heap.size := by obtain ⟨m, hm⟩ := k0; exact DataW.trod_lt m _ _ _ hm
  obtain ⟨a0, len0, cap0, ns0, b0, lem0, cbp0, rfl, w0, u0⟩ := SpArg.of_trod (hval 0 52 v0 rfl rfl) h0
  have k1 := h1
  have lt1 : ∀ x ∈ p1, x.block < W.heap.size := by obtain ⟨m, hm⟩ := k1; exact DataW.trod_lt m _ _ _ hm
  obtain ⟨a1, b1, rfl⟩ : ∃ a b : Int, v1 = tv a b := by
    obtain ⟨c0, c1, y0, y1, m, rfl, _, _, hy0, hy1⟩ := open_agg2 Try.underlying63 (by kernel_rfl) cellsT (hval 1 63 v1 rfl rfl) h1
    obtain ⟨a, e0, _, _⟩ := DataW.trod_int Try.underlying3 hy0
    obtain ⟨b, e1, _, _⟩ := DataW.trod_int Try.underlying3 hy1
    simp at e0 e1
    exact ⟨a, b, by rw [e0, e1]⟩
  clear hA0 hval0
  refine (FnExactSpineAt.walk a0 len0 cap0 ns0 b0 lem0 cbp0 a1 b1 W w0 u0).mono fun e W' ⟨he, bel⟩ => ?_
  subst he
  exact ⟨_, rfl, _, _, _, [], _, [], hW', trodAll_mk1 (shut_bool Try.underlying4 _), (trodAll_cons_mk (Below.trod pfLaid (by kernel_rfl) (of_decide_eq_true (by kernel_rfl)) k0 bel lt0) (trodAll_cons_mk (Below.trod pfLaid (by kernel_rfl) (of_decide_eq_true (by kernel_rfl)) k1 bel lt1) trodAll_mk0)), rfl, bel.frame _, fun h => by cases h⟩
set_option maxHeartbeats 4000000 in
theorem closed : joinedFacts Try.prog 10 Try.f10 Rows.fnExactSpineAtSpec Rows.fnExactSpineAtRow = true := by
  unfold joinedFacts
  exact (andB (andB (andB (andB (andB (andB (andB (andB (andB (andB (andB (andB (andB (andB (andB (andB (andB (andB (andB (andB (andB (andB (andB (andB (andB (andB (andB (andB (andB (andB (andB (by as_aux_lemma => kernel_rfl) pfLaid) pfRowed) (by as_aux_lemma => kernel_rfl)) (by as_aux_lemma => kernel_rfl)) (by as_aux_lemma => kernel_rfl)) (by as_aux_lemma => kernel_rfl)) (by as_aux_lemma => kernel_rfl)) (by as_aux_lemma => kernel_rfl)) (by as_aux_lemma => kernel_rfl)) (by as_aux_lemma => kernel_rfl)) (by as_aux_lemma => kernel_rfl)) (by as_aux_lemma => kernel_rfl)) (by as_aux_lemma => kernel_rfl)) (by as_aux_lemma => kernel_rfl)) (by as_aux_lemma => kernel_rfl)) (by as_aux_lemma => kernel_rfl)) (by as_aux_lemma => kernel_rfl)) (by as_aux_lemma => kernel_rfl)) (by as_aux_lemma => kernel_rfl)) (by as_aux_lemma => kernel_rfl)) (by as_aux_lemma => kernel_rfl)) (by as_aux_lemma => kernel_rfl)) (by as_aux_lemma => kernel_rfl)) pfHeard) pfEnter) (pfLiftB rfl)) (pfMakeB rfl)) (by as_aux_lemma => kernel_rfl)) (by as_aux_lemma => kernel_rfl)) (by as_aux_lemma => kernel_rfl)) (by as_aux_lemma => kernel_rfl))
theorem over : Rows.fnExactSpineAtRow.holds Try.pinned (OpenSpec.ofChange Rows.fnExactSpineAtSpec) :=
  OpenClaim.holds_of_wide 10 Try.f10 rfl rfl rfl rfl rfl rfl rfl ⟨rfl, rfl, rfl, rfl, rfl⟩ rfl rfl rfl rfl rfl (by kernel_rfl) Try.func10 closed
    (of_decide_eq_true (by kernel_rfl)) (by unfold Func.isWrapper; first | (rw [if_pos (by decide +kernel)]; kernel_rfl) | (rw [if_neg (by decide +kernel)]; exact ⟨rfl, rfl⟩))
    (fun os started H enc _ => lifted os started H enc)
end RowFnExactSpineAt
theorem fnExactSpineAt_holds : Rows.FnExactSpineAtSaid := RowFnExactSpineAt.over
end Go.Proofs.Ytdbhgocaelmanaa
