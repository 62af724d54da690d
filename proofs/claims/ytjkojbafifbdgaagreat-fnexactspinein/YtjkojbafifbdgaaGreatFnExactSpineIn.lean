/- For every spine, whatever its rows and times, and all rows, SpineIn of the program answers as SpineIn of the model (a spine and rows of more than 1048576 layers, rows and times together are passed by, as the law says), the arguments are left as they were, the answer keeps nothing of them and owns its memory, behind another call too, and the arguments read as before. Its conditions are the statement's own. -/
import Derived.Test.YtjkojbafifbdgaaGreatPf
import Derived.Test.YtjkojbafifbdgaaGreatZe3
import Derived.Test.YtjkojbafifbdgaaGreatGz6
import Derived.Test.YtjkojbafifbdgaaGreatZc5
import Derived.Deep.RegionHeld3
namespace Go.Proofs.YtjkojbafifbdgaaGreat
open Go.ChangeShapes Go.WideShapes Go.ChangeAt Go.RowKit Go.Joins

namespace FnExactSpineIn
theorem small (L : List (List Rw)) (F : List (Int × Int)) (f : List Rw) : (inLL L F f).length ≤ 6 ∧ (inLL L F f).flatten.length ≤ 400 ∧ (inF L F f).length ≤ 8 := by
  unfold inLL inF
  cases h : inB1 L F f
  · simp
  · unfold inB1 at h
    simp only [Bool.and_eq_true] at h
    obtain ⟨h1, h2, h3, h4⟩ := spok_iff.1 h.2
    simp only [if_true]
    exact ⟨h1, h4, fok_len h2⟩
set_option maxRecDepth 100000 in
set_option maxHeartbeats 16000000 in
theorem walk (a : Option Addr) (len cap : Nat) (ns : Nat → Nat) (b : Option Addr) (lem cbp : Nat) (ae : Option Addr) (lee cee : Nat) (w : World) (h0 : LsArg w a len cap ns) (h1 : TsArg w b lem cbp) (h2 : RsArg w ae lee cee) :
    Calls Tryz.prog 6 #[spv (.slice a len cap) (.slice b lem cbp), .slice ae lee cee] w fun e w' => e = .returned (.bool true) ∧ Below w.heap.size w w' := by
  have bt0 : Bk (w.alloc (.cells #[.slice a len cap, .slice b lem cbp] 47)) w.heap.size #[.slice a len cap, .slice b lem cbp] 47 := Bk.new _ _ rfl
  have hb0 : Below w.heap.size w (w.alloc (.cells #[.slice a len cap, .slice b lem cbp] 47)) := bAlloc (Below.refl _ _) _
  obtain ⟨s0, s1, _, _⟩ := bt0.two
  have A0 := (show Hid (LsArg w a len cap ns) from h0)
  have A1 := (show Hid (TsArg w b lem cbp) from h1)
  have A2 := (show Hid (RsArg w ae lee cee) from h2)
  have he1 := h2.1
  have he2 := h2.2.1
  clear h0 h1 h2
  by_cases hbig : (1048576 : Int) < ((len + sumN ns len + lem : Nat) : Int)
  · have HV : Hid (szV 1048576 (len + sumN ns len + lem) = -1) := if_pos hbig
    go_enter Tryz.func6, Tryz.ntmps6
    go_wp2_with fail
    refine (szSpine_any a len cap ns b lem cbp 1048576 _ (A0.out.keep hb0) (A1.out.keep hb0) (by omega) (by omega)).mono ?_
    rw [HV.out]
    rintro e w1 ⟨rfl, hb1⟩
    go_wp2_with fail
    go_ret
    exact ⟨rfl, bStep hb0 hb1⟩
  have HV : Hid (szV 1048576 (len + sumN ns len + lem) = 1048576 - ((len + sumN ns len + lem : Nat) : Int)) := if_neg hbig
  by_cases hbig2 : (1048576 : Int) - ((len + sumN ns len + lem : Nat) : Int) < (lee : Int)
  · generalize hZ : (1048576 : Int) - ((len + sumN ns len + lem : Nat) : Int) = Z at *
    have hz0 : ¬ (Z < 0) := by omega
    go_enter Tryz.func6, Tryz.ntmps6
    go_wp2_with fail
    refine (szSpine_any a len cap ns b lem cbp 1048576 _ (A0.out.keep hb0) (A1.out.keep hb0) (by omega) (by omega)).mono ?_
    rw [HV.out]
    rintro e w1 ⟨rfl, hb1⟩
    go_wp2_with fail
    refine (szRowS_any ae lee cee Z _ he1 he2 (by omega) (by omega)).mono ?_
    rintro e w2 ⟨rfl, rfl⟩
    rw [if_pos hbig2]
    go_wp2_with fail
    go_ret
    exact ⟨rfl, bStep hb0 hb1⟩
  obtain ⟨L, rfl, hLy, hfl⟩ := A0.out.ly (by omega)
  obtain ⟨F, rfl, hTs⟩ := A1.out.ts (by omega)
  obtain ⟨f, rfl, hTe⟩ := A2.out.rs (by omega)
  have HE : Hid (Rs w (.slice ae f.length cee) f) := hTe
  have hL4 : f.length ≤ 1048576 := by omega
  have HS : Hid (Spn w (.slice a L.length cap) (.slice b F.length cbp) L F) := ⟨hLy, hTs⟩
  have hL1 : L.length ≤ 1048576 := by omega
  have hL2 : L.flatten.length ≤ 1048576 := by omega
  have hL3 : F.length ≤ 1048576 := by omega
  obtain ⟨hR1, hR2, hR3⟩ := small L F f
  have hkn : ¬ ((1 : Int) + 5 * (L.flatten.length : Int) + 2 * (F.length : Int) + 5 * (f.length : Int) < 0) := by omega
  have hkd : decide ((1 : Int) + 5 * (L.flatten.length : Int) + 2 * (F.length : Int) + 5 * (f.length : Int) < 0) = false := by simp; omega
  have HSP : Hid (∀ (lv fv gv : Value) (W : World), Spn W lv fv L F → Rs W gv f → Calls Tryz.prog 19 #[spv lv fv, gv] W fun e w' => ∃ lv' fv' : Value, e = .returned (.tuple #[spv lv' fv', .bool (inB1 L F f)]) ∧ SpO w' W.heap.size lv' fv' (inLL L F f) (inF L F f) ∧ Below W.heap.size W w') := fun lv fv gv W h hv => specSpineIn_any lv fv gv L F f W h hv
  have HIM : Hid (∀ (lv fv gv : Value) (W : World), Spn W lv fv L F → Rs W gv f → Calls Tryz.prog 16 #[spv lv fv, gv] W fun e w' => ∃ lv' fv' : Value, e = .returned (.tuple #[spv lv' fv', .bool (inB1 L F f)]) ∧ SpO w' W.heap.size lv' fv' (inLL L F f) (inF L F f) ∧ Below W.heap.size W w') := fun lv fv gv W h hv => implSpineIn_any lv fv gv L F f W h hv
  clear hLy hTs hfl hTe
  generalize inLL L F f = R at *
  generalize inF L F f = RF at *
  generalize inB1 L F f = rb at *
  have hqn : ¬ ((1 : Int) + 5 * (R.flatten.length : Int) + 2 * (RF.length : Int) < 0) := by omega
  generalize hZ : (1048576 : Int) - ((L.length + sumN ns L.length + F.length : Nat) : Int) = Z at *
  have hz0 : ¬ (Z < 0) := by omega
  have hz1 : ¬ (Z - (f.length : Int) < 0) := by omega
  go_enter Tryz.func6, Tryz.ntmps6
  go_wp2_with fail
  refine (szSpine_any a L.length cap ns b F.length cbp 1048576 _ (A0.out.keep hb0) (A1.out.keep hb0) (by omega) (by omega)).mono ?_
  rw [HV.out]
  rintro e w1 ⟨rfl, hb1⟩
  have hbw1 := bStep hb0 hb1
  have bt1 := bt0.keep hb1
  obtain ⟨r0, r1, _, _⟩ := bt1.two
  clear s0 s1 hb1 hb0 bt0
  go_wp2_with fail
  refine (szRowS_any ae f.length cee Z _ he1 he2 (by omega) (by omega)).mono ?_
  rintro e w1' ⟨rfl, rfl⟩
  rw [if_neg (by omega)]
  go_wp2_with fail
  refine (toSpine_any _ _ L F _ (HS.out.keep hbw1)).mono ?_
  rintro e w2 ⟨g2, f2, rfl, hm2, hb2⟩
  have hbw2 := bStep hbw1 hb2
  have bt2 := bt1.keep hb2
  have S2 := hm2.spn hL1 hL2 hL3
  clear r0 r1 bt1 hb2 hm2 hbw1
  go_wp2_with fail
  refine (toRowS_any _ f _ (HE.out.keep hbw2)).mono ?_
  rintro e w2t ⟨ge2, ce2, rfl, -, hbe2, -, hfe2, hb2t⟩
  have S2t := S2.keep hb2t
  have T2t : Rs w2t (.slice (some ⟨ge2, 0, none⟩) f.length f.length) f := SlK.of_blk hbe2 hfe2 rowC_len (Nat.le_refl _) (by unfold maxLen; omega) (by omega)
  have hbw2t := bStep hbw2 hb2t
  have bt2t := bt2.keep hb2t
  clear S2 hbe2 hfe2 hb2t bt2 hbw2
  have S2 := S2t
  have hbw2 := hbw2t
  have bt2 := bt2t
  clear S2t hbw2t bt2t
  go_wp2_with fail
  refine (HSP.out _ _ _ w2t S2 T2t).mono ?_
  rintro e w3 ⟨lv3, fv3, rfl, sp3, hb3⟩
  obtain ⟨a3, c3, b3, d3, rfl, rfl⟩ := sp3.open
  have hbw3 := bStep hbw2 hb3
  have btA := (bt2.keep hb3).alloc (.cells #[.slice a3 R.length c3, .slice b3 RF.length d3] 26)
  have b6A : Bk (w3.alloc (.cells #[.slice a3 R.length c3, .slice b3 RF.length d3] 26)) w3.heap.size #[.slice a3 R.length c3, .slice b3 RF.length d3] 26 := Bk.new _ _ rfl
  have hbwA : Below w.heap.size w (w3.alloc (.cells #[.slice a3 R.length c3, .slice b3 RF.length d3] 26)) := bAlloc hbw3 _
  have OSA : Hid (SpO (w3.alloc (.cells #[.slice a3 R.length c3, .slice b3 RF.length d3] 26)) w2t.heap.size (.slice a3 R.length c3) (.slice b3 RF.length d3) R RF) := sp3.keep (bAlloc (Below.refl _ _) _)
  have hzA : (w3.alloc (.cells #[.slice a3 R.length c3, .slice b3 RF.length d3] 26)).heap.size = w3.heap.size + 1 := by simp
  have HZA := (show Hid _ from hzA)
  have hz3 := hb3.size
  have hw6 := (bt2.keep hb3).lt
  have SL : Hid (∀ W, (∀ q, q < w3.heap.size → W.heap[q]? = (w3.alloc (.cells #[.slice a3 R.length c3, .slice b3 RF.length d3] 26)).heap[q]?) → SpO W w2t.heap.size (.slice a3 R.length c3) (.slice b3 RF.length d3) R RF) := fun W hW => by
    obtain ⟨vs, i1, i2, i3⟩ := sp3
    obtain ⟨vs', j1, j2, j3⟩ := OSA.out
    have hlt : ∀ q, q < w3.heap.size → W.heap[q]? = w3.heap[q]? := fun q hq => by rw [hW q hq]; exact (bAlloc (Below.refl w3.heap.size w3) _).block q hq
    exact ⟨vs, ownK_at i1 fun q e => hlt q (ownK_lt i1 q e), i2.mono fun q c hq => hlt q hq.lt, ownK_at i3 fun q e => hlt q (ownK_lt i3 q e)⟩
  clear S2 T2t bt2 hb3 hbw2 hbw3 hzA sp3
  obtain ⟨p0, p1, _, _⟩ := btA.two
  go_wp2_with fail
  generalize w3.heap.size = n6 at *
  generalize (w3.alloc (.cells #[.slice a3 R.length c3, .slice b3 RF.length d3] 26)) = wA at *
  refine (toSpine_any _ _ L F _ (HS.out.keep hbwA)).mono ?_
  rintro e w4 ⟨g4, f4, rfl, hm4, hb4⟩
  have hbw4 := bStep hbwA hb4
  have hs4 := hb4.size
  have hf4 : f4 < w4.heap.size := by obtain ⟨_, _, _, _, _, _, _, _, _, hk, _⟩ := hm4; exact hk.lt
  have hb45 : Below w4.heap.size w4 (w4.alloc (.cells #[.slice (some ⟨g4, 0, none⟩) L.length L.length, .slice (some ⟨f4, 0, none⟩) F.length F.length] 26)) := bAlloc (Below.refl _ _) _
  have b85 : Bk (w4.alloc (.cells #[.slice (some ⟨g4, 0, none⟩) L.length L.length, .slice (some ⟨f4, 0, none⟩) F.length F.length] 26)) w4.heap.size #[.slice (some ⟨g4, 0, none⟩) L.length L.length, .slice (some ⟨f4, 0, none⟩) F.length F.length] 26 := Bk.new _ _ rfl
  have bt5 := (btA.keep hb4).keep hb45
  have b65 := (b6A.keep hb4).keep hb45
  have M5 : Hid (SpM (w4.alloc (.cells #[.slice (some ⟨g4, 0, none⟩) L.length L.length, .slice (some ⟨f4, 0, none⟩) F.length F.length] 26)) wA.heap.size g4 f4 L F) := hm4.keep hb45
  have OS5 : Hid (SpO (w4.alloc (.cells #[.slice (some ⟨g4, 0, none⟩) L.length L.length, .slice (some ⟨f4, 0, none⟩) F.length F.length] 26)) w2t.heap.size (.slice a3 R.length c3) (.slice b3 RF.length d3) R RF) := (OSA.out.keep hb4).keep hb45
  have hbw5 := bStep hbw4 hb45
  have hs5 : (w4.alloc (.cells #[.slice (some ⟨g4, 0, none⟩) L.length L.length, .slice (some ⟨f4, 0, none⟩) F.length F.length] 26)).heap.size = w4.heap.size + 1 := by simp
  have HZ5 := (show Hid _ from hs5)
  have SL5 : Hid (∀ q, q < n6 → (w4.alloc (.cells #[.slice (some ⟨g4, 0, none⟩) L.length L.length, .slice (some ⟨f4, 0, none⟩) F.length F.length] 26)).heap[q]? = wA.heap[q]?) := fun q hq => by rw [hb45.block q (by have := HZA.out; omega), hb4.block q (by have := HZA.out; omega)]
  clear p0 p1 btA b6A OSA hbwA hb4 hbw4 hm4 hb45 hs5
  obtain ⟨x0, x1, _, _⟩ := b85.two
  go_wp2_with fail
  generalize w4.heap.size = n8 at *
  generalize (w4.alloc (.cells #[.slice (some ⟨g4, 0, none⟩) L.length L.length, .slice (some ⟨f4, 0, none⟩) F.length F.length] 26)) = w5 at *
  refine (toRowS_any _ f _ (HE.out.keep hbw5)).mono ?_
  rintro e w5t ⟨ge5, ce5, rfl, hge5, be5, hce5, hfe5, hb5t⟩
  have HFE := (show Hid (FillK rowC 5 ce5 f f.length) from hfe5)
  have bt5t := bt5.keep hb5t
  have b65t := b65.keep hb5t
  have b85t := b85.keep hb5t
  have M5t : Hid (SpM w5t wA.heap.size g4 f4 L F) := SpM.keep M5.out hb5t
  have OS5t : Hid (SpO w5t w2t.heap.size (.slice a3 R.length c3) (.slice b3 RF.length d3) R RF) := OS5.out.keep hb5t
  have hbw5t := bStep hbw5 hb5t
  have SL5t : Hid (∀ q, q < n6 → w5t.heap[q]? = wA.heap[q]?) := fun q hq => by rw [hb5t.block q (by have := HZ5.out; have := HZA.out; omega)]; exact SL5.out q hq
  have hz5t := hb5t.size
  have hge5l := be5.lt
  obtain ⟨x0t, x1t, _, _⟩ := b85t.two
  clear x0 x1 bt5 b65 b85 M5 OS5 hbw5 SL5 hb5t hfe5
  have bt5 := bt5t
  have b65 := b65t
  have b85 := b85t
  have M5 := M5t
  have OS5 := OS5t
  have hbw5 := hbw5t
  have SL5 := SL5t
  have x0 := x0t
  have x1 := x1t
  clear bt5t b65t b85t M5t OS5t hbw5t SL5t x0t x1t
  go_wp2_with fail
  have S5 := SpM.spn M5.out hL1 hL2 hL3
  have T5 : Rs w5t (.slice (some ⟨ge5, 0, none⟩) f.length f.length) f := SlK.of_blk be5 HFE.out rowC_len (Nat.le_refl _) (by unfold maxLen; omega) (by omega)
  refine (HIM.out _ _ _ w5t S5 T5).mono ?_
  rintro e w6 ⟨lv6, fv6, rfl, sp6, hb6⟩
  obtain ⟨a6, c6, b6, d6, rfl, rfl⟩ := sp6.open
  have hb67 : Below w6.heap.size w6 (w6.alloc (.cells #[.slice a6 R.length c6, .slice b6 RF.length d6] 26)) := bAlloc (Below.refl _ _) _
  have b97 : Bk (w6.alloc (.cells #[.slice a6 R.length c6, .slice b6 RF.length d6] 26)) w6.heap.size #[.slice a6 R.length c6, .slice b6 RF.length d6] 26 := Bk.new _ _ rfl
  have hb57 := bStep hb6 hb67
  have bt7 := bt5.keep hb57
  have b67 := b65.keep hb57
  have b87 := b85.keep hb57
  have M7 : Hid (SpM (w6.alloc (.cells #[.slice a6 R.length c6, .slice b6 RF.length d6] 26)) wA.heap.size g4 f4 L F) := SpM.keep M5.out hb57
  have OS7 : Hid (SpO (w6.alloc (.cells #[.slice a6 R.length c6, .slice b6 RF.length d6] 26)) w2t.heap.size (.slice a3 R.length c3) (.slice b3 RF.length d3) R RF) := OS5.out.keep hb57
  have OG7 : Hid (SpO (w6.alloc (.cells #[.slice a6 R.length c6, .slice b6 RF.length d6] 26)) w5t.heap.size (.slice a6 R.length c6) (.slice b6 RF.length d6) R RF) := sp6.keep hb67
  have SL7 : Hid (∀ q, q < n6 → (w6.alloc (.cells #[.slice a6 R.length c6, .slice b6 RF.length d6] 26)).heap[q]? = wA.heap[q]?) := fun q hq => by rw [hb57.block q (by have := HZ5.out; have := HZA.out; omega)]; exact SL5.out q hq
  have hbw7 := bStep hbw5 hb57
  have hz6 := hb6.size
  have hs7 : (w6.alloc (.cells #[.slice a6 R.length c6, .slice b6 RF.length d6] 26)).heap.size = w6.heap.size + 1 := by simp
  have HZ7 := (show Hid _ from hs7)
  have be7 := be5.keep hb57
  clear x0 x1 S5 T5 be5 bt5 b65 b85 M5 OS5 sp6 hb6 hb67 hb57 hbw5 SL5 hs7
  obtain ⟨y0, y1, _, _⟩ := b97.two
  obtain ⟨z0, z1, _, _⟩ := b67.two
  go_wp2_with fail
  generalize w6.heap.size = n9 at *
  generalize (w6.alloc (.cells #[.slice a6 R.length c6, .slice b6 RF.length d6] 26)) = w7 at *
  refine (eqSpine_same _ _ _ _ R RF _ (OG7.out.spn (by omega) (by omega)) (OS7.out.spn (by omega) (by omega))).mono ?_
  rintro e w8 ⟨rfl, hb8⟩
  have hbw8 := bStep hbw7 hb8
  have bt8 := bt7.keep hb8
  have b68 := b67.keep hb8
  have b88 := b87.keep hb8
  have b98 := b97.keep hb8
  have M8 : Hid (SpM w8 wA.heap.size g4 f4 L F) := SpM.keep M7.out hb8
  have OS8 : Hid (SpO w8 w2t.heap.size (.slice a3 R.length c3) (.slice b3 RF.length d3) R RF) := OS7.out.keep hb8
  have OG8 : Hid (SpO w8 w5t.heap.size (.slice a6 R.length c6) (.slice b6 RF.length d6) R RF) := OG7.out.keep hb8
  have be8 := be7.keep hb8
  have SL8 : Hid (∀ q, q < n6 → w8.heap[q]? = wA.heap[q]?) := fun q hq => by rw [hb8.block q (by have := HZ7.out; have := HZ5.out; have := HZA.out; omega)]; exact SL7.out q hq
  have HX : Hid (∀ W, Below w8.heap.size w8 W → (W.cell? ⟨w.heap.size, 0, none⟩ = some (.slice a L.length cap) ∧ W.cell? ⟨w.heap.size, 1, none⟩ = some (.slice b F.length cbp)) ∧ W.cell? ⟨n8, 0, none⟩ = some (.slice (some ⟨g4, 0, none⟩) L.length L.length) ∧ W.cell? ⟨n8, 1, none⟩ = some (.slice (some ⟨f4, 0, none⟩) F.length F.length)) := fun W hW => ⟨⟨(bt8.keep hW).two.1, (bt8.keep hW).two.2.1⟩, (b88.keep hW).two.1, (b88.keep hW).two.2.1⟩
  have HY : Hid (∀ W, Below w8.heap.size w8 W → Spn W (.slice (some ⟨g4, 0, none⟩) L.length L.length) (.slice (some ⟨f4, 0, none⟩) F.length F.length) L F) := fun W hW => SpM.spn (SpM.keep M8.out hW) hL1 hL2 hL3
  have HSW : Hid (∀ W, Below w8.heap.size w8 W → Spn W (.slice a L.length cap) (.slice b F.length cbp) L F) := fun W hW => (HS.out.keep hbw8).keep hW
  have HZ8 : Hid (w7.heap.size ≤ w8.heap.size) := hb8.size
  obtain ⟨⟨k0, k1⟩, k2, k3⟩ := HX.out w8 (Below.refl _ _)
  have hcur : Below w8.heap.size w8 w8.drew := (Below.refl _ _).drew
  clear be7 bt7 b67 b87 b97 hb8 M7 OS7 OG7 SL7 y0 y1 z0 z1 hbw7
  go_wp2_with fail
  go_region_held3 (fun W => (W.cell? ⟨w.heap.size, 0, none⟩ = some (.slice a L.length cap) ∧ W.cell? ⟨w.heap.size, 1, none⟩ = some (.slice b F.length cbp)) ∧ W.cell? ⟨n8, 0, none⟩ = some (.slice (some ⟨g4, 0, none⟩) L.length L.length) ∧ W.cell? ⟨n8, 1, none⟩ = some (.slice (some ⟨f4, 0, none⟩) F.length F.length))
    (first | exact HX.out _ hcur | exact HX.out _ hcur2 | exact HX.out _ hcur3)
    (first
      | (go_at_call 23; with_reducible refine (toSpine_any _ _ L F _ (HSW.out _ hcur)).mono ?_; rintro e wc ⟨gc, fc, rfl, hmc, hbc⟩; have hcur2 : Below w8.heap.size w8 wc := bStep hcur hbc; have SC := hmc.spn hL1 hL2 hL3)
      | (go_at_call 25; with_reducible refine (eqSpine_same _ _ _ _ L F _ (HY.out _ hcur2) SC).mono ?_; rintro e w10 ⟨rfl, hbd⟩; have hcur3 : Below w8.heap.size w8 w10 := bStep hcur2 hbd))
  all_goals
    have bt10 := bt8.keep hcur3
    have b610 := b68.keep hcur3
    have b810 := b88.keep hcur3
    have b910 := b98.keep hcur3
    have be10 := be8.keep hcur3
    have M10 : SpM w10 wA.heap.size g4 f4 L F := SpM.keep M8.out hcur3
    have OG10 : Hid (SpO w10 w5t.heap.size (.slice a6 R.length c6) (.slice b6 RF.length d6) R RF) := OG8.out.keep hcur3
    have SL10 : Hid (∀ q, q < n6 → w10.heap[q]? = wA.heap[q]?) := fun q hq => by rw [hcur3.block q (by have := HZ8.out; have := HZ7.out; have := HZ5.out; have := HZA.out; omega)]; exact SL8.out q hq
    have hbw10 := bStep hbw8 hcur3
    have HZ10 : Hid (w8.heap.size ≤ w10.heap.size) := hcur3.size
    clear be8 k0 k1 k2 k3 HX HY HSW hcur hcur2 hcur3 hbd hbc hmc SC bt8 b68 b88 b98 M8 OS8 OG8 SL8 hbw8
    go_wp2_with fail
    refine (toRowS_any _ f _ (HE.out.keep hbw10)).mono ?_
    rintro e w10a ⟨gea, cea, rfl, -, hbea, -, hfea, hb10a⟩
    have TA : Rs w10a (.slice (some ⟨gea, 0, none⟩) f.length f.length) f := SlK.of_blk hbea hfea rowC_len (Nat.le_refl _) (by unfold maxLen; omega) (by omega)
    have TX : Rs w10a (.slice (some ⟨ge5, 0, none⟩) f.length f.length) f := SlK.of_blk (be10.keep hb10a) HFE.out rowC_len (Nat.le_refl _) (by unfold maxLen; omega) (by omega)
    clear hbea hfea
    go_wp2_with fail
    refine (eqRowS_same _ _ f _ TX TA).mono ?_
    rintro e w10b ⟨rfl, hb10b⟩
    have hb10c := bStep hb10a hb10b
    have bt10b := bt10.keep hb10c
    have b610b := b610.keep hb10c
    have b810b := b810.keep hb10c
    have b910b := b910.keep hb10c
    have be10b := be10.keep hb10c
    have M10b : SpM w10b wA.heap.size g4 f4 L F := SpM.keep M10 hb10c
    have OG10b : Hid (SpO w10b w5t.heap.size (.slice a6 R.length c6) (.slice b6 RF.length d6) R RF) := OG10.out.keep hb10c
    have SL10b : Hid (∀ q, q < n6 → w10b.heap[q]? = wA.heap[q]?) := fun q hq => by rw [hb10c.block q (by have := HZ10.out; have := HZ8.out; have := HZ7.out; have := HZ5.out; have := HZA.out; omega)]; exact SL10.out q hq
    have hbw10b := bStep hbw10 hb10c
    have HZ10b : Hid (w8.heap.size ≤ w10b.heap.size) := Nat.le_trans HZ10.out hb10c.size
    obtain ⟨x0, x1, _, _⟩ := b810b.two
    clear TA TX hb10a hb10b hb10c bt10 b610 b810 b910 be10 M10 OG10 SL10 hbw10 HZ10
    have bt10 := bt10b
    have b610 := b610b
    have b810 := b810b
    have b910 := b910b
    have be10 := be10b
    have M10 := M10b
    have OG10 := OG10b
    have SL10 := SL10b
    have hbw10 := hbw10b
    have HZ10 := HZ10b
    clear bt10b b610b b810b b910b be10b M10b OG10b SL10b hbw10b HZ10b
    go_wp2_with fail
    refine (markSpine_any _ g4 f4 n8 L F 1 _ M10 hf4 (by have := HZ10.out; have := HZ8.out; have := HZ7.out; have := HZ5.out; omega) hL1 hL2 hL3 (by omega) (by omega)).mono ?_
    rintro e w11 ⟨rfl, hz11⟩
    have hKa : 0 ≤ (1 : Int) + 5 * (L.flatten.length : Int) + 2 * (F.length : Int) := by omega
    have hKb : (1 : Int) + 5 * (L.flatten.length : Int) + 2 * (F.length : Int) ≤ 10000000 := by omega
    generalize hKK : (1 : Int) + 5 * (L.flatten.length : Int) + 2 * (F.length : Int) = KK at *
    have hA6 : n6 + 1 = wA.heap.size := by have := HZA.out; omega
    have h58 : w5.heap.size = n8 + 1 := HZ5.out
    have bt11 := bt10.keepz hz11 (by have := bt10.lt; omega)
    have b611 := b610.keepz hz11 (by omega)
    have b911 := b910.keepz hz11 (by omega)
    have SL11 : ∀ q, q < n6 → w11.heap[q]? = wA.heap[q]? := fun q hq => by rw [hz11.block q (by have := HZ10.out; have := HZ8.out; have := HZ7.out; omega) (by omega)]; exact SL10.out q hq
    have OS11 : Hid (SpO w11 w2t.heap.size (.slice a3 R.length c3) (.slice b3 RF.length d3) R RF) := SL.out w11 SL11
    have OG11 : Hid (SpO w11 w5t.heap.size (.slice a6 R.length c6) (.slice b6 RF.length d6) R RF) := by
      obtain ⟨vs, i1, i2, i3⟩ := OG10.out
      refine ⟨vs, ownK_besides i1 hz11 (fun q e => by have := ownK_base i1 q e; omega), ?_, ownK_besides i3 hz11 (fun q e => by have := ownK_base i3 q e; omega)⟩
      exact ⟨i2.len, fun i u l e1 e2 => ownK_besides (i2.own i u l e1 e2) hz11 (fun q e => by have := ownK_base (i2.own i u l e1 e2) q e; omega), i2.few, i2.nd⟩
    have hbw11 := hz11.below hbw10 (by have := hbw10.size; omega) (by have := bt10.lt; omega)
    have HZ11 : Hid (w10b.heap.size ≤ w11.heap.size) := hz11.size
    have be11 := be10.keepz hz11 (by omega)
    have h5le : w5t.heap.size ≤ w11.heap.size := by have := HZ11.out; have := HZ10.out; have := HZ8.out; have := HZ7.out; omega
    clear x0 x1 be10 bt10 b610 b810 b910 M10 OG10 SL10 hbw10 hz11
    go_wp2_with fail
    refine (markRB_any ge5 f.length f.length ce5 KK _ be11 hce5 (Nat.le_refl _) (by omega) (by omega) (by omega)).mono ?_
    rintro e w11t ⟨ct, rfl, -, -, -, hxt⟩
    have bt11t := bt11.keepx hxt (by omega)
    have b611t := b611.keepx hxt (by omega)
    have b911t := b911.keepx hxt (by omega)
    have SL11t : ∀ q, q < n6 → w11t.heap[q]? = wA.heap[q]? := fun q hq => by rw [hxt.block q (by omega) (by omega)]; exact SL11 q hq
    have OS11t : Hid (SpO w11t w2t.heap.size (.slice a3 R.length c3) (.slice b3 RF.length d3) R RF) := SL.out w11t SL11t
    have OG11t : Hid (SpO w11t w5t.heap.size (.slice a6 R.length c6) (.slice b6 RF.length d6) R RF) := by
      obtain ⟨vs, i1, i2, i3⟩ := OG11.out
      refine ⟨vs, ownK_beside i1 hxt (fun q e => by have := ownK_base i1 q e; omega), ?_, ownK_beside i3 hxt (fun q e => by have := ownK_base i3 q e; omega)⟩
      exact ⟨i2.len, fun i u l e1 e2 => ownK_beside (i2.own i u l e1 e2) hxt (fun q e => by have := ownK_base (i2.own i u l e1 e2) q e; omega), i2.few, i2.nd⟩
    have hbw11t := hxt.below hbw11 (by have := hbw11.size; omega) (by omega)
    have h5let : w5t.heap.size ≤ w11t.heap.size := Nat.le_trans h5le hxt.size
    obtain ⟨y0, y1, _, _⟩ := b911t.two
    obtain ⟨z0, z1, _, _⟩ := b611t.two
    clear be11 bt11 b611 b911 SL11 OS11 OG11 hbw11 hxt h5le
    have bt11 := bt11t
    have b611 := b611t
    have b911 := b911t
    have SL11 := SL11t
    have OS11 := OS11t
    have OG11 := OG11t
    have hbw11 := hbw11t
    have h5le := h5let
    clear bt11t b611t b911t SL11t OS11t OG11t hbw11t h5let
    go_wp2_with fail
    refine (eqSpine_same _ _ _ _ R RF _ (OG11.out.spn (by omega) (by omega)) (OS11.out.spn (by omega) (by omega))).mono ?_
    rintro e w12 ⟨rfl, hb12⟩
    have bt12 := bt11.keep hb12
    have b612 := b611.keep hb12
    have b912 := b911.keep hb12
    have OS12 : Hid (SpO w12 w2t.heap.size (.slice a3 R.length c3) (.slice b3 RF.length d3) R RF) := OS11.out.keep hb12
    have OG12 : Hid (SpO w12 w5t.heap.size (.slice a6 R.length c6) (.slice b6 RF.length d6) R RF) := OG11.out.keep hb12
    have SL12 : Hid (∀ q, q < n6 → w12.heap[q]? = wA.heap[q]?) := fun q hq => by rw [hb12.block q (by omega)]; exact SL11 q hq
    have hbw12 := bStep hbw11 hb12
    have h5l2 : w5t.heap.size ≤ w12.heap.size := Nat.le_trans h5le hb12.size
    obtain ⟨u0, u1, _, _⟩ := b912.two
    clear y0 y1 z0 z1 bt11 b611 b911 OS11 OG11 SL11 hb12 hbw11
    go_wp2_with fail
    refine (markSpO_any _ _ R RF _ w12 OG12.out h5l2 (by omega) (by omega) (by omega)).mono ?_
    rintro e w13 ⟨rfl, ⟨L', hmk, om13⟩, hsk, hb13⟩
    have HMK := (show Hid (Mkd 1 R L' R.length) from hmk)
    have OM13 : Hid (SpO w13 w5t.heap.size (.slice a6 R.length c6) (.slice b6 RF.length d6) L' (marksL (1 + 5 * (R.flatten.length : Int)) RF.length)) := om13
    have bt13 := bt12.under hb13 (by have := HZA.out; have := bt12.lt; omega)
    have b613 := b612.under hb13 (by omega)
    have b913 : Bk w13 n9 #[.slice a6 R.length c6, .slice b6 RF.length d6] 26 := by unfold Bk; rw [hsk _ _ b912]; exact b912
    have SL13 : ∀ q, q < n6 → w13.heap[q]? = wA.heap[q]? := fun q hq => by rw [hb13.block q (by omega)]; exact SL12.out q hq
    have OS13 : Hid (SpO w13 w2t.heap.size (.slice a3 R.length c3) (.slice b3 RF.length d3) R RF) := SL.out w13 SL13
    have hbw13 := hbw12.trans (hb13.mono (by have := HZA.out; have := bt12.lt; omega))
    have hMf : (marksL (1 + 5 * (R.flatten.length : Int)) RF.length).length ≤ 2000000 := by rw [marksL_len]; omega
    have hMl : L'.length ≤ 2000000 := by rw [HMK.out.len]; omega
    have HMF := (show Hid _ from hMf)
    have HML := (show Hid _ from hMl)
    obtain ⟨v0, v1, _, _⟩ := b913.two
    clear u0 u1 bt12 b612 b912 OS12 OG12 SL12 SL13 hmk om13 hsk hb13 hbw12 hMf hMl
    go_wp2_with fail
    refine (heldSpO_any _ _ R L' RF _ w13 (OM13.out.spn HML.out HMF.out) HMK.out rfl (by omega) (by omega) (by omega)).mono ?_
    rintro e w14 ⟨rfl, hb14⟩
    have bt14 := bt13.keep hb14
    have b614 := b613.keep hb14
    have b914 := b913.keep hb14
    have OS14 : Hid (SpO w14 w2t.heap.size (.slice a3 R.length c3) (.slice b3 RF.length d3) R RF) := OS13.out.keep hb14
    have OM14 : Hid (SpO w14 w5t.heap.size (.slice a6 R.length c6) (.slice b6 RF.length d6) L' (marksL (1 + 5 * (R.flatten.length : Int)) RF.length)) := OM13.out.keep hb14
    have hbw14 := bStep hbw13 hb14
    obtain ⟨p0, p1, _, _⟩ := bt14.two
    clear v0 v1 bt13 b613 b913 OS13 OM13 hb14 hbw13
    go_wp2_with fail
    refine (toSpine_any _ _ L F _ (HS.out.keep hbw14)).mono ?_
    rintro e w15 ⟨g15, f15, rfl, hm15, hb15⟩
    have S15 := hm15.spn hL1 hL2 hL3
    have b615 := b614.keep hb15
    have b915 := b914.keep hb15
    have OS15 : Hid (SpO w15 w2t.heap.size (.slice a3 R.length c3) (.slice b3 RF.length d3) R RF) := OS14.out.keep hb15
    have OM15 : Hid (SpO w15 w5t.heap.size (.slice a6 R.length c6) (.slice b6 RF.length d6) L' (marksL (1 + 5 * (R.flatten.length : Int)) RF.length)) := OM14.out.keep hb15
    have hbw15 := bStep hbw14 hb15
    clear p0 p1 bt14 b614 b914 OS14 OM14 hb15 hm15 hbw14
    go_wp2_with fail
    refine (toRowS_any _ f _ (HE.out.keep hbw15)).mono ?_
    rintro e w15t ⟨geh, ceh, rfl, -, hbeh, -, hfeh, hb15t⟩
    have TH : Rs w15t (.slice (some ⟨geh, 0, none⟩) f.length f.length) f := SlK.of_blk hbeh hfeh rowC_len (Nat.le_refl _) (by unfold maxLen; omega) (by omega)
    have S15t := S15.keep hb15t
    have b615t := b615.keep hb15t
    have b915t := b915.keep hb15t
    have OS15t : Hid (SpO w15t w2t.heap.size (.slice a3 R.length c3) (.slice b3 RF.length d3) R RF) := OS15.out.keep hb15t
    have OM15t : Hid (SpO w15t w5t.heap.size (.slice a6 R.length c6) (.slice b6 RF.length d6) L' (marksL (1 + 5 * (R.flatten.length : Int)) RF.length)) := OM15.out.keep hb15t
    have hbw15t := bStep hbw15 hb15t
    clear hbeh hfeh hb15t S15 b615 b915 OS15 OM15 hbw15
    have S15 := S15t
    have b615 := b615t
    have b915 := b915t
    have OS15 := OS15t
    have OM15 := OM15t
    have hbw15 := hbw15t
    clear S15t b615t b915t OS15t OM15t hbw15t
    go_wp2_with fail
    refine (HIM.out _ _ _ w15t S15 TH).mono ?_
    rintro e w16 ⟨lvh, fvh, rfl, sph, hb16⟩
    obtain ⟨ah, ch, bh, dh, rfl, rfl⟩ := sph.open
    have hb167 : Below w16.heap.size w16 (w16.alloc (.cells #[.slice ah R.length ch, .slice bh RF.length dh] 26)) := bAlloc (Below.refl _ _) _
    have bh17 : Bk (w16.alloc (.cells #[.slice ah R.length ch, .slice bh RF.length dh] 26)) w16.heap.size #[.slice ah R.length ch, .slice bh RF.length dh] 26 := Bk.new _ _ rfl
    have hb157 := bStep hb16 hb167
    have b617 := b615.keep hb157
    have b917 := b915.keep hb157
    have OS17 : Hid (SpO (w16.alloc (.cells #[.slice ah R.length ch, .slice bh RF.length dh] 26)) w2t.heap.size (.slice a3 R.length c3) (.slice b3 RF.length d3) R RF) := OS15.out.keep hb157
    have OM17 : Hid (SpO (w16.alloc (.cells #[.slice ah R.length ch, .slice bh RF.length dh] 26)) w5t.heap.size (.slice a6 R.length c6) (.slice b6 RF.length d6) L' (marksL (1 + 5 * (R.flatten.length : Int)) RF.length)) := OM15.out.keep hb157
    have OH17 : Hid (SpO (w16.alloc (.cells #[.slice ah R.length ch, .slice bh RF.length dh] 26)) w15t.heap.size (.slice ah R.length ch) (.slice bh RF.length dh) R RF) := sph.keep hb167
    have hbw17 := bStep hbw15 hb157
    clear TH S15 b615 b915 OS15 OM15 sph hb16 hb167 hb157 hbw15
    obtain ⟨x0, x1, _, _⟩ := bh17.two
    obtain ⟨y0, y1, _, _⟩ := b617.two
    go_wp2_with fail
    generalize w16.heap.size = nh at *
    generalize (w16.alloc (.cells #[.slice ah R.length ch, .slice bh RF.length dh] 26)) = w17 at *
    refine (eqSpine_same _ _ _ _ R RF _ (OH17.out.spn (by omega) (by omega)) (OS17.out.spn (by omega) (by omega))).mono ?_
    rintro e w18 ⟨rfl, hb18⟩
    have b918 := b917.keep hb18
    have OM18 : Hid (SpO w18 w5t.heap.size (.slice a6 R.length c6) (.slice b6 RF.length d6) L' (marksL (1 + 5 * (R.flatten.length : Int)) RF.length)) := OM17.out.keep hb18
    have hbw18 := bStep hbw17 hb18
    obtain ⟨z0, z1, _, _⟩ := b918.two
    clear x0 x1 y0 y1 b617 b917 bh17 OS17 OM17 OH17 hb18 hbw17
    go_wp2_with fail
    refine (heldSpO_any _ _ R L' RF _ w18 (OM18.out.spn HML.out HMF.out) HMK.out rfl (by omega) (by omega) (by omega)).mono ?_
    rintro e w19 ⟨rfl, hb19⟩
    have hbw19 := bStep hbw18 hb19
    clear z0 z1 b918 OM18 hb19 hbw18
    go_wp2_with fail
    go_ret
    exact ⟨rfl, hbw19⟩
end FnExactSpineIn
namespace RowFnExactSpineIn
theorem own : ownKnob Tryz.prog.godebug = none := by kernel_rfl
set_option maxRecDepth 100000 in
theorem lifted (os : Os) (started : os.Started) (H : Type) (enc : TypeId × Value → H) :
    ReturnsInHanded {} Tryz.checked os 6 .any (Rows.fnExactSpineInSpec.pre6 enc Tryz.prog Tryz.f6 Rows.fnExactSpineInRow.domain false) (Rows.fnExactSpineInSpec.post enc Tryz.prog Tryz.f6 false true false false) := by
  refine returnsInHanded_of_change (C := Tryz.checked) own started (by kernel_rfl) Tryz.func6
    (ChangeSpec.witness6 (enc := enc) (C := Tryz.checked) false ⟨#[], #[.agg #[.slice none 0 0, .slice none 0 0], .slice none 0 0], []⟩ 8 (by kernel_rfl) (by kernel_rfl) (by kernel_rfl) (by kernel_rfl)) ?_
  intro W base args ds gs before hval0 hW hcnd _
  have hval : ∀ (j : Nat) t v, Tryz.f6.params[j]? = some t → args[j]? = some v → Value.okWide Tryz.prog W .any base t v := hval0
  have hW' := hW
  obtain ⟨p, q, hA0, hV, rfl, hfz, hnd⟩ := hW
  have hA : DataW.TrodAll enc Tryz.prog W 0 (fun _ => true) true Tryz.f6.params.toList args.toList ds p := hA0
  rw [Tryz.params6] at hA hval
  obtain ⟨v0, vs0, d0, ds0, p0, q0, hargs, rfl, rfl, h0, r0⟩ := trodAll_cons hA
  obtain ⟨v1, vs1, d1, ds1, p1, q1, rfl, rfl, rfl, h1, r1⟩ := trodAll_cons r0
  obtain ⟨rfl, rfl, rfl⟩ := trodAll_nil r1
  obtain rfl : args = #[v0, v1] := by cases args; simp_all
  obtain ⟨rfl, rfl⟩ := trodVars_none hV
  have k0 := h0
  have lt0 : ∀ x ∈ p0, x.block < W.heap.size := by obtain ⟨m, hm⟩ := k0; exact DataW.trod_lt m _ _ _ hm
  obtain ⟨a0, len0, cap0, ns0, b0, lem0, cbp0, rfl, w0, u0⟩ := SpArg.of_trod (hval 0 47 v0 rfl rfl) h0
  obtain ⟨a1, len1, cap1, rfl⟩ := okWide_slice Tryz.underlying48 (hval 1 48 v1 rfl rfl)
  have k1 := h1
  have lt1 : ∀ x ∈ p1, x.block < W.heap.size := by obtain ⟨m, hm⟩ := k1; exact DataW.trod_lt m _ _ _ hm
  have w1 : RsArg W a1 len1 cap1 := RsArg.of_trod h1
  clear hA0 hval0
  refine (FnExactSpineIn.walk a0 len0 cap0 ns0 b0 lem0 cbp0 a1 len1 cap1 W w0 u0 w1).mono fun e W' ⟨he, bel⟩ => ?_
  subst he
  exact ⟨_, rfl, _, _, _, [], _, [], hW', trodAll_mk1 (shut_bool Tryz.underlying4 _), (trodAll_cons_mk (Below.trod pfLaid (by kernel_rfl) (of_decide_eq_true (by kernel_rfl)) k0 bel lt0) (trodAll_cons_mk (Below.trod pfLaid (by kernel_rfl) (of_decide_eq_true (by kernel_rfl)) k1 bel lt1) trodAll_mk0)), rfl, bel.frame _, fun h => by cases h⟩
set_option maxHeartbeats 4000000 in
theorem closed : joinedFacts Tryz.prog 6 Tryz.f6 Rows.fnExactSpineInSpec Rows.fnExactSpineInRow = true := by
  unfold joinedFacts
  exact (andB (andB (andB (andB (andB (andB (andB (andB (andB (andB (andB (andB (andB (andB (andB (andB (andB (andB (andB (andB (andB (andB (andB (andB (andB (andB (andB (andB (andB (andB (andB (by as_aux_lemma => kernel_rfl) pfLaid) pfRowed) (by as_aux_lemma => kernel_rfl)) (by as_aux_lemma => kernel_rfl)) (by as_aux_lemma => kernel_rfl)) (by as_aux_lemma => kernel_rfl)) (by as_aux_lemma => kernel_rfl)) (by as_aux_lemma => kernel_rfl)) (by as_aux_lemma => kernel_rfl)) (by as_aux_lemma => kernel_rfl)) (by as_aux_lemma => kernel_rfl)) (by as_aux_lemma => kernel_rfl)) (by as_aux_lemma => kernel_rfl)) (by as_aux_lemma => kernel_rfl)) (by as_aux_lemma => kernel_rfl)) (by as_aux_lemma => kernel_rfl)) (by as_aux_lemma => kernel_rfl)) (by as_aux_lemma => kernel_rfl)) (by as_aux_lemma => kernel_rfl)) (by as_aux_lemma => kernel_rfl)) (by as_aux_lemma => kernel_rfl)) (by as_aux_lemma => kernel_rfl)) (by as_aux_lemma => kernel_rfl)) pfHeard) pfEnter) (pfLiftB rfl)) (pfMakeB rfl)) (by as_aux_lemma => kernel_rfl)) (by as_aux_lemma => kernel_rfl)) (by as_aux_lemma => kernel_rfl)) (by as_aux_lemma => kernel_rfl))
theorem over : Rows.fnExactSpineInRow.holds Tryz.pinned (OpenSpec.ofChange Rows.fnExactSpineInSpec) :=
  OpenClaim.holds_of_wide 6 Tryz.f6 rfl rfl rfl rfl rfl rfl rfl ⟨rfl, rfl, rfl, rfl, rfl⟩ rfl rfl rfl rfl rfl (by kernel_rfl) Tryz.func6 closed
    (of_decide_eq_true (by kernel_rfl)) (by unfold Func.isWrapper; first | (rw [if_pos (by decide +kernel)]; kernel_rfl) | (rw [if_neg (by decide +kernel)]; exact ⟨rfl, rfl⟩))
    (fun os started H enc _ => lifted os started H enc)
end RowFnExactSpineIn
theorem fnExactSpineIn_holds : Rows.FnExactSpineInSaid := RowFnExactSpineIn.over
end Go.Proofs.YtjkojbafifbdgaaGreat
