import Derived.Test.YtbdpcngcbnoioaaGreatDoorQc6
import Derived.Test.YtbdpcngcbnoioaaGreatDoorGqd
import Derived.Test.YtbdpcngcbnoioaaGreatDoorGqc
import Derived.Test.YtbdpcngcbnoioaaGreatDoorGa5
namespace Go.Proofs.YtbdpcngcbnoioaaGreatDoor
open Go.RowKit
theorem specNew_k {t : PT} {s : SS} {b : Bool} (hp : pokB t 4 = b) (hs : (if b then newV t else zeroS) = s) {B : Nat} {v : Value} {w : World} (h : KdS B w t v) :
    Calls Tryz.prog 38 #[pl t.k t.n v] w fun e w' => ∃ z0 z1 z2 z3 z4 z5 z6 z7, e = .returned (.tuple #[sv s.t.k s.t.n (.slice z0 s.t.len z1) (.slice z2 s.K.length z3) (.slice z4 s.f.length z5) (.slice z6 s.d.length z7), .bool b]) ∧ Ses w' (.slice z0 s.t.len z1) (.slice z2 s.K.length z3) (.slice z4 s.f.length z5) (.slice z6 s.d.length z7) s ∧ Below w.heap.size w w' := by
  cases b
  · simp at hs; subst hs
    refine (specSessNew_no hp h).mono ?_
    rintro e w1 ⟨sp, si, sf, sd, rfl, hS, hb⟩
    obtain ⟨a0, c0, a1, c1, a2, c2, a3, c3, rfl, rfl, rfl, rfl⟩ := hS.sl
    exact ⟨a0, c0, a1, c1, a2, c2, a3, c3, rfl, hS, hb⟩
  · simp at hs; subst hs
    refine (specSessNew_yes hp h).mono ?_
    rintro e w1 ⟨sp, si, sf, rfl, hN, hb⟩
    have hS := hN.ses
    obtain ⟨a0, c0, a1, c1, a2, c2, a3, c3, rfl, rfl, rfl, e3⟩ := hS.sl
    rw [e3] at hS ⊢
    exact ⟨a0, c0, a1, c1, a2, c2, a3, c3, rfl, hS, hb⟩
theorem implNew_k (ea : Addr) {t : PT} {s : SS} {b : Bool} (hp : pokB t 4 = b) (hs : (if b then newV t else zeroS) = s) (hsm : t.sm) {B : Nat} {v : Value} {w : World} (h : KdS B w t v) (hg : w.cell? ⟨0, 0, none⟩ = some (erV ea)) :
    Calls Tryz.prog 39 #[pl t.k t.n v] w fun e w' => ∃ z0 z1 z2 z3 z4 z5 z6 z7, e = .returned (.tuple #[sv s.t.k s.t.n (.slice z0 s.t.len z1) (.slice z2 s.K.length z3) (.slice z4 s.f.length z5) (.slice z6 s.d.length z7), .bool b]) ∧ Ses w' (.slice z0 s.t.len z1) (.slice z2 s.K.length z3) (.slice z4 s.f.length z5) (.slice z6 s.d.length z7) s ∧ Below w.heap.size w w' := by
  cases b
  · simp at hs; subst hs
    refine (implSessNew_no ea hp hsm h hg).mono ?_
    rintro e w1 ⟨sp, si, sf, sd, rfl, hS, hb⟩
    obtain ⟨a0, c0, a1, c1, a2, c2, a3, c3, rfl, rfl, rfl, rfl⟩ := hS.sl
    exact ⟨a0, c0, a1, c1, a2, c2, a3, c3, rfl, hS, hb⟩
  · simp at hs; subst hs
    refine (implSessNew_yes ea hp hsm h hg).mono ?_
    rintro e w1 ⟨sp, si, sf, rfl, hS, hb⟩
    obtain ⟨a0, c0, a1, c1, a2, c2, a3, c3, rfl, rfl, rfl, e3⟩ := hS.sl
    rw [e3] at hS ⊢
    exact ⟨a0, c0, a1, c1, a2, c2, a3, c3, rfl, hS, hb⟩
theorem implAt_no (ea : Addr) {s : SS} {x y : Int} (hn : atS s x y = none) {sp si sf sd : Value} {w : World} (hsm : s.t.sm) (h : Ses w sp si sf sd s) (hg : w.cell? ⟨0, 0, none⟩ = some (erV ea)) :
    Calls Tryz.prog 16 #[sv s.t.k s.t.n sp si sf sd, tv x y] w fun e w' => ∃ (a : Option Addr) (c : Nat), e = .returned (.tuple #[.slice a 0 c, .bool false]) ∧ Below w.heap.size w w' := by
  refine (implSessAt_any ea x y hsm h hg).mono ?_
  rintro e w1 ⟨a, c, rfl, -, hb⟩
  rw [hn]
  exact ⟨a, c, rfl, hb⟩
theorem lwPlan_of {u t : PT} (e : u = t) {B B' : Nat} {s s' : Value} {w : World} (h : KdS B w u s) (h' : KdS B' w t s') : Calls Tryz.prog 40 #[pl u.k u.n s, pl t.k t.n s'] w (SamePost w) := by
  subst e; exact lwPlan_same u h h'
namespace FnSessNew
set_option maxRecDepth 100000 in
set_option maxHeartbeats 8000000 in
theorem walk (ea : Addr) (x0 : Option Addr) (len0 cap0 : Nat) (w : World) (h0 : Src w (.slice x0 len0 cap0) len0) (hg : w.cell? ⟨0, 0, none⟩ = some (erV ea)) :
    Calls Tryz.prog 8 #[.slice x0 len0 cap0] w fun e w' => e = .returned (.bool true) ∧ Below w.heap.size w w' := by
  by_cases g0 : (1048576 : Int) < (len0 : Int)
  · go_enter Tryz.func8, Tryz.ntmps8
    go_wp2_with fail
    go_ret
    exact ⟨rfl, Below.refl _ _⟩
  go_enter Tryz.func8, Tryz.ntmps8
  go_wp2_with fail
  refine (drawSessNew_any _ _ _ _ h0).mono ?_
  rintro e w1 ⟨t, a2, i2, c2, rfl, hsm, KD_1, hb1⟩
  have hbw1 := hb1
  clear h0 hb1
  obtain rfl : i2 = t.len := by obtain ⟨q1, q2, e⟩ := KdS.sl KD_1; cases e; rfl
  have HM := (show Hid (t.sm) from hsm)
  clear hsm
  have hbx2 : Below w1.heap.size w1 (w1.alloc (.cells #[.int .i64 t.k, .int .i64 t.n, .slice a2 t.len c2] 25)) := bAlloc (Below.refl _ _) _
  have PB_2 : Bk (w1.alloc (.cells #[.int .i64 t.k, .int .i64 t.n, .slice a2 t.len c2] 25)) w1.heap.size #[.int .i64 t.k, .int .i64 t.n, .slice a2 t.len c2] 25 := Bk.new _ _ rfl
  have KD_2 := KD_1.keep hbx2
  have hbw2 := bStep hbw1 hbx2
  clear KD_1 hbw1 hbx2
  cases hp : pokB t 4
  · have HP := (show Hid (pokB t 4 = false) from hp)
    clear hp
    obtain ⟨s, hs0⟩ : ∃ s, (if false then newV t else zeroS) = s := ⟨_, rfl⟩
    have HS : Hid _ := hs0
    clear hs0
    obtain ⟨y00_2, y01_2, y02_2⟩ := PB_2.three'
    go_wp2_with fail
    clear y00_2 y01_2 y02_2
    refine (specNew_k HP.out HS.out KD_2).mono ?_
    rintro e w3 ⟨u0, u1, u2, u3, u4, u5, u6, u7, rfl, W_3, hb3⟩
    have KD_3 := KD_2.keep hb3
    have PB_3 := PB_2.keep hb3
    have hbw3 := bStep hbw2 hb3
    clear KD_2 PB_2 hbw2 hb3
    have hbx4 : Below w3.heap.size w3 (w3.alloc (.cells (sc s.t.k s.t.n (.slice u0 s.t.len u1) (.slice u2 s.K.length u3) (.slice u4 s.f.length u5) (.slice u6 s.d.length u7)) 30)) := bAlloc (Below.refl _ _) _
    have SB_4 : Bk (w3.alloc (.cells (sc s.t.k s.t.n (.slice u0 s.t.len u1) (.slice u2 s.K.length u3) (.slice u4 s.f.length u5) (.slice u6 s.d.length u7)) 30)) w3.heap.size (sc s.t.k s.t.n (.slice u0 s.t.len u1) (.slice u2 s.K.length u3) (.slice u4 s.f.length u5) (.slice u6 s.d.length u7)) 30 := Bk.new _ _ rfl
    have KD_4 := KD_3.keep hbx4
    have PB_4 := PB_3.keep hbx4
    have W_4 := W_3.keep hbx4
    have hbw4 := bStep hbw3 hbx4
    clear KD_3 PB_3 W_3 hbw3 hbx4
    obtain ⟨y00_4, y01_4, y02_4⟩ := PB_4.three'
    obtain ⟨y10_4, y11_4, y12_4, y13_4, y14_4, y15_4⟩ := SB_4.six
    go_wp2_with fail
    clear y00_4 y01_4 y02_4 y10_4 y11_4 y12_4 y13_4 y14_4 y15_4
    refine (implNew_k ea HP.out HS.out HM.out KD_4 (cell_below hbw4 hg)).mono ?_
    rintro e w5 ⟨v0, v1, v2, v3, v4, v5, v6, v7, rfl, X_5, hb5⟩
    have KD_5 := KD_4.keep hb5
    have PB_5 := PB_4.keep hb5
    have W_5 := W_4.keep hb5
    have SB_5 := SB_4.keep hb5
    have hbw5 := bStep hbw4 hb5
    clear KD_4 PB_4 W_4 SB_4 hbw4 hb5
    have hbx6 : Below w5.heap.size w5 (w5.alloc (.cells (sc s.t.k s.t.n (.slice v0 s.t.len v1) (.slice v2 s.K.length v3) (.slice v4 s.f.length v5) (.slice v6 s.d.length v7)) 30)) := bAlloc (Below.refl _ _) _
    have XB_6 : Bk (w5.alloc (.cells (sc s.t.k s.t.n (.slice v0 s.t.len v1) (.slice v2 s.K.length v3) (.slice v4 s.f.length v5) (.slice v6 s.d.length v7)) 30)) w5.heap.size (sc s.t.k s.t.n (.slice v0 s.t.len v1) (.slice v2 s.K.length v3) (.slice v4 s.f.length v5) (.slice v6 s.d.length v7)) 30 := Bk.new _ _ rfl
    have KD_6 := KD_5.keep hbx6
    have PB_6 := PB_5.keep hbx6
    have W_6 := W_5.keep hbx6
    have SB_6 := SB_5.keep hbx6
    have X_6 := X_5.keep hbx6
    have hbw6 := bStep hbw5 hbx6
    clear KD_5 PB_5 W_5 SB_5 X_5 hbw5 hbx6
    obtain ⟨y00_6, y01_6, y02_6⟩ := PB_6.three'
    obtain ⟨y10_6, y11_6, y12_6, y13_6, y14_6, y15_6⟩ := SB_6.six
    obtain ⟨y20_6, y21_6, y22_6, y23_6, y24_6, y25_6⟩ := XB_6.six
    go_wp2_with fail
    clear y00_6 y01_6 y02_6 y10_6 y11_6 y12_6 y13_6 y14_6 y15_6 y20_6 y21_6 y22_6 y23_6 y24_6 y25_6
    refine (lwSess_same X_6 W_6).mono ?_
    rintro e w7 ⟨rfl, hb7⟩
    have KD_7 := KD_6.keep hb7
    have PB_7 := PB_6.keep hb7
    have W_7 := W_6.keep hb7
    have SB_7 := SB_6.keep hb7
    have X_7 := X_6.keep hb7
    have XB_7 := XB_6.keep hb7
    have hbw7 := bStep hbw6 hb7
    clear KD_6 PB_6 W_6 SB_6 X_6 XB_6 hbw6 hb7
    obtain ⟨y00_7, y01_7, y02_7⟩ := PB_7.three'
    obtain ⟨y10_7, y11_7, y12_7, y13_7, y14_7, y15_7⟩ := SB_7.six
    obtain ⟨y20_7, y21_7, y22_7, y23_7, y24_7, y25_7⟩ := XB_7.six
    go_wp2_with fail
    clear y00_7 y01_7 y02_7 y10_7 y11_7 y12_7 y13_7 y14_7 y15_7 y20_7 y21_7 y22_7 y23_7 y24_7 y25_7
    refine (lwSess_same X_7 W_7).mono ?_
    rintro e w8 ⟨rfl, hb8⟩
    have KD_8 := KD_7.keep hb8
    have PB_8 := PB_7.keep hb8
    have W_8 := W_7.keep hb8
    have SB_8 := SB_7.keep hb8
    have X_8 := X_7.keep hb8
    have XB_8 := XB_7.keep hb8
    have hbw8 := bStep hbw7 hb8
    clear KD_7 PB_7 W_7 SB_7 X_7 XB_7 hbw7 hb8
    obtain ⟨y00_8, y01_8, y02_8⟩ := PB_8.three'
    obtain ⟨y10_8, y11_8, y12_8, y13_8, y14_8, y15_8⟩ := SB_8.six
    obtain ⟨y20_8, y21_8, y22_8, y23_8, y24_8, y25_8⟩ := XB_8.six
    go_wp2_with fail
    go_ret
    exact ⟨rfl, hbw8⟩
  · have HP := (show Hid (pokB t 4 = true) from hp)
    clear hp
    obtain ⟨s, hs0⟩ : ∃ s, (if true then newV t else zeroS) = s := ⟨_, rfl⟩
    have HS : Hid _ := hs0
    clear hs0
    obtain ⟨y00_2, y01_2, y02_2⟩ := PB_2.three'
    go_wp2_with fail
    clear y00_2 y01_2 y02_2
    refine (specNew_k HP.out HS.out KD_2).mono ?_
    rintro e w3 ⟨u0, u1, u2, u3, u4, u5, u6, u7, rfl, W_3, hb3⟩
    have KD_3 := KD_2.keep hb3
    have PB_3 := PB_2.keep hb3
    have hbw3 := bStep hbw2 hb3
    clear KD_2 PB_2 hbw2 hb3
    have hbx4 : Below w3.heap.size w3 (w3.alloc (.cells (sc s.t.k s.t.n (.slice u0 s.t.len u1) (.slice u2 s.K.length u3) (.slice u4 s.f.length u5) (.slice u6 s.d.length u7)) 30)) := bAlloc (Below.refl _ _) _
    have SB_4 : Bk (w3.alloc (.cells (sc s.t.k s.t.n (.slice u0 s.t.len u1) (.slice u2 s.K.length u3) (.slice u4 s.f.length u5) (.slice u6 s.d.length u7)) 30)) w3.heap.size (sc s.t.k s.t.n (.slice u0 s.t.len u1) (.slice u2 s.K.length u3) (.slice u4 s.f.length u5) (.slice u6 s.d.length u7)) 30 := Bk.new _ _ rfl
    have KD_4 := KD_3.keep hbx4
    have PB_4 := PB_3.keep hbx4
    have W_4 := W_3.keep hbx4
    have hbw4 := bStep hbw3 hbx4
    clear KD_3 PB_3 W_3 hbw3 hbx4
    obtain ⟨y00_4, y01_4, y02_4⟩ := PB_4.three'
    obtain ⟨y10_4, y11_4, y12_4, y13_4, y14_4, y15_4⟩ := SB_4.six
    go_wp2_with fail
    clear y00_4 y01_4 y02_4 y10_4 y11_4 y12_4 y13_4 y14_4 y15_4
    refine (implNew_k ea HP.out HS.out HM.out KD_4 (cell_below hbw4 hg)).mono ?_
    rintro e w5 ⟨v0, v1, v2, v3, v4, v5, v6, v7, rfl, X_5, hb5⟩
    have KD_5 := KD_4.keep hb5
    have PB_5 := PB_4.keep hb5
    have W_5 := W_4.keep hb5
    have SB_5 := SB_4.keep hb5
    have hbw5 := bStep hbw4 hb5
    clear KD_4 PB_4 W_4 SB_4 hbw4 hb5
    have hbx6 : Below w5.heap.size w5 (w5.alloc (.cells (sc s.t.k s.t.n (.slice v0 s.t.len v1) (.slice v2 s.K.length v3) (.slice v4 s.f.length v5) (.slice v6 s.d.length v7)) 30)) := bAlloc (Below.refl _ _) _
    have XB_6 : Bk (w5.alloc (.cells (sc s.t.k s.t.n (.slice v0 s.t.len v1) (.slice v2 s.K.length v3) (.slice v4 s.f.length v5) (.slice v6 s.d.length v7)) 30)) w5.heap.size (sc s.t.k s.t.n (.slice v0 s.t.len v1) (.slice v2 s.K.length v3) (.slice v4 s.f.length v5) (.slice v6 s.d.length v7)) 30 := Bk.new _ _ rfl
    have KD_6 := KD_5.keep hbx6
    have PB_6 := PB_5.keep hbx6
    have W_6 := W_5.keep hbx6
    have SB_6 := SB_5.keep hbx6
    have X_6 := X_5.keep hbx6
    have hbw6 := bStep hbw5 hbx6
    clear KD_5 PB_5 W_5 SB_5 X_5 hbw5 hbx6
    obtain ⟨y00_6, y01_6, y02_6⟩ := PB_6.three'
    obtain ⟨y10_6, y11_6, y12_6, y13_6, y14_6, y15_6⟩ := SB_6.six
    obtain ⟨y20_6, y21_6, y22_6, y23_6, y24_6, y25_6⟩ := XB_6.six
    go_wp2_with fail
    clear y00_6 y01_6 y02_6 y10_6 y11_6 y12_6 y13_6 y14_6 y15_6 y20_6 y21_6 y22_6 y23_6 y24_6 y25_6
    refine (lwSess_same X_6 W_6).mono ?_
    rintro e w7 ⟨rfl, hb7⟩
    have KD_7 := KD_6.keep hb7
    have PB_7 := PB_6.keep hb7
    have W_7 := W_6.keep hb7
    have SB_7 := SB_6.keep hb7
    have X_7 := X_6.keep hb7
    have XB_7 := XB_6.keep hb7
    have hbw7 := bStep hbw6 hb7
    clear KD_6 PB_6 W_6 SB_6 X_6 XB_6 hbw6 hb7
    clear SB_7 W_7
    have HT : Hid (s.t = t) := by have := HS.out; simp at this; subst this; rfl
    have HMS : Hid (s.t.sm) := by have := HT.out; show s.t.sm; rw [this]; exact HM.out
    have HOS : Hid ((allS s).isSome = true) := by have := HS.out; simp at this; subst this; show _ = _; rw [show newV t = ⟨t, [[], []], [(0, 0)], []⟩ from rfl, newS_all HP.out]; rfl
    have HAT : Hid (∀ x y : Int, okB x y = true → atS s x y = none) := by
      have := HS.out
      simp at this
      subst this
      intro x y hx
      have := first_cov hx
      simp [atS, newV, this]
    have zd1 : (s.d.length == 0) = true := by have := HS.out; simp at this; subst this; rfl
    have zd2 : ((s.d.length : Int) == 0) = true := by have := HS.out; simp at this; subst this; rfl
    go_wp2_with fail
    refine (lwAll_any _).mono ?_
    rintro e w8 ⟨ga, capa, rfl, howna, hga, hb8⟩
    have HA := (show Hid _ from howna)
    clear howna
    have KD_8 := KD_7.keep hb8
    have PB_8 := PB_7.keep hb8
    have X_8 := X_7.keep hb8
    have XB_8 := XB_7.keep hb8
    have hbw8 := bStep hbw7 hb8
    clear KD_7 PB_7 X_7 XB_7 hbw7 hb8
    have HC : Hid (∀ V : World, Below w8.heap.size w8 V → Bk V (w1.heap.size) #[.int .i64 t.k, .int .i64 t.n, .slice a2 t.len c2] 25 ∧ Bk V (w5.heap.size) (sc s.t.k s.t.n (.slice v0 s.t.len v1) (.slice v2 s.K.length v3) (.slice v4 s.f.length v5) (.slice v6 s.d.length v7)) 30 ∧ KdS w.heap.size V t (.slice a2 t.len c2) ∧ Ses V (.slice v0 s.t.len v1) (.slice v2 s.K.length v3) (.slice v4 s.f.length v5) (.slice v6 s.d.length v7) s ∧ V.cell? ⟨0, 0, none⟩ = some (erV ea)) := fun V hV => ⟨PB_8.keep hV, XB_8.keep hV, KD_8.keep hV, X_8.keep hV, cell_below (bStep hbw8 hV) hg⟩
    clear PB_8 XB_8 KD_8 X_8
    go_wp2_with fail
    go_loopw [9] (fun i wr => ∃ k : Nat, k ≤ 64 ∧ i = .int .i64 k ∧ Below w8.heap.size w8 wr) (fun i _ => 64 - (intOf i).toNat)
    case atStart => exact ⟨0, by omega, rfl, Below.refl _ _⟩
    obtain ⟨k, hk64, rfl, hb⟩ := hrel
    by_cases hlt : k < 64
    · obtain ⟨c0, c1⟩ := all_cells HA.out hlt
      have HOK : Hid (okB ((k / 8 : Nat) : Int) ((k % 8 : Nat) : Int) = true) := by show _ = _; simp [okB]; omega
      have HX : Hid (∀ V, Below w8.heap.size w8 V → (V.cell? ⟨w5.heap.size, 0, none⟩ = some (.int .i64 s.t.k) ∧ V.cell? ⟨w5.heap.size, 1, none⟩ = some (.int .i64 s.t.n) ∧ V.cell? ⟨w5.heap.size, 2, none⟩ = some (.slice v0 s.t.len v1) ∧ V.cell? ⟨w5.heap.size, 3, none⟩ = some (.slice v2 s.K.length v3) ∧ V.cell? ⟨w5.heap.size, 4, none⟩ = some (.slice v4 s.f.length v5) ∧ V.cell? ⟨w5.heap.size, 5, none⟩ = some (.slice v6 s.d.length v7)) ∧ V.cell? ⟨ga, k * 2, none⟩ = some (.int .i64 ((k / 8 : Nat) : Int)) ∧ V.cell? ⟨ga, k * 2 + 1, none⟩ = some (.int .i64 ((k % 8 : Nat) : Int))) :=
        fun V hW => ⟨(HC.out V hW).2.1.six, cell_below hW c0, cell_below hW c1⟩
      have ik : (k : Int) < 64 := by omega
      clear c0 c1
      generalize hX : ((k / 8 : Nat) : Int) = X at *
      generalize hY : ((k % 8 : Nat) : Int) = Y at *
      clear hX hY
      have hbD := hb.drew
      have HSD : Hid (Ses wr.drew (.slice v0 s.t.len v1) (.slice v2 s.K.length v3) (.slice v4 s.f.length v5) (.slice v6 s.d.length v7) s) := (HC.out _ hbD).2.2.2.1
      have HGD := (HC.out _ hbD).2.2.2.2
      have HNO : Hid (atS s X Y = none) := HAT.out X Y HOK.out
      go_wp2_with fail
      go_region_held3 (fun V => (V.cell? ⟨w5.heap.size, 0, none⟩ = some (.int .i64 s.t.k) ∧ V.cell? ⟨w5.heap.size, 1, none⟩ = some (.int .i64 s.t.n) ∧ V.cell? ⟨w5.heap.size, 2, none⟩ = some (.slice v0 s.t.len v1) ∧ V.cell? ⟨w5.heap.size, 3, none⟩ = some (.slice v2 s.K.length v3) ∧ V.cell? ⟨w5.heap.size, 4, none⟩ = some (.slice v4 s.f.length v5) ∧ V.cell? ⟨w5.heap.size, 5, none⟩ = some (.slice v6 s.d.length v7)) ∧ V.cell? ⟨ga, k * 2, none⟩ = some (.int .i64 X) ∧ V.cell? ⟨ga, k * 2 + 1, none⟩ = some (.int .i64 Y))
        (first | exact HX.out _ hbD | exact HX.out _ hbna)
        (first
          | (go_at_call 16; with_reducible refine (implAt_no ea HNO.out HMS.out HSD.out HGD).mono ?_; rintro e wa ⟨oA, cA, rfl, hba⟩; have hbna : Below w8.heap.size w8 wa := bStep hbD hba))
      all_goals
        clear hbD hb
        go_wp2_with fail
        go_roundw
        case rel => exact ⟨k + 1, by omega, by go_num, hbna⟩
        case measure => simp [intOf]; omega
    obtain rfl : k = 64 := by omega
    obtain ⟨PBz, XBz, KDz, Xz, HGz⟩ := HC.out _ hb
    have hbw9 := bStep hbw8 hb
    clear hb HGz
    have PB_9 := PBz
    clear PBz
    have XB_9 := XBz
    clear XBz
    have KD_9 := KDz
    clear KDz
    have X_9 := Xz
    clear Xz
    obtain ⟨y00_9, y01_9, y02_9⟩ := PB_9.three'
    obtain ⟨y10_9, y11_9, y12_9, y13_9, y14_9, y15_9⟩ := XB_9.six
    go_wp2_with fail
    clear y00_9 y01_9 y02_9 y10_9 y11_9 y12_9 y13_9 y14_9 y15_9
    refine (implSessOk_eq ea HOS.out HMS.out X_9 (cell_below hbw9 hg)).mono ?_
    rintro e w10 ⟨rfl, hb10⟩
    have KD_10 := KD_9.keep hb10
    have PB_10 := PB_9.keep hb10
    have X_10 := X_9.keep hb10
    have XB_10 := XB_9.keep hb10
    have hbw10 := bStep hbw9 hb10
    clear KD_9 PB_9 X_9 XB_9 hbw9 hb10
    obtain ⟨y00_10, y01_10, y02_10⟩ := PB_10.three'
    obtain ⟨y10_10, y11_10, y12_10, y13_10, y14_10, y15_10⟩ := XB_10.six
    go_wp2_with fail
    clear y00_10 y01_10 y02_10 y10_10 y11_10 y12_10 y13_10 y14_10 y15_10
    refine (lwPlan_of HT.out X_10.kd KD_10).mono ?_
    rintro e w11 ⟨rfl, hb11⟩
    have KD_11 := KD_10.keep hb11
    have PB_11 := PB_10.keep hb11
    have X_11 := X_10.keep hb11
    have XB_11 := XB_10.keep hb11
    have hbw11 := bStep hbw10 hb11
    clear KD_10 PB_10 X_10 XB_10 hbw10 hb11
    obtain ⟨y00_11, y01_11, y02_11⟩ := PB_11.three'
    obtain ⟨y10_11, y11_11, y12_11, y13_11, y14_11, y15_11⟩ := XB_11.six
    go_wp2_with fail
    go_ret
    exact ⟨rfl, hbw11⟩
end FnSessNew
end Go.Proofs.YtbdpcngcbnoioaaGreatDoor
