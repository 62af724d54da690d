/- Spines as the model draws them: the contract. -/
import Derived.Test.YtjkojbafifbdgaaGreatZxi
import Derived.Deep.RegionHeld3
namespace Go.Proofs.YtjkojbafifbdgaaGreat
open Go.RowKit Go.Shelf

attribute [local go_sem ↓] Go.wp_at_zero Go.wp_at_succ
set_option maxRecDepth 100000 in
set_option maxHeartbeats 8000000 in
theorem l71Spine_any {B : Nat} {w : World} {g : Nat} {v : Value} {n : Nat} {p : Int} (h : Rd B w g v n p) (hp : 0 ≤ p) (hp' : p ≤ 500000) :
    Calls Tryz.prog 30 #[.pointer (some ⟨g, 0, none⟩)] w fun e w' => ∃ (lv fv : Value) (L : List (List Rw)) (F : List (Int × Int)), e = .returned (spv lv fv) ∧ DSp 93 L F ∧ SpO w' w.heap.size lv fv L F ∧ (∃ p' : Int, p ≤ p' ∧ p' ≤ p + 6000 ∧ Rd B w' g v n p') ∧ Bx g w w' := by
  have HG : Hid (g < w.heap.size) := h.blk.lt
  have HBG : Hid (B ≤ w.heap.size) := h.size
  have h0 : SpI B g v n w ((w.alloc (.cells #[.slice none 0 0, .slice none 0 0] 26)).alloc (.cells #[.slice none 0 0, .slice none 0 0] 26)) w.heap.size (w.heap.size + 1) (w.heap.size + 2) p (.slice none 0 0) (.slice none 0 0) [] [] :=
    ⟨Bk.new _ _ (by simp), (Bk.new _ _ rfl).alloc _, SpO.nil _ _, (h.keepb (bAlloc (bAlloc (Below.refl _ _) _) _)), ((Bx.refl _ _).alloc _).alloc _, ⟨by omega, by have := HG.out; omega⟩, ⟨by omega, by have := HG.out; omega, by omega, by have := h.here; have := HG.out; omega⟩, by omega, by have := HG.out; omega, by simp⟩
  go_enter Tryz.func30, Tryz.ntmps30
  go_wp2_with fail
  refine (pick_any h0.rd hp (by omega) _ (by omega) (by omega)).mono ?_
  rintro e w1 ⟨k0, rfl, hk0, hk1, hr1, hx1⟩
  have h1 := h0.keepx hx1 hr1
  obtain ⟨m0, rfl⟩ := Int.eq_ofNat_of_zero_le hk0
  clear h0 hx1 hr1 h
  go_wp2_with fail
  go_loopw [4] (fun i wr => ∃ (m j : Nat) (p' : Int) (lv fv : Value) (L : List (List Rw)) (F : List (Int × Int)), i = .int .i64 m ∧ m + j ≤ 7 ∧ SpI B g v n w wr w.heap.size (w.heap.size + 1) (w.heap.size + 2) p' lv fv L F ∧ spokB L F = true ∧ absum L.flatten ≤ 12 * j ∧ p ≤ p' ∧ p' ≤ p + 1 + 700 * j) (fun i _ => (intOf i).toNat)
  case atStart => exact ⟨m0, 0, p + 1, _, _, [], [], rfl, by omega, h1, spok_none, by simp [absum], by omega, by omega⟩
  case round =>
    clear h1
    obtain ⟨m, j, p', lv, fv, L, F, rfl, hmj, hI, hok, habs, hpp, hpq⟩ := hrel
    have HA : Hid (absum L.flatten ≤ 12 * j) := habs
    have HK : Hid (spokB L F = true) := hok
    have hF8 := spok_f hok
    clear habs hok
    by_cases hm : 0 < m
    · have hm' : (0 : Int) < (m : Int) := by omega
      go_wp2_with fail
      refine (pick_any hI.rd (by omega) (by omega) _ (by omega) (by omega)).mono ?_
      rintro e w2 ⟨k, rfl, hk0, hk1, hr2, hx2⟩
      have HI2 : Hid (SpI B g v n w w2 w.heap.size (w.heap.size + 1) (w.heap.size + 2) (p' + 1) lv fv L F) := hI.keepx hx2 hr2
      have HID : Hid (SpI B g v n w w2.drew w.heap.size (w.heap.size + 1) (w.heap.size + 2) (p' + 1) lv fv L F) := HI2.out.keep (Below.refl _ _).drew
      have HIZ : Hid (SpI B g v n w ((w2.alloc (.cells #[.slice none 0 0, .slice none 0 0] 26)).drew) w.heap.size (w.heap.size + 1) (w.heap.size + 2) (p' + 1) lv fv L F) := HI2.out.keep (bAlloc (Below.refl _ _) _).drew
      have k0 : Bx g w2 w2.drew := (Bx.refl _ _).drew
      have kz : Bx g w2 ((w2.alloc (.cells #[.slice none 0 0, .slice none 0 0] 26)).drew) := ((Bx.refl _ _).alloc _).drew
      have ZA : Bk ((w2.alloc (.cells #[.slice none 0 0, .slice none 0 0] 26)).drew) w2.heap.size #[.slice none 0 0, .slice none 0 0] 26 := (Bk.new _ _ rfl).drew
      have hzg : w2.heap.size ≠ g := by have := HI2.out.rd.blk.lt; omega
      have NQZ := HI2.out.nq (Nat.le_refl w2.heap.size)
      have HX : Hid (∀ W, Bx g w2 W → W.cell? ⟨w.heap.size + 1, 0, none⟩ = some lv ∧ W.cell? ⟨w.heap.size + 1, 1, none⟩ = some fv) := fun W hW => ⟨(HI2.out.box.keepx hW (by have := HG.out; omega)).two.1, (HI2.out.box.keepx hW (by have := HG.out; omega)).two.2.1⟩
      have HSW : Hid (∀ W, Bx g w2 W → Spn W lv fv L F) := fun W hW => (HI2.out.own.keepx hW (by have := HG.out; omega)).spn (by have := (spok_iff.1 HK.out).1; omega) (by omega)
      clear hI hr2 hx2
      have NP0 : 0 ≤ p' + 1 := by omega
      have NP1 : p' + 1 ≤ 600000 := by omega
      have NP8 : p' + 1 ≤ 800000 := by omega
      have NPX : p' + 1 ≤ 1000000 := by omega
      have N14 : (1 : Int) ≤ 4 := by omega
      have N41 : (4 : Int) ≤ 1000 := by omega
      have N04 : (0 : Int) ≤ 4 := by omega
      have N410 : (4 : Int) ≤ 10 := by omega
      have hFC : F.length ≤ 100 := by omega
      by_cases hk0 : k = 0
      · subst hk0
        go_wp2_with fail
        go_cut [5, 6] (fun x o wc => SpX B g v n w w.heap.size (w.heap.size + 1) (w.heap.size + 2) (p' + 1) lv fv L F x o wc)
        case first =>
          go_region_held3 (fun W => W.cell? ⟨w.heap.size + 1, 0, none⟩ = some lv ∧ W.cell? ⟨w.heap.size + 1, 1, none⟩ = some fv)
            (exact HX.out _ (by repeat' (first | (with_reducible exact Bx.refl _ _) | (with_reducible assumption) | (with_reducible refine Bx.trans ?_ (by with_reducible assumption)) | (with_reducible refine Bx.trans ?_ (Bx.of_below (by with_reducible assumption))) | (with_reducible refine Bx.alloc ?_ _) | (with_reducible refine Bx.drew ?_) | (with_reducible refine Bx.drewN ?_ _) | (with_reducible refine Bx.setN ?_ ?_ _) | (simp; done) | (simp; omega) | omega)))
            (first
              | (go_at_call 76; (with_reducible show Calls _ _ _ w2.drew _); refine (l71Front_any HID.out.rd NP0 NP8).mono ?_; rintro e w3 ⟨o, f, rfl, hf64, own3, ⟨p3, hp3, hp3', hr3⟩, hx3⟩; have k3 : Bx g w2 w3 := k0.trans hx3; have z3 := Bx.size k3; have k3a : Bx g w2 (w3.alloc (.cells #[.slice none 0 0, .slice none 0 0] 26)) := Bx.alloc k3 _; have HI3 := (show Hid _ from HID.out.keepx hx3 hr3); have HI3a := (show Hid (SpI B g v n w (w3.alloc (.cells #[.slice none 0 0, .slice none 0 0] 26)) w.heap.size (w.heap.size + 1) (w.heap.size + 2) p3 lv fv L F) from HI3.out.keep (bAlloc (Below.refl _ _) _)); have HO3 : Hid (Ts w3 o f) := Own.ts own3 (by omega); have HO3a : Hid (Ts (w3.alloc (.cells #[.slice none 0 0, .slice none 0 0] 26)) o f) := HO3.out.keep (bAlloc (Below.refl _ _) _); clear own3)
              | (go_at_call 76; (with_reducible show Calls _ _ _ ((w2.alloc (.cells #[.slice none 0 0, .slice none 0 0] 26)).drew) _); refine (l71Front_any HIZ.out.rd NP0 NP8).mono ?_; rintro e w3 ⟨o, f, rfl, hf64, own3, ⟨p3, hp3, hp3', hr3⟩, hx3⟩; have k3 : Bx g w2 w3 := kz.trans hx3; have z3 := Bx.size k3; have bz := Bk.keepx ZA hx3 hzg; have nq := NQZ; have HI3 := (show Hid _ from HIZ.out.keepx hx3 hr3); have HO3 : Hid (Ts w3 o f) := Own.ts own3 (by omega); have HO3a : Hid (Ts (w3.alloc (.cells #[.slice none 0 0, .slice none 0 0] 26)) o f) := HO3.out.keep (bAlloc (Below.refl _ _) _); clear own3)
              | (go_at_call 75; (with_reducible show Calls _ _ _ w3 _); refine (specSpineSince_any lv fv o L F f _ (HSW.out _ k3) HO3.out).mono ?_; rintro e wj ⟨lj, fj, rfl, spj, hbj⟩; obtain ⟨L4, hL4⟩ : ∃ x, sinceL L F f = x := ⟨_, rfl⟩; obtain ⟨F4, hF4⟩ : ∃ x, sinceF L F f = x := ⟨_, rfl⟩; rw [hL4, hF4] at spj; have HOK : Hid (sinceB L F f = true → spokB L4 F4 = true ∧ absum L4.flatten ≤ absum L.flatten + 12) := (by intro hq; have hh := since_ok2 hq; rw [hL4, hF4] at hh; exact hh); clear hL4 hF4; obtain ⟨sa, sc, sb, sd, e1, e2⟩ := SpO.open spj; subst e1 e2; have kj : Bx g w2 wj := Bx.trans k3 (Bx.of_below hbj); have bj := Bk.keep bz hbj; obtain ⟨u0, u1, u2, u3⟩ := bj.two; obtain ⟨u4, u5, u6, u7⟩ := bk_set0 bj (.slice sa L4.length sc); have HFIN := (show Hid _ from SpX.put (p := p' + 1) (HI3.out.keep hbj) (spj.less HI3.out.hM.2.2) bj nq (by omega) (by omega) HOK.out))
              | (go_at_call 75; (with_reducible show Calls _ _ _ w3 _); refine (specSpineSince_any lv fv o L F f _ (HSW.out _ k3) HO3.out).mono ?_; rintro e wj ⟨lj, fj, rfl, spj, hbj⟩; obtain ⟨L4, hL4⟩ : ∃ x, sinceL L F f = x := ⟨_, rfl⟩; obtain ⟨F4, hF4⟩ : ∃ x, sinceF L F f = x := ⟨_, rfl⟩; rw [hL4, hF4] at spj; have HOK : Hid (sinceB L F f = true → spokB L4 F4 = true ∧ absum L4.flatten ≤ absum L.flatten + 12) := (by intro hq; have hh := since_ok2 hq; rw [hL4, hF4] at hh; exact hh); clear hL4 hF4; obtain ⟨sa, sc, sb, sd, e1, e2⟩ := SpO.open spj; subst e1 e2; have kj : Bx g w2 wj := Bx.trans k3 (Bx.of_below hbj); have HFIN := (show Hid _ from SpX.last (p := p' + 1) (HI3.out.keep hbj) (spj.less HI3.out.hM.2.2) (by omega) (by omega) HOK.out))
              | (go_at_call 75; (with_reducible show Calls _ _ _ (w3.alloc (.cells #[.slice none 0 0, .slice none 0 0] 26)) _); refine (specSpineSince_any lv fv o L F f _ (HSW.out _ k3a) HO3a.out).mono ?_; rintro e wj ⟨lj, fj, rfl, spj, hbj⟩; obtain ⟨L4, hL4⟩ : ∃ x, sinceL L F f = x := ⟨_, rfl⟩; obtain ⟨F4, hF4⟩ : ∃ x, sinceF L F f = x := ⟨_, rfl⟩; rw [hL4, hF4] at spj; have HOK : Hid (sinceB L F f = true → spokB L4 F4 = true ∧ absum L4.flatten ≤ absum L.flatten + 12) := (by intro hq; have hh := since_ok2 hq; rw [hL4, hF4] at hh; exact hh); clear hL4 hF4; obtain ⟨sa, sc, sb, sd, e1, e2⟩ := SpO.open spj; subst e1 e2; have kj : Bx g w2 wj := Bx.trans k3a (Bx.of_below hbj); have bj := Bk.keep (Bk.new (w := w3) #[.slice none 0 0, .slice none 0 0] 26 rfl) hbj; obtain ⟨u0, u1, u2, u3⟩ := bj.two; obtain ⟨u4, u5, u6, u7⟩ := bk_set0 bj (.slice sa L4.length sc); have HFIN := (show Hid _ from SpX.put (p := p' + 1) (HI3a.out.keep hbj) (spj.less HI3a.out.hM.2.2) bj (HI2.out.nq (Bx.size k3)) (by omega) (by omega) HOK.out)))
          all_goals
            go_wp2_with fail
            go_meet
            case rel => exact HFIN.out
        case rest =>
          obtain ⟨q, sa, sb, sc, sd, L4, F4, ok, p3, rfl, rfl, bq, hI3, hs3, hp3, hp3', hok⟩ := hcut
          have HOK := (show Hid _ from hok)
          have HI3 := (show Hid _ from hI3)
          obtain ⟨x0, x1, e0, e1⟩ := hI3.box.two
          obtain ⟨b0, b1, _, _⟩ := bq.two
          clear hok
          cases ok
          · clear hI3 hs3
            go_wp2_with fail
            go_roundw
            case rel => exact ⟨m - 1, j + 1, _, lv, fv, L, F, by go_num, by omega, HI3.out, HK.out, by have := HA.out; omega, by omega, by omega⟩
            case measure => simp [intOf]; omega
          · have HS6 := (show Hid _ from hI3.set hs3)
            obtain ⟨x2, x3, e2, e3⟩ := bk_set0 hI3.box (.slice sa L4.length sc)
            clear hI3 hs3
            go_wp2_with fail
            go_roundw
            case rel => exact ⟨m - 1, j + 1, _, _, _, L4, F4, by go_num, by omega, HS6.out, (HOK.out rfl).1, by have := HA.out; have := (HOK.out rfl).2; omega, by omega, by omega⟩
            case measure => simp [intOf]; omega
      have hk0b : (k == 0) = false := by simpa using hk0
      by_cases hk1 : k = 1
      · subst hk1
        go_wp2_with fail
        go_cut [7, 8] (fun x o wc => SpX B g v n w w.heap.size (w.heap.size + 1) (w.heap.size + 2) (p' + 1) lv fv L F x o wc)
        case first =>
          go_region_held3 (fun W => W.cell? ⟨w.heap.size + 1, 0, none⟩ = some lv ∧ W.cell? ⟨w.heap.size + 1, 1, none⟩ = some fv)
            (exact HX.out _ (by repeat' (first | (with_reducible exact Bx.refl _ _) | (with_reducible assumption) | (with_reducible refine Bx.trans ?_ (by with_reducible assumption)) | (with_reducible refine Bx.trans ?_ (Bx.of_below (by with_reducible assumption))) | (with_reducible refine Bx.alloc ?_ _) | (with_reducible refine Bx.drew ?_) | (with_reducible refine Bx.drewN ?_ _) | (with_reducible refine Bx.setN ?_ ?_ _) | (simp; done) | (simp; omega) | omega)))
            (first
              | (go_at_call 49; (with_reducible show Calls _ _ _ w2.drew _); refine (pick_any HID.out.rd NP0 NPX _ N14 N41).mono ?_; rintro e w3 ⟨kk, rfl, hq0, hq1, hr3, hx3⟩; have k3 : Bx g w2 w3 := k0.trans hx3; have z3 := Bx.size k3; have k3a : Bx g w2 (w3.alloc (.cells #[.slice none 0 0, .slice none 0 0] 26)) := Bx.alloc k3 _; have HI3 := (show Hid _ from HID.out.keepx hx3 hr3); have HI3a := (show Hid (SpI B g v n w (w3.alloc (.cells #[.slice none 0 0, .slice none 0 0] 26)) w.heap.size (w.heap.size + 1) (w.heap.size + 2) (p' + 1 + 1) lv fv L F) from HI3.out.keep (bAlloc (Below.refl _ _) _)); skip)
              | (go_at_call 49; (with_reducible show Calls _ _ _ ((w2.alloc (.cells #[.slice none 0 0, .slice none 0 0] 26)).drew) _); refine (pick_any HIZ.out.rd NP0 NPX _ N14 N41).mono ?_; rintro e w3 ⟨kk, rfl, hq0, hq1, hr3, hx3⟩; have k3 : Bx g w2 w3 := kz.trans hx3; have z3 := Bx.size k3; have bz := Bk.keepx ZA hx3 hzg; have nq := NQZ; have HI3 := (show Hid _ from HIZ.out.keepx hx3 hr3); skip)
              | (go_at_call 60; (with_reducible show Calls _ _ _ w3 _); refine (specSpineJoin_any lv fv L F kk _ (HSW.out _ k3)).mono ?_; rintro e wj ⟨lj, fj, rfl, spj, hbj⟩; obtain ⟨L4, hL4⟩ : ∃ x, joinL L F kk = x := ⟨_, rfl⟩; obtain ⟨F4, hF4⟩ : ∃ x, joinF L F kk = x := ⟨_, rfl⟩; rw [hL4, hF4] at spj; have HOK : Hid (joinB L F kk = true → spokB L4 F4 = true ∧ absum L4.flatten ≤ absum L.flatten + 12) := (by intro hq; have hh := join_ok2 hq; rw [hL4, hF4] at hh; exact hh); clear hL4 hF4; obtain ⟨sa, sc, sb, sd, e1, e2⟩ := SpO.open spj; subst e1 e2; have kj : Bx g w2 wj := Bx.trans k3 (Bx.of_below hbj); have bj := Bk.keep bz hbj; obtain ⟨u0, u1, u2, u3⟩ := bj.two; obtain ⟨u4, u5, u6, u7⟩ := bk_set0 bj (.slice sa L4.length sc); have HFIN := (show Hid _ from SpX.put (p := p' + 1) (HI3.out.keep hbj) (spj.less HI3.out.hM.2.2) bj nq (by omega) (by omega) HOK.out))
              | (go_at_call 60; (with_reducible show Calls _ _ _ w3 _); refine (specSpineJoin_any lv fv L F kk _ (HSW.out _ k3)).mono ?_; rintro e wj ⟨lj, fj, rfl, spj, hbj⟩; obtain ⟨L4, hL4⟩ : ∃ x, joinL L F kk = x := ⟨_, rfl⟩; obtain ⟨F4, hF4⟩ : ∃ x, joinF L F kk = x := ⟨_, rfl⟩; rw [hL4, hF4] at spj; have HOK : Hid (joinB L F kk = true → spokB L4 F4 = true ∧ absum L4.flatten ≤ absum L.flatten + 12) := (by intro hq; have hh := join_ok2 hq; rw [hL4, hF4] at hh; exact hh); clear hL4 hF4; obtain ⟨sa, sc, sb, sd, e1, e2⟩ := SpO.open spj; subst e1 e2; have kj : Bx g w2 wj := Bx.trans k3 (Bx.of_below hbj); have HFIN := (show Hid _ from SpX.last (p := p' + 1) (HI3.out.keep hbj) (spj.less HI3.out.hM.2.2) (by omega) (by omega) HOK.out))
              | (go_at_call 60; (with_reducible show Calls _ _ _ (w3.alloc (.cells #[.slice none 0 0, .slice none 0 0] 26)) _); refine (specSpineJoin_any lv fv L F kk _ (HSW.out _ k3a)).mono ?_; rintro e wj ⟨lj, fj, rfl, spj, hbj⟩; obtain ⟨L4, hL4⟩ : ∃ x, joinL L F kk = x := ⟨_, rfl⟩; obtain ⟨F4, hF4⟩ : ∃ x, joinF L F kk = x := ⟨_, rfl⟩; rw [hL4, hF4] at spj; have HOK : Hid (joinB L F kk = true → spokB L4 F4 = true ∧ absum L4.flatten ≤ absum L.flatten + 12) := (by intro hq; have hh := join_ok2 hq; rw [hL4, hF4] at hh; exact hh); clear hL4 hF4; obtain ⟨sa, sc, sb, sd, e1, e2⟩ := SpO.open spj; subst e1 e2; have kj : Bx g w2 wj := Bx.trans k3a (Bx.of_below hbj); have bj := Bk.keep (Bk.new (w := w3) #[.slice none 0 0, .slice none 0 0] 26 rfl) hbj; obtain ⟨u0, u1, u2, u3⟩ := bj.two; obtain ⟨u4, u5, u6, u7⟩ := bk_set0 bj (.slice sa L4.length sc); have HFIN := (show Hid _ from SpX.put (p := p' + 1) (HI3a.out.keep hbj) (spj.less HI3a.out.hM.2.2) bj (HI2.out.nq (Bx.size k3)) (by omega) (by omega) HOK.out)))
          all_goals
            go_wp2_with fail
            go_meet
            case rel => exact HFIN.out
        case rest =>
          obtain ⟨q, sa, sb, sc, sd, L4, F4, ok, p3, rfl, rfl, bq, hI3, hs3, hp3, hp3', hok⟩ := hcut
          have HOK := (show Hid _ from hok)
          have HI3 := (show Hid _ from hI3)
          obtain ⟨x0, x1, e0, e1⟩ := hI3.box.two
          obtain ⟨b0, b1, _, _⟩ := bq.two
          clear hok
          cases ok
          · clear hI3 hs3
            go_wp2_with fail
            go_roundw
            case rel => exact ⟨m - 1, j + 1, _, lv, fv, L, F, by go_num, by omega, HI3.out, HK.out, by have := HA.out; omega, by omega, by omega⟩
            case measure => simp [intOf]; omega
          · have HS6 := (show Hid _ from hI3.set hs3)
            obtain ⟨x2, x3, e2, e3⟩ := bk_set0 hI3.box (.slice sa L4.length sc)
            clear hI3 hs3
            go_wp2_with fail
            go_roundw
            case rel => exact ⟨m - 1, j + 1, _, _, _, L4, F4, by go_num, by omega, HS6.out, (HOK.out rfl).1, by have := HA.out; have := (HOK.out rfl).2; omega, by omega, by omega⟩
            case measure => simp [intOf]; omega
      have hk1b : (k == 1) = false := by simpa using hk1
      go_wp2_with fail
      go_cut [9, 10] (fun x o wc => SpX B g v n w w.heap.size (w.heap.size + 1) (w.heap.size + 2) (p' + 1) lv fv L F x o wc)
      case first =>
        go_region_held3 (fun W => W.cell? ⟨w.heap.size + 1, 0, none⟩ = some lv ∧ W.cell? ⟨w.heap.size + 1, 1, none⟩ = some fv)
          (exact HX.out _ (by repeat' (first | (with_reducible exact Bx.refl _ _) | (with_reducible assumption) | (with_reducible refine Bx.trans ?_ (by with_reducible assumption)) | (with_reducible refine Bx.trans ?_ (Bx.of_below (by with_reducible assumption))) | (with_reducible refine Bx.alloc ?_ _) | (with_reducible refine Bx.drew ?_) | (with_reducible refine Bx.drewN ?_ _) | (with_reducible refine Bx.setN ?_ ?_ _) | (simp; done) | (simp; omega) | omega)))
          (first
            | (go_at_call 51; (with_reducible show Calls _ _ _ w2.drew _); refine (l71Batch_any HID.out.rd NP0 NP1 _ N04 N410).mono ?_; rintro e w3 ⟨ob, bb, rfl, hb4, hsm, own3, ⟨p3, hp3, hp3', hr3⟩, hx3⟩; have k3 : Bx g w2 w3 := k0.trans hx3; have z3 := Bx.size k3; have k3a : Bx g w2 (w3.alloc (.cells #[.slice none 0 0, .slice none 0 0] 26)) := Bx.alloc k3 _; have HI3 := (show Hid _ from HID.out.keepx hx3 hr3); have HI3a := (show Hid (SpI B g v n w (w3.alloc (.cells #[.slice none 0 0, .slice none 0 0] 26)) w.heap.size (w.heap.size + 1) (w.heap.size + 2) p3 lv fv L F) from HI3.out.keep (bAlloc (Below.refl _ _) _)); have HO3 : Hid (∀ W, Bx g w3 W → Rs W ob (batchL bb)) := (fun W hW => OwnR.rs (own_keepx own3 hW (by have := HI2.out.rd.blk.lt; simp; omega)) (by have := batch_len bb; omega)); have HF3 : Hid (∀ W, Bx g w3 W → Ts W fv F) := (fun W hW => (HSW.out W (k3.trans hW)).2); have HSM : Hid (absum bb ≤ 12 ∧ (batchL bb).length ≤ 10 ∧ ∀ r ∈ batchL bb, okR r) := ⟨sm_abs hb4 hsm, by have := batch_few bb; omega, fun r hr => rok_at (bok_rok (batch_bok bb)) hr⟩; clear own3 hsm; have NP3 : 0 ≤ p3 := (by omega); have NP4 : p3 ≤ 700000 := (by omega))
            | (go_at_call 51; (with_reducible show Calls _ _ _ ((w2.alloc (.cells #[.slice none 0 0, .slice none 0 0] 26)).drew) _); refine (l71Batch_any HIZ.out.rd NP0 NP1 _ N04 N410).mono ?_; rintro e w3 ⟨ob, bb, rfl, hb4, hsm, own3, ⟨p3, hp3, hp3', hr3⟩, hx3⟩; have k3 : Bx g w2 w3 := kz.trans hx3; have z3 := Bx.size k3; have bz := Bk.keepx ZA hx3 hzg; have nq := NQZ; have HI3 := (show Hid _ from HIZ.out.keepx hx3 hr3); have HO3 : Hid (∀ W, Bx g w3 W → Rs W ob (batchL bb)) := (fun W hW => OwnR.rs (own_keepx own3 hW (by have := HI2.out.rd.blk.lt; simp; omega)) (by have := batch_len bb; omega)); have HF3 : Hid (∀ W, Bx g w3 W → Ts W fv F) := (fun W hW => (HSW.out W (k3.trans hW)).2); have HSM : Hid (absum bb ≤ 12 ∧ (batchL bb).length ≤ 10 ∧ ∀ r ∈ batchL bb, okR r) := ⟨sm_abs hb4 hsm, by have := batch_few bb; omega, fun r hr => rok_at (bok_rok (batch_bok bb)) hr⟩; clear own3 hsm; have NP3 : 0 ≤ p3 := (by omega); have NP4 : p3 ≤ 700000 := (by omega))
            | (go_at_call 50; (with_reducible show Calls _ _ _ w3 _); refine (l71Behind_any HI3.out.rd NP3 NP4 ob fv (batchL bb) F HO3.out HF3.out HSM.out.2.2 HSM.out.2.1 hFC).mono ?_; rintro e w4 ⟨o2, mm, rfl, hml, hmabs, _, own4, ⟨p4, hp4, hp4', hr4⟩, hx4⟩; have k4 : Bx g w2 w4 := k3.trans hx4; have z4 := Bx.size k4; have k4a : Bx g w2 (w4.alloc (.cells #[.slice none 0 0, .slice none 0 0] 26)) := Bx.alloc k4 _; have HI4 := (show Hid _ from HI3.out.keepx hx4 hr4); have HI4a := (show Hid (SpI B g v n w (w4.alloc (.cells #[.slice none 0 0, .slice none 0 0] 26)) w.heap.size (w.heap.size + 1) (w.heap.size + 2) p4 lv fv L F) from HI4.out.keep (bAlloc (Below.refl _ _) _)); have HO4 : Hid (Rs w4 o2 (batchL mm)) := OwnR.rs own4 (by have := batch_len mm; omega); have HO4a : Hid (Rs (w4.alloc (.cells #[.slice none 0 0, .slice none 0 0] 26)) o2 (batchL mm)) := HO4.out.keep (bAlloc (Below.refl _ _) _); have HM4 : Hid (absum (batchL mm) ≤ 12) := (by have h1 := batch_abs mm; have h2 := batch_abs bb; have h3 := HSM.out.1; show _ ≤ _; omega); clear own4 hmabs hml; have bz := Bk.keepx bz hx4 nq.2.1)
            | (go_at_call 50; (with_reducible show Calls _ _ _ w3 _); refine (l71Behind_any HI3.out.rd NP3 NP4 ob fv (batchL bb) F HO3.out HF3.out HSM.out.2.2 HSM.out.2.1 hFC).mono ?_; rintro e w4 ⟨o2, mm, rfl, hml, hmabs, _, own4, ⟨p4, hp4, hp4', hr4⟩, hx4⟩; have k4 : Bx g w2 w4 := k3.trans hx4; have z4 := Bx.size k4; have k4a : Bx g w2 (w4.alloc (.cells #[.slice none 0 0, .slice none 0 0] 26)) := Bx.alloc k4 _; have HI4 := (show Hid _ from HI3.out.keepx hx4 hr4); have HI4a := (show Hid (SpI B g v n w (w4.alloc (.cells #[.slice none 0 0, .slice none 0 0] 26)) w.heap.size (w.heap.size + 1) (w.heap.size + 2) p4 lv fv L F) from HI4.out.keep (bAlloc (Below.refl _ _) _)); have HO4 : Hid (Rs w4 o2 (batchL mm)) := OwnR.rs own4 (by have := batch_len mm; omega); have HO4a : Hid (Rs (w4.alloc (.cells #[.slice none 0 0, .slice none 0 0] 26)) o2 (batchL mm)) := HO4.out.keep (bAlloc (Below.refl _ _) _); have HM4 : Hid (absum (batchL mm) ≤ 12) := (by have h1 := batch_abs mm; have h2 := batch_abs bb; have h3 := HSM.out.1; show _ ≤ _; omega); clear own4 hmabs hml)
            | (go_at_call 50; (with_reducible show Calls _ _ _ (w3.alloc (.cells #[.slice none 0 0, .slice none 0 0] 26)) _); refine (l71Behind_any HI3a.out.rd NP3 NP4 ob fv (batchL bb) F (fun W hW => HO3.out W (((Bx.refl _ _).alloc _).trans hW)) (fun W hW => HF3.out W (((Bx.refl _ _).alloc _).trans hW)) HSM.out.2.2 HSM.out.2.1 hFC).mono ?_; rintro e w4 ⟨o2, mm, rfl, hml, hmabs, _, own4, ⟨p4, hp4, hp4', hr4⟩, hx4⟩; have k4 : Bx g w2 w4 := k3a.trans hx4; have z4 := Bx.size k4; have k4a : Bx g w2 (w4.alloc (.cells #[.slice none 0 0, .slice none 0 0] 26)) := Bx.alloc k4 _; have HI4 := (show Hid _ from HI3a.out.keepx hx4 hr4); have HI4a := (show Hid (SpI B g v n w (w4.alloc (.cells #[.slice none 0 0, .slice none 0 0] 26)) w.heap.size (w.heap.size + 1) (w.heap.size + 2) p4 lv fv L F) from HI4.out.keep (bAlloc (Below.refl _ _) _)); have HO4 : Hid (Rs w4 o2 (batchL mm)) := OwnR.rs own4 (by have := batch_len mm; omega); have HO4a : Hid (Rs (w4.alloc (.cells #[.slice none 0 0, .slice none 0 0] 26)) o2 (batchL mm)) := HO4.out.keep (bAlloc (Below.refl _ _) _); have HM4 : Hid (absum (batchL mm) ≤ 12) := (by have h1 := batch_abs mm; have h2 := batch_abs bb; have h3 := HSM.out.1; show _ ≤ _; omega); clear own4 hmabs hml; have bz := Bk.keepx (Bk.new (w := w3) #[.slice none 0 0, .slice none 0 0] 26 rfl) hx4 (HI2.out.nq (Bx.size k3)).2.1; have nq := HI2.out.nq (Bx.size k3))
            | (go_at_call 19; (with_reducible show Calls _ _ _ w4 _); refine (specSpineIn_any lv fv o2 L F (batchL mm) _ (HSW.out _ k4) HO4.out).mono ?_; rintro e wj ⟨lj, fj, rfl, spj, hbj⟩; obtain ⟨L4, hL4⟩ : ∃ x, inLL L F (batchL mm) = x := ⟨_, rfl⟩; obtain ⟨F4, hF4⟩ : ∃ x, inF L F (batchL mm) = x := ⟨_, rfl⟩; rw [hL4, hF4] at spj; have HOK : Hid (inB1 L F (batchL mm) = true → spokB L4 F4 = true ∧ absum L4.flatten ≤ absum L.flatten + 12) := (by intro hq; have hh := in_ok2 hq HM4.out; rw [hL4, hF4] at hh; exact hh); clear hL4 hF4; obtain ⟨sa, sc, sb, sd, e1, e2⟩ := SpO.open spj; subst e1 e2; have kj : Bx g w2 wj := Bx.trans k4 (Bx.of_below hbj); have bj := Bk.keep bz hbj; obtain ⟨u0, u1, u2, u3⟩ := bj.two; obtain ⟨u4, u5, u6, u7⟩ := bk_set0 bj (.slice sa L4.length sc); have HFIN := (show Hid _ from SpX.put (p := p' + 1) (HI4.out.keep hbj) (spj.less HI4.out.hM.2.2) bj nq (by omega) (by omega) HOK.out))
            | (go_at_call 19; (with_reducible show Calls _ _ _ w4 _); refine (specSpineIn_any lv fv o2 L F (batchL mm) _ (HSW.out _ k4) HO4.out).mono ?_; rintro e wj ⟨lj, fj, rfl, spj, hbj⟩; obtain ⟨L4, hL4⟩ : ∃ x, inLL L F (batchL mm) = x := ⟨_, rfl⟩; obtain ⟨F4, hF4⟩ : ∃ x, inF L F (batchL mm) = x := ⟨_, rfl⟩; rw [hL4, hF4] at spj; have HOK : Hid (inB1 L F (batchL mm) = true → spokB L4 F4 = true ∧ absum L4.flatten ≤ absum L.flatten + 12) := (by intro hq; have hh := in_ok2 hq HM4.out; rw [hL4, hF4] at hh; exact hh); clear hL4 hF4; obtain ⟨sa, sc, sb, sd, e1, e2⟩ := SpO.open spj; subst e1 e2; have kj : Bx g w2 wj := Bx.trans k4 (Bx.of_below hbj); have HFIN := (show Hid _ from SpX.last (p := p' + 1) (HI4.out.keep hbj) (spj.less HI4.out.hM.2.2) (by omega) (by omega) HOK.out))
            | (go_at_call 19; (with_reducible show Calls _ _ _ (w4.alloc (.cells #[.slice none 0 0, .slice none 0 0] 26)) _); refine (specSpineIn_any lv fv o2 L F (batchL mm) _ (HSW.out _ k4a) HO4a.out).mono ?_; rintro e wj ⟨lj, fj, rfl, spj, hbj⟩; obtain ⟨L4, hL4⟩ : ∃ x, inLL L F (batchL mm) = x := ⟨_, rfl⟩; obtain ⟨F4, hF4⟩ : ∃ x, inF L F (batchL mm) = x := ⟨_, rfl⟩; rw [hL4, hF4] at spj; have HOK : Hid (inB1 L F (batchL mm) = true → spokB L4 F4 = true ∧ absum L4.flatten ≤ absum L.flatten + 12) := (by intro hq; have hh := in_ok2 hq HM4.out; rw [hL4, hF4] at hh; exact hh); clear hL4 hF4; obtain ⟨sa, sc, sb, sd, e1, e2⟩ := SpO.open spj; subst e1 e2; have kj : Bx g w2 wj := Bx.trans k4a (Bx.of_below hbj); have bj := Bk.keep (Bk.new (w := w4) #[.slice none 0 0, .slice none 0 0] 26 rfl) hbj; obtain ⟨u0, u1, u2, u3⟩ := bj.two; obtain ⟨u4, u5, u6, u7⟩ := bk_set0 bj (.slice sa L4.length sc); have HFIN := (show Hid _ from SpX.put (p := p' + 1) (HI4a.out.keep hbj) (spj.less HI4a.out.hM.2.2) bj (HI2.out.nq (Bx.size k4)) (by omega) (by omega) HOK.out)))
        all_goals
          go_wp2_with fail
          go_meet
          case rel => exact HFIN.out
      case rest =>
        obtain ⟨q, sa, sb, sc, sd, L4, F4, ok, p3, rfl, rfl, bq, hI3, hs3, hp3, hp3', hok⟩ := hcut
        have HOK := (show Hid _ from hok)
        have HI3 := (show Hid _ from hI3)
        obtain ⟨x0, x1, e0, e1⟩ := hI3.box.two
        obtain ⟨b0, b1, _, _⟩ := bq.two
        clear hok
        cases ok
        · clear hI3 hs3
          go_wp2_with fail
          go_roundw
          case rel => exact ⟨m - 1, j + 1, _, lv, fv, L, F, by go_num, by omega, HI3.out, HK.out, by have := HA.out; omega, by omega, by omega⟩
          case measure => simp [intOf]; omega
        · have HS6 := (show Hid _ from hI3.set hs3)
          obtain ⟨x2, x3, e2, e3⟩ := bk_set0 hI3.box (.slice sa L4.length sc)
          clear hI3 hs3
          go_wp2_with fail
          go_roundw
          case rel => exact ⟨m - 1, j + 1, _, _, _, L4, F4, by go_num, by omega, HS6.out, (HOK.out rfl).1, by have := HA.out; have := (HOK.out rfl).2; omega, by omega, by omega⟩
          case measure => simp [intOf]; omega
    · obtain rfl : m = 0 := by omega
      go_wp2_with fail
      refine (pick_any hI.rd (by omega) (by omega) _ (by omega) (by omega)).mono ?_
      rintro e w2 ⟨k, rfl, hk0, hk1, hr2, hx2⟩
      have HI : Hid (SpI B g v n w w2 w.heap.size (w.heap.size + 1) (w.heap.size + 2) (p' + 1) lv fv L F) := hI.keepx hx2 hr2
      have HID : Hid (SpI B g v n w w2.drew w.heap.size (w.heap.size + 1) (w.heap.size + 2) (p' + 1) lv fv L F) := HI.out.keep (Below.refl _ _).drew
      have hj7 : (12 : Int) * j ≤ 84 := by omega
      clear hI hr2 hx2
      by_cases hk0 : k = 0
      · subst hk0
        obtain ⟨y0, y1, _, _⟩ := HID.out.box.two
        obtain ⟨vs, hov, heo, hof⟩ := HID.out.own
        obtain ⟨av, cv, rfl⟩ := ownV_slice hov
        obtain ⟨af, cf, rfl⟩ := own_slice2 hof
        have hv6 : vs.length ≤ 6 := by rw [heo.len]; exact (spok_iff.1 HK.out).1
        have HOV := (show Hid _ from hov)
        have HEO := (show Hid _ from heo)
        have HOF := (show Hid _ from hof)
        clear hov heo hof
        go_wp2_with fail
        go_region_law (first
          | (go_simp; go_at_call 77; refine (l71Rows_any HID.out.rd (by omega) (by omega) _ (by omega) (by omega)).mono ?_; rintro e w3 ⟨o, l, rfl, hl3, hsm, own3, ⟨p3, hp3, hp3', hr3⟩, hx3⟩; obtain ⟨ao, co, rfl⟩ : ∃ a c, o = .slice a l.length c := (by obtain ⟨a, c, e, _⟩ := Rs.open (OwnR.rs own3 (by omega)); exact ⟨a, c, e⟩); have HI4 : Hid (SpI B g v n w (w3.alloc (.cells #[.slice ao l.length co] 33)) w.heap.size (w.heap.size + 1) (w.heap.size + 2) p3 (.slice av vs.length cv) (.slice af F.length cf) L F) := (HID.out.keepx hx3 hr3).keep (bAlloc (Below.refl _ _) _); obtain ⟨z0, z1, _, _⟩ := (HID.out.keepx hx3 hr3).box.two; obtain ⟨u0, u1, _, _⟩ := HI4.out.box.two; have hgB : g < w.heap.size + 2 := (by have := HG.out; omega); have HOV4 := own_keep (own_keepx HOV.out hx3 hgB) (bAlloc (Below.refl _ _) (.cells #[.slice ao l.length co] 33)); have HEO4 : Hid (EachO (w3.alloc (.cells #[.slice ao l.length co] 33)) (w.heap.size + 2) vs L) := (HEO.out.keepx hx3 hgB).keep (bAlloc (Below.refl _ _) _); have HOF4 : Hid (Own (w3.alloc (.cells #[.slice ao l.length co] 33)) (w.heap.size + 2) (.slice af F.length cf) F) := own_keep (own_keepx HOF.out hx3 hgB) (bAlloc (Below.refl _ _) _); have HOR4 : Hid (OwnR (w3.alloc (.cells #[.slice ao l.length co] 33)) w2.drew.heap.size (.slice ao l.length co) l) := own3.alloc _; have hz4 := HI4.out.hM.2.2; have HSM : Hid (absum l ≤ 9) := sm_abs hl3 hsm; clear own3 hr3 hx3 hsm)
          | (refine stepV _ rfl _ _ rfl (w.heap.size + 2) (.slice av vs.length cv) vs rfl HOV4 w3.heap.size ao l.length co rfl (Bk.new _ _ rfl) (Nat.le_trans hv6 (by omega)) hz4 ?_; intro g9 cap9 w9 own9 hg9 hl9; have HI9 := HI4.out.layer HOV4 HEO4.out HOF4.out (own_less HOR4.out HID.out.hM.2.2) (by omega) (fun q e hq => by have h1 := ownK_base HOR4.out q e; obtain ⟨c, hc, _⟩ := HEO.out.blk hq; have := hc.lt; omega) own9 hg9; obtain ⟨x0, x1, e0, e1⟩ := (HI4.out.box.grew hg9 (fun q e => rows_not_spine HOV4 HI4.out.box e)).two))
        all_goals
          have HD : Hid (DSp 93 (L ++ [l]) F) := ⟨by rw [List.length_append]; have := (spok_iff.1 HK.out).1; simp; omega, by omega, by rw [List.flatten_append, absum_append]; have := HA.out; have := HSM.out; simp only [List.flatten_cons, List.flatten_nil, List.append_nil]; omega⟩
          have HX9 := (show Hid _ from HI9)
          clear HI9
          obtain ⟨q0, q1, f0, f1⟩ := HX9.out.box.two
          obtain ⟨r0, r1, t0, t1⟩ := HX9.out.res.two
          obtain ⟨r2, r3, t2, t3⟩ := bk_set0 HX9.out.res (.slice (some ⟨g9, 0, none⟩) (vs.length + 1) cap9)
          obtain ⟨c0, c1, _, _⟩ := (HX9.out.res.set01 (.slice (some ⟨g9, 0, none⟩) (vs.length + 1) cap9) (.slice af F.length cf)).two
          go_wp2_with fail
          refine bodyPost_ret (by simp [results, Tryz.results30, go_sem, c0, c1]; try rfl) rfl ?_
          exact ⟨_, _, (L ++ [l]), F, rfl, HD.out, HX9.out.fin.1.less (by omega), ⟨p3, by omega, by omega, HX9.out.finr HBG.out⟩, HX9.out.fin.2⟩
      have hk0b : (k == 0) = false := by simpa using hk0
      by_cases hk1 : k = 1
      · subst hk1
        obtain ⟨y0, y1, _, _⟩ := HID.out.box.two
        obtain ⟨vs, hov, heo, hof⟩ := HID.out.own
        obtain ⟨av, cv, rfl⟩ := ownV_slice hov
        obtain ⟨af, cf, rfl⟩ := own_slice2 hof
        have hgB : g < w.heap.size + 2 := by have := HG.out; omega
        have HOF := (show Hid _ from hof)
        clear hov heo hof
        go_wp2_with fail
        go_region_law (first
          | (go_simp; go_at_call 78; refine (l71Odd_any HID.out.rd (by omega) (by omega)).mono ?_; rintro e w3 ⟨a, b, rfl, _, _, _, _, ⟨p3, hp3, hp3', hr3⟩, hx3⟩; have HI4 : Hid (SpI B g v n w (w3.alloc (.cells #[.int .i64 a, .int .i64 b] 71)) w.heap.size (w.heap.size + 1) (w.heap.size + 2) p3 (.slice av vs.length cv) (.slice af F.length cf) L F) := (HID.out.keepx hx3 hr3).keep (bAlloc (Below.refl _ _) _); obtain ⟨z0, z1, _, _⟩ := (HID.out.keepx hx3 hr3).box.two; obtain ⟨u0, u1, _, _⟩ := HI4.out.box.two; have HOF4 : Own (w3.alloc (.cells #[.int .i64 a, .int .i64 b] 71)) (w.heap.size + 2) (.slice af F.length cf) F := own_keep (own_keepx HOF.out hx3 hgB) (bAlloc (Below.refl _ _) _); have hz4 := HI4.out.hM.2.2; clear hr3 hx3)
          | (refine stepT _ rfl _ _ rfl (w.heap.size + 2) (.slice af F.length cf) F rfl HOF4 w3.heap.size a b rfl (Bk.new _ _ rfl) (Nat.le_trans hF8 (by omega)) hz4 ?_; intro g9 cap9 w9 own9 hg9 hl9; have HI9 := HI4.out.front HOF4 own9 hg9; obtain ⟨x0, x1, e0, e1⟩ := (HI4.out.box.grew hg9 (fun q e e2 => by subst e2; obtain ⟨c, hc⟩ := time_block HOF4 e; exact blk_apart HI4.out.box hc (by decide))).two))
        all_goals
          have HD : Hid (DSp 93 L (F ++ [(a, b)])) := ⟨by have := (spok_iff.1 HK.out).1; omega, by rw [List.length_append]; simp; omega, by have := HA.out; omega⟩
          have HX9 := (show Hid _ from HI9)
          clear HI9
          obtain ⟨q0, q1, f0, f1⟩ := HX9.out.box.two
          obtain ⟨r0, r1, t0, t1⟩ := HX9.out.res.two
          obtain ⟨r2, r3, t2, t3⟩ := bk_set0 HX9.out.res (.slice av vs.length cv)
          obtain ⟨c0, c1, _, _⟩ := (HX9.out.res.set01 (.slice av vs.length cv) (.slice (some ⟨g9, 0, none⟩) (F.length + 1) cap9)).two
          go_wp2_with fail
          refine bodyPost_ret (by simp [results, Tryz.results30, go_sem, c0, c1]; try rfl) rfl ?_
          exact ⟨_, _, L, (F ++ [(a, b)]), rfl, HD.out, HX9.out.fin.1.less (by omega), ⟨p3, by omega, by omega, HX9.out.finr HBG.out⟩, HX9.out.fin.2⟩
      have hk1b : (k == 1) = false := by simpa using hk1
      by_cases hk2 : k = 2
      · subst hk2
        obtain ⟨vs, hov, heo, hof⟩ := HI.out.own
        obtain ⟨af, cf, rfl⟩ := own_slice2 hof
        have HI0 : Hid (∃ (lv1 : Value) (L1 : List (List Rw)), SpI B g v n w w2 w.heap.size (w.heap.size + 1) (w.heap.size + 2) (p' + 1) lv1 (.slice af F.length cf) L1 F ∧ L1.length ≤ 7 ∧ absum L1.flatten ≤ 84) := ⟨lv, L, HI.out, by have := (spok_iff.1 HK.out).1; omega, by have := HA.out; omega⟩
        clear hov heo hof HID
        go_wp2_with fail
        go_loopw [84] (fun _ wr => ∃ (lv1 : Value) (L1 : List (List Rw)), SpI B g v n w wr w.heap.size (w.heap.size + 1) (w.heap.size + 2) (p' + 1) lv1 (.slice af F.length cf) L1 F ∧ L1.length ≤ 7 ∧ absum L1.flatten ≤ 84) (fun _ wr => 7 - lyN wr (w.heap.size + 1))
        case atStart => exact HI0.out
        case round =>
          clear HI0 HI
          obtain ⟨lv1, L1, hI1, hl7, ha1⟩ := hrel
          obtain ⟨vs, hov, heo, hof⟩ := hI1.own
          obtain ⟨av, cv, rfl⟩ := ownV_slice hov
          have HVL : Hid (vs.length = L1.length) := heo.len
          have HI1 := (show Hid _ from hI1)
          have HA1 : Hid (absum L1.flatten ≤ 84) := ha1
          have hv7 : vs.length ≤ 7 := by rw [heo.len]; exact hl7
          have HM1 : Hid (lyN wr (w.heap.size + 1) = vs.length) := lyN_eq hI1.box
          obtain ⟨y0, y1, e0, e1⟩ := hI1.box.two
          by_cases h6 : vs.length ≤ 6
          · have h6' : (vs.length : Int) ≤ 6 := by omega
            have HI2 : Hid (SpI B g v n w (wr.alloc (.cells #[.slice none 0 0] 33)) w.heap.size (w.heap.size + 1) (w.heap.size + 2) (p' + 1) (.slice av vs.length cv) (.slice af F.length cf) L1 F) := hI1.keep (bAlloc (Below.refl _ _) _)
            obtain ⟨z0, z1, g0, g1⟩ := HI2.out.box.two
            have OV2 : OwnV (wr.alloc (.cells #[.slice none 0 0] 33)) (w.heap.size + 2) (.slice av vs.length cv) vs := own_keep hov (bAlloc (Below.refl _ _) _)
            have HEO2 : Hid (EachO (wr.alloc (.cells #[.slice none 0 0] 33)) (w.heap.size + 2) vs L1) := heo.keep (bAlloc (Below.refl _ _) _)
            have HOF2 : Hid (Own (wr.alloc (.cells #[.slice none 0 0] 33)) (w.heap.size + 2) (.slice af F.length cf) F) := own_keep hof (bAlloc (Below.refl _ _) _)
            have hz2 := HI2.out.hM.2.2
            clear hov heo hof hI1 ha1 hl7
            go_wp2_with (at_builtin; refine appV _ rfl _ _ rfl (w.heap.size + 2) (.slice av vs.length cv) vs rfl OV2 wr.heap.size none 0 0 rfl (Bk.new _ _ (by first | rfl | simp)) (by omega) hz2 ?_; intro g9 cap9 w9 own9 hg9 hl9; obtain ⟨x0, x1, f0, f1⟩ := (HI2.out.box.grew hg9 (fun q e => rows_not_spine OV2 HI2.out.box e)).two)
            have HI9 := (show Hid _ from HI2.out.layer OV2 HEO2.out HOF2.out (ownK_nil rowC 5 74 _ _) (by simp) (fun q e => by simp [Value.ownBlock] at e) own9 hg9)
            have HM9 := (show Hid _ from lyN_eq HI9.out.box)
            go_wp2_with fail
            go_roundw
            case rel => exact ⟨_, _, HI9.out, by rw [List.length_append, ← HVL.out]; simp; omega, by rw [List.flatten_append]; simpa using HA1.out⟩
            case measure => rw [HM9.out, HM1.out]; omega
          · have h6' : ¬ ((vs.length : Int) ≤ 6) := by omega
            have HD : Hid (DSp 93 L1 F) := ⟨by rw [← heo.len]; exact hv7, by omega, by omega⟩
            clear hov heo hof hI1 ha1 hl7
            obtain ⟨q0, q1, f0, f1⟩ := HI1.out.box.two
            obtain ⟨r0, r1, t0, t1⟩ := HI1.out.res.two
            obtain ⟨r2, r3, t2, t3⟩ := bk_set0 HI1.out.res (.slice av vs.length cv)
            obtain ⟨c0, c1, _, _⟩ := (HI1.out.res.set01 (.slice av vs.length cv) (.slice af F.length cf)).two
            go_wp2_with fail
            refine bodyPost_ret (by simp [results, Tryz.results30, go_sem, c0, c1]; try rfl) rfl ?_
            first
              | exact ⟨_, _, L1, F, rfl, HD.out, HI1.out.fin.1.less (show w.heap.size ≤ w.heap.size + 2 by omega), ⟨(p' + 1), by omega, by omega, HI1.out.finr HBG.out⟩, HI1.out.fin.2⟩
              | exact ⟨_, _, rfl, L1, F, HD.out, HI1.out.fin.1.less (show w.heap.size ≤ w.heap.size + 2 by omega), ⟨(p' + 1), by omega, by omega, HI1.out.finr HBG.out⟩, HI1.out.fin.2⟩
              | exact ⟨_, _, rfl, L1, HD.out, F, HI1.out.fin.1.less (show w.heap.size ≤ w.heap.size + 2 by omega), ⟨(p' + 1), by omega, by omega, HI1.out.finr HBG.out⟩, HI1.out.fin.2⟩
              | (trace_state; fail)
      have hk2b : (k == 2) = false := by simpa using hk2
      obtain ⟨vs, hov, heo, hof⟩ := HI.out.own
      obtain ⟨av, cv, rfl⟩ := ownV_slice hov
      obtain ⟨af, cf, rfl⟩ := own_slice2 hof
      have HD : Hid (DSp 93 L F) := ⟨by have := (spok_iff.1 HK.out).1; omega, by omega, by have := HA.out; omega⟩
      clear hov heo hof HID
      obtain ⟨q0, q1, f0, f1⟩ := HI.out.box.two
      obtain ⟨r0, r1, t0, t1⟩ := HI.out.res.two
      obtain ⟨r2, r3, t2, t3⟩ := bk_set0 HI.out.res (.slice av vs.length cv)
      obtain ⟨c0, c1, _, _⟩ := (HI.out.res.set01 (.slice av vs.length cv) (.slice af F.length cf)).two
      go_wp2_with fail
      refine bodyPost_ret (by simp [results, Tryz.results30, go_sem, c0, c1]; try rfl) rfl ?_
      exact ⟨_, _, L, F, rfl, HD.out, HI.out.fin.1.less (by omega), ⟨(p' + 1), by omega, by omega, HI.out.finr HBG.out⟩, HI.out.fin.2⟩
end Go.Proofs.YtjkojbafifbdgaaGreat
