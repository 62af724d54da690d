/- Drawn spines and a batch: the contract. -/
import Derived.Test.YtjkojbafifbdgaaGreatGx2
import Derived.Deep.RegionHeld3
import Derived.Test.YtjkojbafifbdgaaGreatGz6
import Derived.Test.YtjkojbafifbdgaaGreatGtX
/-! Drawn spines and a batch: the contract. -/
namespace Go.Proofs.YtjkojbafifbdgaaGreat
open Go.RowKit Go.Shelf

attribute [local go_sem ↓] Go.wp_at_zero Go.wp_at_succ
theorem Spn.of {c : Int} {w : World} {B : Nat} {lv fv : Value} {L : List (List Rw)} {F : List (Int × Int)} (h : DSp c L F) (hs : SpO w B lv fv L F) : Spn w lv fv L F := h.spn hs
theorem ownR_box {w : World} {B o i : Nat} {v u : Value} {l : List Rw} {d : Array Value} (h : OwnR w B v l) (k : Bk w o d 26) : OwnR (w.setCell ⟨o, i, none⟩ u) B v l :=
  ownK_at h fun q e => Below.heap_setCell _ _ _ _ (show q ≠ o from fun e2 => by
    subst e2
    rcases ownK_open h rowC_len with ⟨rfl, _⟩ | ⟨g, cap, c, rfl, _, hb, _⟩
    · simp [Value.ownBlock] at e
    · simp [Value.ownBlock] at e; subst e; exact row_not_spine hb k)
set_option maxRecDepth 100000 in
set_option maxHeartbeats 8000000 in
theorem drawSpineIn_any (a : Option Addr) (len cap : Nat) (w : World) (h : Src w (.slice a len cap) len) :
    Calls Tryz.prog 15 #[.slice a len cap] w fun e w' => ∃ (lv fv bo : Value) (L : List (List Rw)) (F : List (Int × Int)) (b : List Rw), e = .returned (.tuple #[spv lv fv, bo]) ∧ DSp 200 L F ∧ bokB b = true ∧ b.length ≤ 10 ∧ absum b ≤ 15 ∧ Spn w' lv fv L F ∧ Rs w' bo b ∧ Below w.heap.size w w' := by
  have hb0 : Below w.heap.size w (w.alloc (.cells #[.slice none 0 0, .slice none 0 0] 26)) := bAlloc (Below.refl _ _) _
  have bR : Bk (w.alloc (.cells #[.slice none 0 0, .slice none 0 0] 26)) w.heap.size #[.slice none 0 0, .slice none 0 0] 26 := Bk.new _ _ rfl
  have hgW : w.heap.size ≤ (w.alloc (.cells #[.slice none 0 0, .slice none 0 0] 26)).heap.size := by simp
  go_enter Tryz.func15, Tryz.ntmps15
  go_wp2_with fail
  generalize hW0 : (w.alloc (.cells #[.slice none 0 0, .slice none 0 0] 26)) = W0 at *
  refine (l6Open_any _ _ _ _ (h.keep hb0)).mono ?_
  rintro e wO ⟨rfl, ⟨v, n, hr1⟩, hb1⟩
  have h1 := hr1.blk.lt
  clear h hW0
  go_wp2_with fail
  refine (l71Spine_any hr1 (by omega) (by omega)).mono ?_
  rintro e wS ⟨lv, fv, L, F, rfl, hd, hs2, ⟨p2, hp2, hp2', hr2⟩, hx2⟩
  obtain ⟨av, cv, af, cf, e1, e2⟩ := hs2.open
  subst e1 e2
  have HD : Hid (DSp 93 L F) := hd
  have hz2 := hx2.size
  have HI := (show Hid (SpI W0.heap.size W0.heap.size v n w (wS.alloc (.cells #[.slice av L.length cv, .slice af F.length cf] 26)) w.heap.size wS.heap.size wO.heap.size p2 (.slice av L.length cv) (.slice af F.length cf) L F) from SpI.make bR hb0 hb1 h1 hs2 hr2 hx2)
  clear hs2 hr2 hx2 hb1 hb0 hr1 bR hd
  go_wp2_with fail
  generalize hWA : (wS.alloc (.cells #[.slice av L.length cv, .slice af F.length cf] 26)) = wA at *
  go_loopw [6] (fun i wr => ∃ (j : Nat) (p' : Int) (lv fv : Value) (L : List (List Rw)) (F : List (Int × Int)), j ≤ 8 ∧ i = .int .i64 j ∧ SpI W0.heap.size W0.heap.size v n w wr w.heap.size wS.heap.size wO.heap.size p' lv fv L F ∧ DSp (93 + 12 * j) L F ∧ 0 ≤ p' ∧ p' ≤ 6000 + 800 * j) (fun i _ => 8 - (intOf i).toNat)
  case atStart => exact ⟨0, p2, _, _, L, F, by omega, rfl, HI.out, HD.out.mono (by omega), by omega, by omega⟩
  case round =>
    clear HI HD hWA
    obtain ⟨j, p', lv, fv, L, F, hj, rfl, hI, hd, hp0, hp1⟩ := hrel
    obtain ⟨av, cv, af, cf, e1, e2⟩ := hI.own.open
    subst e1 e2
    have HI := (show Hid (SpI W0.heap.size W0.heap.size v n w wr w.heap.size wS.heap.size wO.heap.size p' (.slice av L.length cv) (.slice af F.length cf) L F) from hI)
    have HD : Hid (DSp (93 + 12 * j) L F) := hd
    have HA : Hid (absum L.flatten ≤ 93 + 12 * j) := hd.2.2
    have hl7 := hd.1
    have hF9 := hd.2.1
    obtain ⟨y0, y1, e0, e1⟩ := hI.box.two
    by_cases hj8 : j < 8
    · have ij : (j : Int) < 8 := by omega
      go_wp2_with fail
      refine (pick_any hI.rd (by omega) (by omega) _ (by omega) (by omega)).mono ?_
      rintro e w2 ⟨k, rfl, hk0, hk1, hr2, hx2⟩
      have HI2 : Hid (SpI W0.heap.size W0.heap.size v n w w2 w.heap.size wS.heap.size wO.heap.size (p' + 1) (.slice av L.length cv) (.slice af F.length cf) L F) := hI.keepx hx2 hr2
      have HID : Hid (SpI W0.heap.size W0.heap.size v n w w2.drew w.heap.size wS.heap.size wO.heap.size (p' + 1) (.slice av L.length cv) (.slice af F.length cf) L F) := HI2.out.keep (Below.refl _ _).drew
      have HIZ : Hid (SpI W0.heap.size W0.heap.size v n w ((w2.alloc (.cells #[.slice none 0 0, .slice none 0 0] 26)).drew) w.heap.size wS.heap.size wO.heap.size (p' + 1) (.slice av L.length cv) (.slice af F.length cf) L F) := HI2.out.keep (bAlloc (Below.refl _ _) _).drew
      have k0 : Bx W0.heap.size w2 w2.drew := (Bx.refl _ _).drew
      have kz : Bx W0.heap.size w2 ((w2.alloc (.cells #[.slice none 0 0, .slice none 0 0] 26)).drew) := ((Bx.refl _ _).alloc _).drew
      have ZA : Bk ((w2.alloc (.cells #[.slice none 0 0, .slice none 0 0] 26)).drew) w2.heap.size #[.slice none 0 0, .slice none 0 0] 26 := (Bk.new _ _ rfl).drew
      have hzg : w2.heap.size ≠ W0.heap.size := by have := HI2.out.rd.blk.lt; omega
      have NQZ := HI2.out.nq (Nat.le_refl w2.heap.size)
      have HX : Hid (∀ W, Bx W0.heap.size w2 W → W.cell? ⟨wS.heap.size, 0, none⟩ = some (.slice av L.length cv) ∧ W.cell? ⟨wS.heap.size, 1, none⟩ = some (.slice af F.length cf)) := fun W hW => ⟨(HI2.out.box.keepx hW HI2.out.hb.2.1).two.1, (HI2.out.box.keepx hW HI2.out.hb.2.1).two.2.1⟩
      have HSW : Hid (∀ W, Bx W0.heap.size w2 W → Spn W (.slice av L.length cv) (.slice af F.length cf) L F) := fun W hW => (HI2.out.own.keepx hW HI2.out.hM.2.1).spn (by omega) (by omega)
      clear hI hd hr2 hx2
      have NP0 : 0 ≤ p' + 1 := by omega
      have NP1 : p' + 1 ≤ 600000 := by omega
      have NP8 : p' + 1 ≤ 800000 := by omega
      have NPX : p' + 1 ≤ 1000000 := by omega
      have N14 : (1 : Int) ≤ 3 := by omega
      have N41 : (3 : Int) ≤ 1000 := by omega
      have N04 : (0 : Int) ≤ 3 := by omega
      have N410 : (3 : Int) ≤ 10 := by omega
      have hFC : F.length ≤ 100 := by omega
      obtain ⟨v0, v1, _, _⟩ := HI2.out.box.two
      by_cases hk : k = 0
      · subst hk
        by_cases hl6 : L.length < 6
        · have il : (L.length : Int) < 6 := by omega
          go_wp2_with fail
          go_cut [7, 8] (fun x o wc => SpX W0.heap.size W0.heap.size v n w w.heap.size wS.heap.size wO.heap.size (p' + 1) (.slice av L.length cv) (.slice af F.length cf) L F x o wc)
          case first =>
            go_region_held3 (fun W => W.cell? ⟨wS.heap.size, 0, none⟩ = some (.slice av L.length cv) ∧ W.cell? ⟨wS.heap.size, 1, none⟩ = some (.slice af F.length cf))
              (exact HX.out _ (by repeat' (first | (with_reducible exact Bx.refl _ _) | (with_reducible assumption) | (with_reducible refine Bx.trans ?_ (by with_reducible assumption)) | (with_reducible refine Bx.trans ?_ (Bx.of_below (by with_reducible assumption))) | (with_reducible refine Bx.alloc ?_ _) | (with_reducible refine Bx.drew ?_) | (with_reducible refine Bx.drewN ?_ _) | (with_reducible refine Bx.setN ?_ ?_ _) | (simp; done) | (simp; omega) | omega)))
              (first
                | (go_at_call 51; (with_reducible show Calls _ _ _ w2.drew _); refine (l71Batch_any HID.out.rd NP0 NP1 _ N04 N410).mono ?_; rintro e w3 ⟨ob, bb, rfl, hb4, hsm, own3, ⟨p3, hp3, hp3', hr3⟩, hx3⟩; have k3 : Bx W0.heap.size w2 w3 := k0.trans hx3; have z3 := Bx.size k3; have k3a : Bx W0.heap.size w2 (w3.alloc (.cells #[.slice none 0 0, .slice none 0 0] 26)) := Bx.alloc k3 _; have HI3 := (show Hid _ from HID.out.keepx hx3 hr3); have HI3a := (show Hid (SpI W0.heap.size W0.heap.size v n w (w3.alloc (.cells #[.slice none 0 0, .slice none 0 0] 26)) w.heap.size wS.heap.size wO.heap.size p3 (.slice av L.length cv) (.slice af F.length cf) L F) from HI3.out.keep (bAlloc (Below.refl _ _) _)); have HO3 : Hid (∀ W, Bx W0.heap.size w3 W → Rs W ob (batchL bb)) := (fun W hW => OwnR.rs (own_keepx own3 hW (by have := HI2.out.rd.blk.lt; simp; omega)) (by have := batch_len bb; omega)); have HF3 : Hid (∀ W, Bx W0.heap.size w3 W → Ts W (.slice af F.length cf) F) := (fun W hW => (HSW.out W (k3.trans hW)).2); have HSM : Hid (absum bb ≤ 12 ∧ (batchL bb).length ≤ 10 ∧ ∀ r ∈ batchL bb, okR r) := ⟨(by have := sm_abs hb4 hsm; omega), by have := batch_few bb; omega, fun r hr => rok_at (bok_rok (batch_bok bb)) hr⟩; clear own3 hsm; have NP3 : 0 ≤ p3 := (by omega); have NP4 : p3 ≤ 700000 := (by omega))
                | (go_at_call 51; (with_reducible show Calls _ _ _ ((w2.alloc (.cells #[.slice none 0 0, .slice none 0 0] 26)).drew) _); refine (l71Batch_any HIZ.out.rd NP0 NP1 _ N04 N410).mono ?_; rintro e w3 ⟨ob, bb, rfl, hb4, hsm, own3, ⟨p3, hp3, hp3', hr3⟩, hx3⟩; have k3 : Bx W0.heap.size w2 w3 := kz.trans hx3; have z3 := Bx.size k3; have bz := Bk.keepx ZA hx3 hzg; have nq := NQZ; have HI3 := (show Hid _ from HIZ.out.keepx hx3 hr3); have HO3 : Hid (∀ W, Bx W0.heap.size w3 W → Rs W ob (batchL bb)) := (fun W hW => OwnR.rs (own_keepx own3 hW (by have := HI2.out.rd.blk.lt; simp; omega)) (by have := batch_len bb; omega)); have HF3 : Hid (∀ W, Bx W0.heap.size w3 W → Ts W (.slice af F.length cf) F) := (fun W hW => (HSW.out W (k3.trans hW)).2); have HSM : Hid (absum bb ≤ 12 ∧ (batchL bb).length ≤ 10 ∧ ∀ r ∈ batchL bb, okR r) := ⟨(by have := sm_abs hb4 hsm; omega), by have := batch_few bb; omega, fun r hr => rok_at (bok_rok (batch_bok bb)) hr⟩; clear own3 hsm; have NP3 : 0 ≤ p3 := (by omega); have NP4 : p3 ≤ 700000 := (by omega))
                | (go_at_call 50; (with_reducible show Calls _ _ _ w3 _); refine (l71Behind_any HI3.out.rd NP3 NP4 ob (.slice af F.length cf) (batchL bb) F HO3.out HF3.out HSM.out.2.2 HSM.out.2.1 hFC).mono ?_; rintro e w4 ⟨o2, mm, rfl, hml, hmabs, _, own4, ⟨p4, hp4, hp4', hr4⟩, hx4⟩; have k4 : Bx W0.heap.size w2 w4 := k3.trans hx4; have z4 := Bx.size k4; have k4a : Bx W0.heap.size w2 (w4.alloc (.cells #[.slice none 0 0, .slice none 0 0] 26)) := Bx.alloc k4 _; have HI4 := (show Hid _ from HI3.out.keepx hx4 hr4); have HI4a := (show Hid (SpI W0.heap.size W0.heap.size v n w (w4.alloc (.cells #[.slice none 0 0, .slice none 0 0] 26)) w.heap.size wS.heap.size wO.heap.size p4 (.slice av L.length cv) (.slice af F.length cf) L F) from HI4.out.keep (bAlloc (Below.refl _ _) _)); have HO4 : Hid (Rs w4 o2 (batchL mm)) := OwnR.rs own4 (by have := batch_len mm; omega); have HO4a : Hid (Rs (w4.alloc (.cells #[.slice none 0 0, .slice none 0 0] 26)) o2 (batchL mm)) := HO4.out.keep (bAlloc (Below.refl _ _) _); have HM4 : Hid (absum (batchL mm) ≤ 12) := (by have h1 := batch_abs mm; have h2 := batch_abs bb; have h3 := HSM.out.1; show _ ≤ _; omega); clear own4 hmabs hml; have bz := Bk.keepx bz hx4 nq.2.1)
                | (go_at_call 50; (with_reducible show Calls _ _ _ w3 _); refine (l71Behind_any HI3.out.rd NP3 NP4 ob (.slice af F.length cf) (batchL bb) F HO3.out HF3.out HSM.out.2.2 HSM.out.2.1 hFC).mono ?_; rintro e w4 ⟨o2, mm, rfl, hml, hmabs, _, own4, ⟨p4, hp4, hp4', hr4⟩, hx4⟩; have k4 : Bx W0.heap.size w2 w4 := k3.trans hx4; have z4 := Bx.size k4; have k4a : Bx W0.heap.size w2 (w4.alloc (.cells #[.slice none 0 0, .slice none 0 0] 26)) := Bx.alloc k4 _; have HI4 := (show Hid _ from HI3.out.keepx hx4 hr4); have HI4a := (show Hid (SpI W0.heap.size W0.heap.size v n w (w4.alloc (.cells #[.slice none 0 0, .slice none 0 0] 26)) w.heap.size wS.heap.size wO.heap.size p4 (.slice av L.length cv) (.slice af F.length cf) L F) from HI4.out.keep (bAlloc (Below.refl _ _) _)); have HO4 : Hid (Rs w4 o2 (batchL mm)) := OwnR.rs own4 (by have := batch_len mm; omega); have HO4a : Hid (Rs (w4.alloc (.cells #[.slice none 0 0, .slice none 0 0] 26)) o2 (batchL mm)) := HO4.out.keep (bAlloc (Below.refl _ _) _); have HM4 : Hid (absum (batchL mm) ≤ 12) := (by have h1 := batch_abs mm; have h2 := batch_abs bb; have h3 := HSM.out.1; show _ ≤ _; omega); clear own4 hmabs hml)
                | (go_at_call 50; (with_reducible show Calls _ _ _ (w3.alloc (.cells #[.slice none 0 0, .slice none 0 0] 26)) _); refine (l71Behind_any HI3a.out.rd NP3 NP4 ob (.slice af F.length cf) (batchL bb) F (fun W hW => HO3.out W (((Bx.refl _ _).alloc _).trans hW)) (fun W hW => HF3.out W (((Bx.refl _ _).alloc _).trans hW)) HSM.out.2.2 HSM.out.2.1 hFC).mono ?_; rintro e w4 ⟨o2, mm, rfl, hml, hmabs, _, own4, ⟨p4, hp4, hp4', hr4⟩, hx4⟩; have k4 : Bx W0.heap.size w2 w4 := k3a.trans hx4; have z4 := Bx.size k4; have k4a : Bx W0.heap.size w2 (w4.alloc (.cells #[.slice none 0 0, .slice none 0 0] 26)) := Bx.alloc k4 _; have HI4 := (show Hid _ from HI3a.out.keepx hx4 hr4); have HI4a := (show Hid (SpI W0.heap.size W0.heap.size v n w (w4.alloc (.cells #[.slice none 0 0, .slice none 0 0] 26)) w.heap.size wS.heap.size wO.heap.size p4 (.slice av L.length cv) (.slice af F.length cf) L F) from HI4.out.keep (bAlloc (Below.refl _ _) _)); have HO4 : Hid (Rs w4 o2 (batchL mm)) := OwnR.rs own4 (by have := batch_len mm; omega); have HO4a : Hid (Rs (w4.alloc (.cells #[.slice none 0 0, .slice none 0 0] 26)) o2 (batchL mm)) := HO4.out.keep (bAlloc (Below.refl _ _) _); have HM4 : Hid (absum (batchL mm) ≤ 12) := (by have h1 := batch_abs mm; have h2 := batch_abs bb; have h3 := HSM.out.1; show _ ≤ _; omega); clear own4 hmabs hml; have bz := Bk.keepx (Bk.new (w := w3) #[.slice none 0 0, .slice none 0 0] 26 rfl) hx4 (HI2.out.nq (Bx.size k3)).2.1; have nq := HI2.out.nq (Bx.size k3))
                | (go_at_call 19; (with_reducible show Calls _ _ _ w4 _); refine (specSpineIn_any (.slice av L.length cv) (.slice af F.length cf) o2 L F (batchL mm) _ (HSW.out _ k4) HO4.out).mono ?_; rintro e wj ⟨lj, fj, rfl, spj, hbj⟩; obtain ⟨L4, hL4⟩ : ∃ x, inLL L F (batchL mm) = x := ⟨_, rfl⟩; obtain ⟨F4, hF4⟩ : ∃ x, inF L F (batchL mm) = x := ⟨_, rfl⟩; rw [hL4, hF4] at spj; have HOK : Hid (inB1 L F (batchL mm) = true → spokB L4 F4 = true ∧ absum L4.flatten ≤ absum L.flatten + 12) := (by intro hq; have hh := in_ok2 hq HM4.out; rw [hL4, hF4] at hh; exact hh); clear hL4 hF4; obtain ⟨sa, sc, sb, sd, e1, e2⟩ := SpO.open spj; subst e1 e2; have kj : Bx W0.heap.size w2 wj := Bx.trans k4 (Bx.of_below hbj); have bj := Bk.keep bz hbj; obtain ⟨u0, u1, u2, u3⟩ := bj.two; obtain ⟨u4, u5, u6, u7⟩ := bk_set0 bj (.slice sa L4.length sc); have HFIN := (show Hid _ from SpX.put (p := p' + 1) (HI4.out.keep hbj) (spj.less HI4.out.hM.2.2) bj nq (by omega) (by omega) HOK.out))
                | (go_at_call 19; (with_reducible show Calls _ _ _ w4 _); refine (specSpineIn_any (.slice av L.length cv) (.slice af F.length cf) o2 L F (batchL mm) _ (HSW.out _ k4) HO4.out).mono ?_; rintro e wj ⟨lj, fj, rfl, spj, hbj⟩; obtain ⟨L4, hL4⟩ : ∃ x, inLL L F (batchL mm) = x := ⟨_, rfl⟩; obtain ⟨F4, hF4⟩ : ∃ x, inF L F (batchL mm) = x := ⟨_, rfl⟩; rw [hL4, hF4] at spj; have HOK : Hid (inB1 L F (batchL mm) = true → spokB L4 F4 = true ∧ absum L4.flatten ≤ absum L.flatten + 12) := (by intro hq; have hh := in_ok2 hq HM4.out; rw [hL4, hF4] at hh; exact hh); clear hL4 hF4; obtain ⟨sa, sc, sb, sd, e1, e2⟩ := SpO.open spj; subst e1 e2; have kj : Bx W0.heap.size w2 wj := Bx.trans k4 (Bx.of_below hbj); have HFIN := (show Hid _ from SpX.last (p := p' + 1) (HI4.out.keep hbj) (spj.less HI4.out.hM.2.2) (by omega) (by omega) HOK.out))
                | (go_at_call 19; (with_reducible show Calls _ _ _ (w4.alloc (.cells #[.slice none 0 0, .slice none 0 0] 26)) _); refine (specSpineIn_any (.slice av L.length cv) (.slice af F.length cf) o2 L F (batchL mm) _ (HSW.out _ k4a) HO4a.out).mono ?_; rintro e wj ⟨lj, fj, rfl, spj, hbj⟩; obtain ⟨L4, hL4⟩ : ∃ x, inLL L F (batchL mm) = x := ⟨_, rfl⟩; obtain ⟨F4, hF4⟩ : ∃ x, inF L F (batchL mm) = x := ⟨_, rfl⟩; rw [hL4, hF4] at spj; have HOK : Hid (inB1 L F (batchL mm) = true → spokB L4 F4 = true ∧ absum L4.flatten ≤ absum L.flatten + 12) := (by intro hq; have hh := in_ok2 hq HM4.out; rw [hL4, hF4] at hh; exact hh); clear hL4 hF4; obtain ⟨sa, sc, sb, sd, e1, e2⟩ := SpO.open spj; subst e1 e2; have kj : Bx W0.heap.size w2 wj := Bx.trans k4a (Bx.of_below hbj); have bj := Bk.keep (Bk.new (w := w4) #[.slice none 0 0, .slice none 0 0] 26 rfl) hbj; obtain ⟨u0, u1, u2, u3⟩ := bj.two; obtain ⟨u4, u5, u6, u7⟩ := bk_set0 bj (.slice sa L4.length sc); have HFIN := (show Hid _ from SpX.put (p := p' + 1) (HI4a.out.keep hbj) (spj.less HI4a.out.hM.2.2) bj (HI2.out.nq (Bx.size k4)) (by omega) (by omega) HOK.out)))
            all_goals
              go_wp2_with fail
              go_meet
              case rel => exact HFIN.out
          case rest =>
            obtain ⟨q, sa, sb, sc, sd, L4, F4, ok, p3, rfl, rfl, bq, hI3, hs3, hp3, hp3', hok⟩ := hcut
            have HOK := (show Hid _ from hok)
            have HI3 := (show Hid _ from hI3)
            obtain ⟨x0, x1, e0, e1⟩ := hI3.box.two
            obtain ⟨b0, b1, _, _⟩ := bq.two
            clear hok
            cases ok
            · clear hI3 hs3
              go_wp2_with fail
              go_roundw
              case rel => exact ⟨j + 1, _, _, _, L, F, by omega, by go_num, HI3.out, HD.out.mono (by omega), by omega, by omega⟩
              case measure => simp [intOf]; omega
            · have HS6 := (show Hid _ from hI3.set hs3)
              obtain ⟨x2, x3, e2, e3⟩ := bk_set0 hI3.box (.slice sa L4.length sc)
              clear hI3 hs3
              go_wp2_with fail
              go_roundw
              case rel => exact ⟨j + 1, _, _, _, L4, F4, by omega, by go_num, HS6.out, DSp.ok (HOK.out rfl).1 (by have := HA.out; have := (HOK.out rfl).2; omega), by omega, by omega⟩
              case measure => simp [intOf]; omega
        · have il : ¬ ((L.length : Int) < 6) := by omega
          go_wp2_with fail
          refine (l71Batch_any HI2.out.rd (by omega) (by omega) _ (by omega) (by omega)).mono ?_
          rintro e w5 ⟨ob, bb, rfl, hb5, hsm, own5, ⟨p5, hp5, hp5', hr5⟩, hx5⟩
          have HI5 := (show Hid (SpI W0.heap.size W0.heap.size v n w w5 w.heap.size wS.heap.size wO.heap.size p5 (.slice av L.length cv) (.slice af F.length cf) L F) from HI2.out.keepx hx5 hr5)
          have HO5 := (show Hid _ from own5)
          have HSM : Hid (absum bb ≤ 15 ∧ bb.length ≤ 5) := ⟨by have := sm_abs hb5 hsm; omega, by omega⟩
          have hgV := HI2.out.rd.blk.lt
          clear own5 hr5 hx5 hsm
          go_wp2_with fail
          refine (pick_any HI5.out.rd (by omega) (by omega) _ (by omega) (by omega)).mono ?_
          rintro e w6 ⟨k6, rfl, hk60, hk61, hr6, hx6⟩
          have HI6 := (show Hid (SpI W0.heap.size W0.heap.size v n w w6 w.heap.size wS.heap.size wO.heap.size (p5 + 1) (.slice av L.length cv) (.slice af F.length cf) L F) from HI5.out.keepx hx6 hr6)
          have HO6 := (show Hid _ from own_keepx HO5.out hx6 hgV)
          obtain ⟨y0, y1, _, _⟩ := HI6.out.box.two
          clear hr6 hx6 HI5 HO5
          by_cases hk6 : k6 = 0
          · subst hk6
            have HB : Hid (bokB (batchL bb) = true ∧ (batchL bb).length ≤ 10 ∧ absum (batchL bb) ≤ 15) := ⟨batch_bok bb, by have := batch_few bb; have := HSM.out.2; omega, by have := batch_abs bb; have := HSM.out.1; omega⟩
            obtain ⟨q0, q1, f0, f1⟩ := HI6.out.box.two
            obtain ⟨r0, r1, t0, t1⟩ := HI6.out.res.two
            obtain ⟨r2, r3, t2, t3⟩ := bk_set0 HI6.out.res (.slice av L.length cv)
            obtain ⟨c0, c1, _, _⟩ := (HI6.out.res.set01 (.slice av L.length cv) (.slice af F.length cf)).two
            go_wp2_with fail
            refine bodyPost_ret (by simp [results, Tryz.results15, go_sem, c0, c1]; try rfl) rfl ?_
            exact ⟨_, _, _, L, F, (batchL bb), rfl, HD.out.mono (by omega), HB.out.1, HB.out.2.1, HB.out.2.2, Spn.of HD.out HI6.out.fin.1, OwnR.rs (ownR_box (ownR_box HO6.out HI6.out.res) (Bk.set HI6.out.res 0 _)) (by have := HB.out.2.1; omega), Bx.low HI6.out.fin.2 hgW⟩
          have hkp : decide (0 < k6) = true := by simp; omega
          have hkq : 0 < k6 := by omega
          have HO7 : Hid (∀ W, Bx W0.heap.size w6 W → Rs W ob (batchL bb)) := fun W hW => OwnR.rs (own_keepx HO6.out hW hgV) (by have := batch_len bb; omega)
          have HF7 : Hid (∀ W, Bx W0.heap.size w6 W → Ts W (.slice af F.length cf) F) := fun W hW => (Spn.of HD.out (HI6.out.own.keepx hW HI6.out.hM.2.1)).2
          have hbl10 : (batchL bb).length ≤ 10 := by have := batch_few bb; have := HSM.out.2; omega
          go_wp2_with fail
          refine (l71Behind_any HI6.out.rd (by omega) (by omega) ob (.slice af F.length cf) (batchL bb) F HO7.out HF7.out (fun r hr => rok_at (bok_rok (batch_bok bb)) hr) hbl10 (by have := HD.out.2.1; omega)).mono ?_
          rintro e w7 ⟨o7, mm, rfl, hml, hmabs, _, own7, ⟨p7, hp7, hp7', hr7⟩, hx7⟩
          have HI7 := (show Hid (SpI W0.heap.size W0.heap.size v n w w7 w.heap.size wS.heap.size wO.heap.size p7 (.slice av L.length cv) (.slice af F.length cf) L F) from HI6.out.keepx hx7 hr7)
          have HO8 := (show Hid _ from own7)
          have HB : Hid (bokB (batchL mm) = true ∧ (batchL mm).length ≤ 10 ∧ absum (batchL mm) ≤ 15) := ⟨batch_bok mm, by have := batch_few mm; omega, by have := batch_abs mm; have := batch_abs bb; have := HSM.out.1; omega⟩
          clear own7 hr7 hx7 y0 y1 HI6 HO6 HO7 HF7 hml hmabs
          obtain ⟨q0, q1, f0, f1⟩ := HI7.out.box.two
          obtain ⟨r0, r1, t0, t1⟩ := HI7.out.res.two
          obtain ⟨r2, r3, t2, t3⟩ := bk_set0 HI7.out.res (.slice av L.length cv)
          obtain ⟨c0, c1, _, _⟩ := (HI7.out.res.set01 (.slice av L.length cv) (.slice af F.length cf)).two
          go_wp2_with fail
          refine bodyPost_ret (by simp [results, Tryz.results15, go_sem, c0, c1]; try rfl) rfl ?_
          exact ⟨_, _, _, L, F, (batchL mm), rfl, HD.out.mono (by omega), HB.out.1, HB.out.2.1, HB.out.2.2, Spn.of HD.out HI7.out.fin.1, OwnR.rs (ownR_box (ownR_box HO8.out HI7.out.res) (Bk.set HI7.out.res 0 _)) (by have := HB.out.2.1; omega), Bx.low HI7.out.fin.2 hgW⟩
      · have hkb : (k == 0) = false := by simpa using hk
        go_wp2_with fail
        refine (l71Batch_any HI2.out.rd (by omega) (by omega) _ (by omega) (by omega)).mono ?_
        rintro e w5 ⟨ob, bb, rfl, hb5, hsm, own5, ⟨p5, hp5, hp5', hr5⟩, hx5⟩
        have HI5 := (show Hid (SpI W0.heap.size W0.heap.size v n w w5 w.heap.size wS.heap.size wO.heap.size p5 (.slice av L.length cv) (.slice af F.length cf) L F) from HI2.out.keepx hx5 hr5)
        have HO5 := (show Hid _ from own5)
        have HSM : Hid (absum bb ≤ 15 ∧ bb.length ≤ 5) := ⟨by have := sm_abs hb5 hsm; omega, by omega⟩
        have hgV := HI2.out.rd.blk.lt
        clear own5 hr5 hx5 hsm
        go_wp2_with fail
        refine (pick_any HI5.out.rd (by omega) (by omega) _ (by omega) (by omega)).mono ?_
        rintro e w6 ⟨k6, rfl, hk60, hk61, hr6, hx6⟩
        have HI6 := (show Hid (SpI W0.heap.size W0.heap.size v n w w6 w.heap.size wS.heap.size wO.heap.size (p5 + 1) (.slice av L.length cv) (.slice af F.length cf) L F) from HI5.out.keepx hx6 hr6)
        have HO6 := (show Hid _ from own_keepx HO5.out hx6 hgV)
        obtain ⟨y0, y1, _, _⟩ := HI6.out.box.two
        clear hr6 hx6 HI5 HO5
        by_cases hk6 : k6 = 0
        · subst hk6
          have HB : Hid (bokB (batchL bb) = true ∧ (batchL bb).length ≤ 10 ∧ absum (batchL bb) ≤ 15) := ⟨batch_bok bb, by have := batch_few bb; have := HSM.out.2; omega, by have := batch_abs bb; have := HSM.out.1; omega⟩
          obtain ⟨q0, q1, f0, f1⟩ := HI6.out.box.two
          obtain ⟨r0, r1, t0, t1⟩ := HI6.out.res.two
          obtain ⟨r2, r3, t2, t3⟩ := bk_set0 HI6.out.res (.slice av L.length cv)
          obtain ⟨c0, c1, _, _⟩ := (HI6.out.res.set01 (.slice av L.length cv) (.slice af F.length cf)).two
          go_wp2_with fail
          refine bodyPost_ret (by simp [results, Tryz.results15, go_sem, c0, c1]; try rfl) rfl ?_
          exact ⟨_, _, _, L, F, (batchL bb), rfl, HD.out.mono (by omega), HB.out.1, HB.out.2.1, HB.out.2.2, Spn.of HD.out HI6.out.fin.1, OwnR.rs (ownR_box (ownR_box HO6.out HI6.out.res) (Bk.set HI6.out.res 0 _)) (by have := HB.out.2.1; omega), Bx.low HI6.out.fin.2 hgW⟩
        have hkp : decide (0 < k6) = true := by simp; omega
        have hkq : 0 < k6 := by omega
        have HO7 : Hid (∀ W, Bx W0.heap.size w6 W → Rs W ob (batchL bb)) := fun W hW => OwnR.rs (own_keepx HO6.out hW hgV) (by have := batch_len bb; omega)
        have HF7 : Hid (∀ W, Bx W0.heap.size w6 W → Ts W (.slice af F.length cf) F) := fun W hW => (Spn.of HD.out (HI6.out.own.keepx hW HI6.out.hM.2.1)).2
        have hbl10 : (batchL bb).length ≤ 10 := by have := batch_few bb; have := HSM.out.2; omega
        go_wp2_with fail
        refine (l71Behind_any HI6.out.rd (by omega) (by omega) ob (.slice af F.length cf) (batchL bb) F HO7.out HF7.out (fun r hr => rok_at (bok_rok (batch_bok bb)) hr) hbl10 (by have := HD.out.2.1; omega)).mono ?_
        rintro e w7 ⟨o7, mm, rfl, hml, hmabs, _, own7, ⟨p7, hp7, hp7', hr7⟩, hx7⟩
        have HI7 := (show Hid (SpI W0.heap.size W0.heap.size v n w w7 w.heap.size wS.heap.size wO.heap.size p7 (.slice av L.length cv) (.slice af F.length cf) L F) from HI6.out.keepx hx7 hr7)
        have HO8 := (show Hid _ from own7)
        have HB : Hid (bokB (batchL mm) = true ∧ (batchL mm).length ≤ 10 ∧ absum (batchL mm) ≤ 15) := ⟨batch_bok mm, by have := batch_few mm; omega, by have := batch_abs mm; have := batch_abs bb; have := HSM.out.1; omega⟩
        clear own7 hr7 hx7 y0 y1 HI6 HO6 HO7 HF7 hml hmabs
        obtain ⟨q0, q1, f0, f1⟩ := HI7.out.box.two
        obtain ⟨r0, r1, t0, t1⟩ := HI7.out.res.two
        obtain ⟨r2, r3, t2, t3⟩ := bk_set0 HI7.out.res (.slice av L.length cv)
        obtain ⟨c0, c1, _, _⟩ := (HI7.out.res.set01 (.slice av L.length cv) (.slice af F.length cf)).two
        go_wp2_with fail
        refine bodyPost_ret (by simp [results, Tryz.results15, go_sem, c0, c1]; try rfl) rfl ?_
        exact ⟨_, _, _, L, F, (batchL mm), rfl, HD.out.mono (by omega), HB.out.1, HB.out.2.1, HB.out.2.2, Spn.of HD.out HI7.out.fin.1, OwnR.rs (ownR_box (ownR_box HO8.out HI7.out.res) (Bk.set HI7.out.res 0 _)) (by have := HB.out.2.1; omega), Bx.low HI7.out.fin.2 hgW⟩
    · have ij : ¬ ((j : Int) < 8) := by omega
      clear hI hd
      go_wp2_with fail
      refine (l71Batch_any HI.out.rd (by omega) (by omega) _ (by omega) (by omega)).mono ?_
      rintro e w5 ⟨ob, bb, rfl, hb5, hsm, own5, ⟨p5, hp5, hp5', hr5⟩, hx5⟩
      have HI5 := (show Hid (SpI W0.heap.size W0.heap.size v n w w5 w.heap.size wS.heap.size wO.heap.size p5 (.slice av L.length cv) (.slice af F.length cf) L F) from HI.out.keepx hx5 hr5)
      have HO5 := (show Hid _ from own5)
      have HSM : Hid (absum bb ≤ 15 ∧ bb.length ≤ 5) := ⟨by have := sm_abs hb5 hsm; omega, by omega⟩
      have hgV := HI.out.rd.blk.lt
      clear own5 hr5 hx5 hsm
      go_wp2_with fail
      refine (pick_any HI5.out.rd (by omega) (by omega) _ (by omega) (by omega)).mono ?_
      rintro e w6 ⟨k6, rfl, hk60, hk61, hr6, hx6⟩
      have HI6 := (show Hid (SpI W0.heap.size W0.heap.size v n w w6 w.heap.size wS.heap.size wO.heap.size (p5 + 1) (.slice av L.length cv) (.slice af F.length cf) L F) from HI5.out.keepx hx6 hr6)
      have HO6 := (show Hid _ from own_keepx HO5.out hx6 hgV)
      obtain ⟨y0, y1, _, _⟩ := HI6.out.box.two
      clear hr6 hx6 HI5 HO5
      by_cases hk6 : k6 = 0
      · subst hk6
        have HB : Hid (bokB (batchL bb) = true ∧ (batchL bb).length ≤ 10 ∧ absum (batchL bb) ≤ 15) := ⟨batch_bok bb, by have := batch_few bb; have := HSM.out.2; omega, by have := batch_abs bb; have := HSM.out.1; omega⟩
        obtain ⟨q0, q1, f0, f1⟩ := HI6.out.box.two
        obtain ⟨r0, r1, t0, t1⟩ := HI6.out.res.two
        obtain ⟨r2, r3, t2, t3⟩ := bk_set0 HI6.out.res (.slice av L.length cv)
        obtain ⟨c0, c1, _, _⟩ := (HI6.out.res.set01 (.slice av L.length cv) (.slice af F.length cf)).two
        go_wp2_with fail
        refine bodyPost_ret (by simp [results, Tryz.results15, go_sem, c0, c1]; try rfl) rfl ?_
        exact ⟨_, _, _, L, F, (batchL bb), rfl, HD.out.mono (by omega), HB.out.1, HB.out.2.1, HB.out.2.2, Spn.of HD.out HI6.out.fin.1, OwnR.rs (ownR_box (ownR_box HO6.out HI6.out.res) (Bk.set HI6.out.res 0 _)) (by have := HB.out.2.1; omega), Bx.low HI6.out.fin.2 hgW⟩
      have hkp : decide (0 < k6) = true := by simp; omega
      have hkq : 0 < k6 := by omega
      have HO7 : Hid (∀ W, Bx W0.heap.size w6 W → Rs W ob (batchL bb)) := fun W hW => OwnR.rs (own_keepx HO6.out hW hgV) (by have := batch_len bb; omega)
      have HF7 : Hid (∀ W, Bx W0.heap.size w6 W → Ts W (.slice af F.length cf) F) := fun W hW => (Spn.of HD.out (HI6.out.own.keepx hW HI6.out.hM.2.1)).2
      have hbl10 : (batchL bb).length ≤ 10 := by have := batch_few bb; have := HSM.out.2; omega
      go_wp2_with fail
      refine (l71Behind_any HI6.out.rd (by omega) (by omega) ob (.slice af F.length cf) (batchL bb) F HO7.out HF7.out (fun r hr => rok_at (bok_rok (batch_bok bb)) hr) hbl10 (by have := HD.out.2.1; omega)).mono ?_
      rintro e w7 ⟨o7, mm, rfl, hml, hmabs, _, own7, ⟨p7, hp7, hp7', hr7⟩, hx7⟩
      have HI7 := (show Hid (SpI W0.heap.size W0.heap.size v n w w7 w.heap.size wS.heap.size wO.heap.size p7 (.slice av L.length cv) (.slice af F.length cf) L F) from HI6.out.keepx hx7 hr7)
      have HO8 := (show Hid _ from own7)
      have HB : Hid (bokB (batchL mm) = true ∧ (batchL mm).length ≤ 10 ∧ absum (batchL mm) ≤ 15) := ⟨batch_bok mm, by have := batch_few mm; omega, by have := batch_abs mm; have := batch_abs bb; have := HSM.out.1; omega⟩
      clear own7 hr7 hx7 y0 y1 HI6 HO6 HO7 HF7 hml hmabs
      obtain ⟨q0, q1, f0, f1⟩ := HI7.out.box.two
      obtain ⟨r0, r1, t0, t1⟩ := HI7.out.res.two
      obtain ⟨r2, r3, t2, t3⟩ := bk_set0 HI7.out.res (.slice av L.length cv)
      obtain ⟨c0, c1, _, _⟩ := (HI7.out.res.set01 (.slice av L.length cv) (.slice af F.length cf)).two
      go_wp2_with fail
      refine bodyPost_ret (by simp [results, Tryz.results15, go_sem, c0, c1]; try rfl) rfl ?_
      exact ⟨_, _, _, L, F, (batchL mm), rfl, HD.out.mono (by omega), HB.out.1, HB.out.2.1, HB.out.2.2, Spn.of HD.out HI7.out.fin.1, OwnR.rs (ownR_box (ownR_box HO8.out HI7.out.res) (Bk.set HI7.out.res 0 _)) (by have := HB.out.2.1; omega), Bx.low HI7.out.fin.2 hgW⟩
end Go.Proofs.YtjkojbafifbdgaaGreat

/-! SpineIn of the program and of the model in the form in which the laws use them; plain facts of the laws of SpineIn. -/
namespace Go.Proofs.YtjkojbafifbdgaaGreat
open Go.RowKit Go.Shelf

section
variable {L L' : List (List Rw)} {F F' : List (Int × Int)} {r : Bool} {lv fv : Value} {w : World}
theorem implIn_k {b : List Rw} (e1 : inB1 L F b = r) (e2 : inLL L F b = L') (e3 : inF L F b = F') {bv : Value} (h : Spn w lv fv L F) (hv : Rs w bv b) : Calls Tryz.prog 16 #[spv lv fv, bv] w fun e w' => ∃ lv' fv' : Value, e = .returned (.tuple #[spv lv' fv', .bool r]) ∧ Spn w' lv' fv' L' F' ∧ Below w.heap.size w w' :=
  ofSpO e1 e2 e3 (in_lens L F b).1 (in_lens L F b).2 (implSpineIn_any lv fv bv L F b w h hv)
theorem specIn_k {b : List Rw} (e1 : inB1 L F b = r) (e2 : inLL L F b = L') (e3 : inF L F b = F') {bv : Value} (h : Spn w lv fv L F) (hv : Rs w bv b) : Calls Tryz.prog 19 #[spv lv fv, bv] w fun e w' => ∃ lv' fv' : Value, e = .returned (.tuple #[spv lv' fv', .bool r]) ∧ Spn w' lv' fv' L' F' ∧ Below w.heap.size w w' :=
  ofSpO e1 e2 e3 (in_lens L F b).1 (in_lens L F b).2 (specSpineIn_any lv fv bv L F b w h hv)
end
theorem in_parts {L : List (List Rw)} {F : List (Int × Int)} {b : List Rw} (h : inB1 L F b = true) : spokB L F = true ∧ bokB b = true ∧ spokB (inL L F b) F = true ∧ inLL L F b = inL L F b ∧ inF L F b = F := by
  have e1 : inLL L F b = inL L F b := by simp [inLL, h]
  have e2 : inF L F b = F := by simp [inF, h]
  simp only [inB1, Bool.and_eq_true] at h
  exact ⟨h.1.1.1, h.1.1.2, h.2, e1, e2⟩
theorem in_sat {L : List (List Rw)} {F : List (Int × Int)} {b : List Rw} (h : inB1 L F b = true) {X Y : Int} (hX : okB X Y = true) :
    satB (inLL L F b) (inF L F b) X Y = satB L F X Y ∧ (satB L F X Y = true → satL (inLL L F b) (inF L F b) X Y = sumL ltT (satL L F X Y ++ itemsL b X Y)) := by
  obtain ⟨h1, h2, h3, h4, h5⟩ := in_parts h
  rw [h4, h5]
  have hs : satB (inL L F b) F X Y = satB L F X Y := by unfold satB; rw [h3, h1]
  refine ⟨hs, fun hy => ?_⟩
  have hc : askedB F X Y = true := by simp only [satB, Bool.and_eq_true] at hy; exact hy.2
  unfold satL
  rw [hs, if_pos hy, if_pos hy]
  exact in_items h1 h2 h3 hX hc
theorem in_few {L : List (List Rw)} {F : List (Int × Int)} {b : List Rw} (h : inB1 L F b = true) : (inLL L F b).length = min (L.length + 1) 6 ∧ gl (inLL L F b) (min (L.length + 1) 6 - 1) = b ∧ inF L F b = F ∧ L.length ≤ 6 := by
  obtain ⟨h1, h2, h3, h4, h5⟩ := in_parts h
  have h6 := (spok_iff.1 h1).1
  rw [h4]
  have hl := in_len F b h6
  refine ⟨hl, ?_, h5, h6⟩
  rw [← hl]
  unfold inL gl
  rw [List.getD_eq_getElem?_getD, List.length_append]
  simp
end Go.Proofs.YtjkojbafifbdgaaGreat

/-! Items that a spine tells are ok: plain facts. -/
namespace Go.Proofs.YtjkojbafifbdgaaGreat
open Go.RowKit

theorem at_kZ {l : List Rw} (h : rokB l = true) (X Y : Int) : ∀ r ∈ atL l X Y, itK r.1 := fun r hr => by
  unfold atL at hr
  obtain ⟨q, hq, rfl⟩ := List.mem_map.1 hr
  have := rok_at h (List.mem_filter.1 hq).1
  simp only [rwOkB, inB, Bool.and_eq_true, decide_eq_true_eq] at this
  exact ⟨by simp only; omega, by simp only; omega, by simp only; omega, by simp only; omega⟩
theorem items_sokZ (l : List Rw) (x y : Int) : sokB (itemsL l x y) = true := by
  unfold itemsL; split
  · rename_i h
    rw [Bool.and_eq_true] at h
    exact sum_sok (Nat.le_trans (atL_len l x y) (rok_len h.1)) (at_kZ h.1 x y) (by have := atL_abs (l := l) (x := x) (y := y); have := rok_abs h.1; omega)
  · rfl
theorem sat_sok (L : List (List Rw)) (F : List (Int × Int)) (X Y : Int) : sokB (satL L F X Y) = true := by
  unfold satL; split
  · exact items_sokZ _ X Y
  · rfl
theorem one_bok {F : List (Int × Int)} {a b : List Rw} (hF : fokB F = true) (ha : rokB a = true) (hb : rokB b = true) (hl : a.length + b.length ≤ 400) (hs : absum a + absum b ≤ 99999) : bokB (oneL F a b) = true := by
  unfold oneL
  rw [bok_sum]
  have h1 : rokB (sumL ltS (a ++ b)) = true := by
    refine sum_rok (by rw [List.length_append]; exact hl) (fun r hr => ?_) (by rw [absum_append]; exact hs)
    rcases List.mem_append.1 hr with h | h
    · exact rw_parts (rok_at ha h)
    · exact rw_parts (rok_at hb h)
  have h2 := mv_rok hF h1
  refine sum_rok (rok_len h2) (fun r hr => rw_parts (rok_at h2 hr)) ?_
  rw [move_abs]
  have := sum_absR (a ++ b)
  rw [absum_append] at this
  omega
theorem abs_mem {L : List (List Rw)} {i : Nat} (h : i + 2 ≤ L.length) : absum (gl L i) + absum (gl L (i + 1)) ≤ absum L.flatten := by
  rw [flat_split h]
  simp only [absum_append]
  have := absum_pos (L.take i).flatten
  have := absum_pos (L.drop (i + 2)).flatten
  omega
theorem len_mem {L : List (List Rw)} {i : Nat} (h : i + 2 ≤ L.length) : (gl L i).length + (gl L (i + 1)).length ≤ L.flatten.length := by
  rw [flat_split h]
  simp only [List.length_append]
  omega
theorem join_small {L : List (List Rw)} {F : List (Int × Int)} {i : Nat} (h : spokB L F = true) (hi : i + 2 ≤ L.length) (ha : absum L.flatten ≤ 99999) : spokB (joinO L F i) F = true := by
  rw [spok_join h hi]
  obtain ⟨-, h2, h3, h4⟩ := spok_iff.1 h
  have h5 := len_mem hi
  have h6 := abs_mem hi
  exact one_bok h2 (bok_rok (h3 _ (gl_mem (by omega)))) (bok_rok (h3 _ (gl_mem (by omega)))) (by omega) (by omega)
theorem in_empty {L : List (List Rw)} {F : List (Int × Int)} (h : spokB L F = true) (ha : absum L.flatten ≤ 99999) : inB1 L F [] = true := by
  have hr : spokB (roomL L F) F = true ∧ (roomL L F).length ≤ 5 := by
    unfold roomL; split
    · rename_i h6
      have hb := best_lt (L := L) (by omega)
      refine ⟨join_small h hb ha, ?_⟩
      rw [join_len F hb]
      have := (spok_iff.1 h).1
      omega
    · exact ⟨h, by omega⟩
  obtain ⟨h1, h2, h3, h4⟩ := spok_iff.1 hr.1
  have h5 : spokB (inL L F []) F = true := by
    unfold inL
    refine spok_iff.2 ⟨by rw [List.length_append]; simp; omega, h2, fun l hl => ?_, by rw [List.flatten_append, List.length_append]; simpa using h4⟩
    rcases List.mem_append.1 hl with hl | hl
    · exact h3 l hl
    · rw [List.mem_singleton.1 hl]; exact bok_nil
  simp [inB1, h, h5, bok_nil, asked]
theorem ask_empty {L : List (List Rw)} {F : List (Int × Int)} (h : spokB L F = true) (ha : absum L.flatten ≤ 99999) : AskL L F (inLL L F []) (inF L F []) ∧ AskL (inLL L F []) (inF L F []) L F := by
  have hi := in_empty h ha
  have key : ∀ X Y, okB X Y = true → satB (inLL L F []) (inF L F []) X Y = satB L F X Y ∧ (satB L F X Y = true → satL (inLL L F []) (inF L F []) X Y = satL L F X Y) := fun X Y hX => by
    obtain ⟨h1, h2⟩ := in_sat hi hX
    refine ⟨h1, fun hs => ?_⟩
    rw [h2 hs, ← bothS_yes (sat_sok L F X Y) (items_sokZ [] X Y), show itemsL [] X Y = [] by unfold itemsL; split <;> rfl]
    exact bothS_nil (sat_sok L F X Y)
  exact ⟨fun X Y hX hs => by obtain ⟨h1, h2⟩ := key X Y hX; rw [h1] at hs; exact ⟨hs, (h2 hs).symm⟩, fun X Y hX hs => by obtain ⟨h1, h2⟩ := key X Y hX; exact ⟨by rw [h1]; exact hs, h2 hs⟩⟩
end Go.Proofs.YtjkojbafifbdgaaGreat
