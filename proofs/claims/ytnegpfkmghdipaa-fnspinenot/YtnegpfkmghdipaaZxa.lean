/- Drawn spines and a time: the contract. -/
import Derived.Test.YtnegpfkmghdipaaGx2
import Derived.Deep.RegionHeld3
namespace Go.Proofs.Ytnegpfkmghdipaa
open Go.RowKit Go.Shelf

attribute [local go_sem ↓] Go.wp_at_zero Go.wp_at_succ
theorem Kg.setIn {gs : List Nat} {a w : World} (h : Kg gs a w) {p : Addr} (hp : p.block ∈ gs) (u : Value) : Kg gs a (w.setCell p u) :=
  ⟨h.os, h.tape, h.output, by simpa [World.setCell] using h.size, fun k hk hn => by rw [Below.heap_setCell _ _ _ _ (show k ≠ p.block from fun e => hn (e ▸ hp))]; exact h.block k hk hn⟩
theorem Kg.of_bx {gs : List Nat} {g : Nat} {a w : World} (h : Bx g a w) (hg : g ∈ gs) : Kg gs a w :=
  ⟨h.os, h.tape, h.output, h.size, fun k hk hn => h.block k hk (fun e => hn (e ▸ hg))⟩
theorem Bk.kg {gs : List Nat} {w w' : World} {k : Nat} {c : Array Value} {t : TypeId} (h : Bk w k c t) (hk : Kg gs w w') (hn : k ∉ gs) : Bk w' k c t := by
  unfold Bk; rw [hk.block k h.lt hn]; exact h
theorem cell_kg {gs : List Nat} {w w' : World} {q o : Nat} {u : Value} (hc : w.cell? ⟨q, o, none⟩ = some u) (hk : Kg gs w w') (hn : q ∉ gs) : w'.cell? ⟨q, o, none⟩ = some u := by
  have hlt : q < w.heap.size := lt_of_cell hc
  unfold World.cell? at hc ⊢
  rw [hk.block q hlt hn]
  exact hc
theorem SpO.low {w : World} {M q i : Nat} {lv fv u : Value} {L : List (List Rw)} {F : List (Int × Int)} (h : SpO w M lv fv L F) (hq : q < M) : SpO (w.setCell ⟨q, i, none⟩ u) M lv fv L F :=
  h.mono fun k hk => Below.heap_setCell _ _ _ _ (show k ≠ q by omega)
section
variable {B g : Nat} {v : Value} {n : Nat} {w V : World} {b M : Nat} {p : Int} {lv fv : Value} {L : List (List Rw)} {F : List (Int × Int)} {T : TypeId} {u0 u1 : Value}
theorem at_fin1 (h : SpI B g v n w V w.heap.size b M p lv fv L F) (hT : Bk V (w.heap.size + 1) #[u0, u1] T) (hTR : w.heap.size + 1 ≠ w.heap.size) (hTM : w.heap.size + 1 < M) (X Y : Value) :
    SpO ((((V.setCell ⟨w.heap.size, 0, none⟩ lv).setCell ⟨w.heap.size, 1, none⟩ fv).setCell ⟨w.heap.size + 1, 0, none⟩ X).setCell ⟨w.heap.size + 1, 1, none⟩ Y) M lv fv L F ∧ Bx g w ((((V.setCell ⟨w.heap.size, 0, none⟩ lv).setCell ⟨w.heap.size, 1, none⟩ fv).setCell ⟨w.heap.size + 1, 0, none⟩ X).setCell ⟨w.heap.size + 1, 1, none⟩ Y) ∧
      ((((V.setCell ⟨w.heap.size, 0, none⟩ lv).setCell ⟨w.heap.size, 1, none⟩ fv).setCell ⟨w.heap.size + 1, 0, none⟩ X).setCell ⟨w.heap.size + 1, 1, none⟩ Y).cell? ⟨w.heap.size, 0, none⟩ = some lv ∧ ((((V.setCell ⟨w.heap.size, 0, none⟩ lv).setCell ⟨w.heap.size, 1, none⟩ fv).setCell ⟨w.heap.size + 1, 0, none⟩ X).setCell ⟨w.heap.size + 1, 1, none⟩ Y).cell? ⟨w.heap.size, 1, none⟩ = some fv ∧
      ((((V.setCell ⟨w.heap.size, 0, none⟩ lv).setCell ⟨w.heap.size, 1, none⟩ fv).setCell ⟨w.heap.size + 1, 0, none⟩ X).setCell ⟨w.heap.size + 1, 1, none⟩ Y).cell? ⟨w.heap.size + 1, 0, none⟩ = some X ∧ ((((V.setCell ⟨w.heap.size, 0, none⟩ lv).setCell ⟨w.heap.size, 1, none⟩ fv).setCell ⟨w.heap.size + 1, 0, none⟩ X).setCell ⟨w.heap.size + 1, 1, none⟩ Y).cell? ⟨w.heap.size + 1, 1, none⟩ = some Y := by
  have hRT : w.heap.size ≠ w.heap.size + 1 := fun e => hTR e.symm
  have b1 := ((h.res.set01 lv fv).apart (p := ⟨w.heap.size + 1, 0, none⟩) hRT X).apart (p := ⟨w.heap.size + 1, 1, none⟩) hRT Y
  have b2 := ((hT.apart (p := ⟨w.heap.size, 0, none⟩) hTR lv).apart (p := ⟨w.heap.size, 1, none⟩) hTR fv).set01 X Y
  exact ⟨(((h.own.low (by omega)).low (by omega)).low hTM).low hTM, (((h.bx.setN (q := ⟨w.heap.size, 0, none⟩) (Nat.le_refl _) _).setN (q := ⟨w.heap.size, 1, none⟩) (Nat.le_refl _) _).setN (q := ⟨w.heap.size + 1, 0, none⟩) (Nat.le_succ _) _).setN (q := ⟨w.heap.size + 1, 1, none⟩) (Nat.le_succ _) _, b1.two.1, b1.two.2.1, b2.two.1, b2.two.2.1⟩
theorem at_fin2 (h : SpI B g v n w V w.heap.size b M p lv fv L F) (hT : Bk V (w.heap.size + 1) #[u0, u1] T) (hTR : w.heap.size + 1 ≠ w.heap.size) (hTM : w.heap.size + 1 < M) (X Y : Value) :
    SpO ((((V.setCell ⟨w.heap.size + 1, 0, none⟩ X).setCell ⟨w.heap.size + 1, 1, none⟩ Y).setCell ⟨w.heap.size, 0, none⟩ lv).setCell ⟨w.heap.size, 1, none⟩ fv) M lv fv L F ∧ Bx g w ((((V.setCell ⟨w.heap.size + 1, 0, none⟩ X).setCell ⟨w.heap.size + 1, 1, none⟩ Y).setCell ⟨w.heap.size, 0, none⟩ lv).setCell ⟨w.heap.size, 1, none⟩ fv) ∧
      ((((V.setCell ⟨w.heap.size + 1, 0, none⟩ X).setCell ⟨w.heap.size + 1, 1, none⟩ Y).setCell ⟨w.heap.size, 0, none⟩ lv).setCell ⟨w.heap.size, 1, none⟩ fv).cell? ⟨w.heap.size, 0, none⟩ = some lv ∧ ((((V.setCell ⟨w.heap.size + 1, 0, none⟩ X).setCell ⟨w.heap.size + 1, 1, none⟩ Y).setCell ⟨w.heap.size, 0, none⟩ lv).setCell ⟨w.heap.size, 1, none⟩ fv).cell? ⟨w.heap.size, 1, none⟩ = some fv ∧
      ((((V.setCell ⟨w.heap.size + 1, 0, none⟩ X).setCell ⟨w.heap.size + 1, 1, none⟩ Y).setCell ⟨w.heap.size, 0, none⟩ lv).setCell ⟨w.heap.size, 1, none⟩ fv).cell? ⟨w.heap.size + 1, 0, none⟩ = some X ∧ ((((V.setCell ⟨w.heap.size + 1, 0, none⟩ X).setCell ⟨w.heap.size + 1, 1, none⟩ Y).setCell ⟨w.heap.size, 0, none⟩ lv).setCell ⟨w.heap.size, 1, none⟩ fv).cell? ⟨w.heap.size + 1, 1, none⟩ = some Y := by
  have hRT : w.heap.size ≠ w.heap.size + 1 := fun e => hTR e.symm
  have b1 := ((h.res.apart (p := ⟨w.heap.size + 1, 0, none⟩) hRT X).apart (p := ⟨w.heap.size + 1, 1, none⟩) hRT Y).set01 lv fv
  have b2 := ((hT.set01 X Y).apart (p := ⟨w.heap.size, 0, none⟩) hTR lv).apart (p := ⟨w.heap.size, 1, none⟩) hTR fv
  exact ⟨(((h.own.low hTM).low hTM).low (by omega)).low (by omega), (((h.bx.setN (q := ⟨w.heap.size + 1, 0, none⟩) (Nat.le_succ _) _).setN (q := ⟨w.heap.size + 1, 1, none⟩) (Nat.le_succ _) _).setN (q := ⟨w.heap.size, 0, none⟩) (Nat.le_refl _) _).setN (q := ⟨w.heap.size, 1, none⟩) (Nat.le_refl _) _, b1.two.1, b1.two.2.1, b2.two.1, b2.two.2.1⟩
end
set_option maxRecDepth 100000 in
set_option maxHeartbeats 8000000 in
theorem drawSpineAt_any (a : Option Addr) (len cap : Nat) (w : World) (h : Src w (.slice a len cap) len) :
    Calls Try.prog 19 #[.slice a len cap] w fun e w' => ∃ (lv fv : Value) (L : List (List Rw)) (F : List (Int × Int)) (X Y : Int), e = .returned (.tuple #[spv lv fv, tv X Y]) ∧ DSp 93 L F ∧ Spn w' lv fv L F ∧ Below w.heap.size w w' := by
  have hb0 : Below w.heap.size w ((w.alloc (.cells #[.slice none 0 0, .slice none 0 0] 26)).alloc (.cells #[.int .i64 0, .int .i64 0] 37)) := bAlloc (bAlloc (Below.refl _ _) _) _
  have bR : Bk ((w.alloc (.cells #[.slice none 0 0, .slice none 0 0] 26)).alloc (.cells #[.int .i64 0, .int .i64 0] 37)) w.heap.size #[.slice none 0 0, .slice none 0 0] 26 := (Bk.new _ _ rfl).alloc _
  have bT : Bk ((w.alloc (.cells #[.slice none 0 0, .slice none 0 0] 26)).alloc (.cells #[.int .i64 0, .int .i64 0] 37)) (w.heap.size + 1) #[.int .i64 0, .int .i64 0] 37 := Bk.new (w := w.alloc _) _ _ (by simp)
  have hgW : w.heap.size ≤ ((w.alloc (.cells #[.slice none 0 0, .slice none 0 0] 26)).alloc (.cells #[.int .i64 0, .int .i64 0] 37)).heap.size := by simp; omega
  have HW2 : Hid (((w.alloc (.cells #[.slice none 0 0, .slice none 0 0] 26)).alloc (.cells #[.int .i64 0, .int .i64 0] 37)).heap.size = w.heap.size + 2) := by show _ = _; simp
  go_enter Try.func19, Try.ntmps19
  go_wp2_with fail
  generalize hW0 : ((w.alloc (.cells #[.slice none 0 0, .slice none 0 0] 26)).alloc (.cells #[.int .i64 0, .int .i64 0] 37)) = W0 at *
  refine (l6Open_any _ _ _ _ (h.keep hb0)).mono ?_
  rintro e w1 ⟨rfl, ⟨v, n, hr1⟩, hb1⟩
  have h1 := hr1.blk.lt
  clear h hW0
  go_wp2_with fail
  refine (l71Spine_any hr1 (by omega) (by omega)).mono ?_
  rintro e w2 ⟨lv, fv, L, F, rfl, hd, hs2, ⟨p2, hp2, hp2', hr2⟩, hx2⟩
  obtain ⟨av, cv, af, cf, e1, e2⟩ := hs2.open
  subst e1 e2
  have HD : Hid (DSp 93 L F) := hd
  have hF9 := hd.2.1
  have hz2 := hx2.size
  have HI := (show Hid (SpI W0.heap.size W0.heap.size v n w (w2.alloc (.cells #[.slice av L.length cv, .slice af F.length cf] 26)) w.heap.size w2.heap.size w1.heap.size p2 (.slice av L.length cv) (.slice af F.length cf) L F) from SpI.make bR hb0 hb1 h1 hs2 hr2 hx2)
  have HTA : Hid (Bk (w2.alloc (.cells #[.slice av L.length cv, .slice af F.length cf] 26)) (w.heap.size + 1) #[.int .i64 0, .int .i64 0] 37) := ((bT.keep hb1).keepx hx2 (by have := HW2.out; omega)).alloc _
  have hTR : w.heap.size + 1 ≠ w.heap.size := by omega
  have hRT : w.heap.size ≠ w.heap.size + 1 := by omega
  have hTM : w.heap.size + 1 < w1.heap.size := by have := HW2.out; omega
  have hw12 : w1.heap.size ≤ w2.heap.size := hz2
  clear hs2 hr2 hx2 hb1 hb0 hr1 bR bT hd
  go_wp2_with fail
  generalize hWA : (w2.alloc (.cells #[.slice av L.length cv, .slice af F.length cf] 26)) = wA at *
  refine (l71Odd_any HI.out.rd (by omega) (by omega)).mono ?_
  rintro e w3 ⟨x, y, rfl, _, _, _, _, ⟨p3, hp3, hp3', hr3⟩, hx3⟩
  have hzA : wA.heap.size = w2.heap.size + 1 := by rw [← hWA]; simp
  have HZ3 : Hid (w2.heap.size < w3.heap.size) := by have := hx3.size; show _ < _; omega
  have HI4 := (show Hid (SpI W0.heap.size W0.heap.size v n w (w3.alloc (.cells #[.int .i64 x, .int .i64 y] 37)) w.heap.size w2.heap.size w1.heap.size p3 (.slice av L.length cv) (.slice af F.length cf) L F) from (HI.out.keepx hx3 hr3).keep (bAlloc (Below.refl _ _) _))
  have HT4 : Hid (Bk (w3.alloc (.cells #[.int .i64 x, .int .i64 y] 37)) (w.heap.size + 1) #[.int .i64 0, .int .i64 0] 37) := (Bk.keepx HTA.out hx3 (by have := HW2.out; omega)).alloc _
  have HB4 : Hid (Bk (w3.alloc (.cells #[.int .i64 x, .int .i64 y] 37)) w3.heap.size #[.int .i64 x, .int .i64 y] 37) := Bk.new _ _ rfl
  clear HI HTA hr3 hx3 hWA hzA
  go_wp2_with fail
  generalize hWB : (w3.alloc (.cells #[.int .i64 x, .int .i64 y] 37)) = wB at *
  refine (pick_any HI4.out.rd (by omega) (by omega) _ (by omega) (by omega)).mono ?_
  rintro e w5 ⟨k, rfl, hk0, hk1, hr5, hx5⟩
  have HI5 := (show Hid (SpI W0.heap.size W0.heap.size v n w w5 w.heap.size w2.heap.size w1.heap.size (p3 + 1) (.slice av L.length cv) (.slice af F.length cf) L F) from HI4.out.keepx hx5 hr5)
  have HT5 : Hid (Bk w5 (w.heap.size + 1) #[.int .i64 0, .int .i64 0] 37) := Bk.keepx HT4.out hx5 (by have := HW2.out; omega)
  have HTB : Hid (Bk w5 w3.heap.size #[.int .i64 x, .int .i64 y] 37) := Bk.keepx HB4.out hx5 (by have := HW2.out; have := HZ3.out; omega)
  have m1 : w3.heap.size ≠ w.heap.size := by have := HZ3.out; have := HW2.out; omega
  have m2 : w3.heap.size ≠ w.heap.size + 1 := by have := HZ3.out; have := HW2.out; omega
  have m3 : w2.heap.size ≠ w.heap.size := by have := HW2.out; omega
  have m4 : w2.heap.size ≠ w.heap.size + 1 := by have := HW2.out; omega
  have hb_ : w2.heap.size ∉ [W0.heap.size, w.heap.size, w.heap.size + 1] := by have := HW2.out; simp; omega
  have ht_ : w3.heap.size ∉ [W0.heap.size, w.heap.size, w.heap.size + 1] := by have := HW2.out; have := HZ3.out; simp; omega
  obtain ⟨y0, y1, _, _⟩ := HI5.out.box.two
  clear HI4 HT4 HB4 hr5 hx5 hWB
  by_cases hk : k = 0
  · subst hk
    have HX := (show Hid (∀ V, Kg [W0.heap.size, w.heap.size, w.heap.size + 1] w5 V → V.cell? ⟨w2.heap.size, 0, none⟩ = some (.slice av L.length cv) ∧ V.cell? ⟨w2.heap.size, 1, none⟩ = some (.slice af F.length cf) ∧ V.cell? ⟨w3.heap.size, 0, none⟩ = some (.int .i64 x) ∧ V.cell? ⟨w3.heap.size, 1, none⟩ = some (.int .i64 y)) from fun V hV => ⟨(Bk.kg HI5.out.box hV hb_).two.1, (Bk.kg HI5.out.box hV hb_).two.2.1, (Bk.kg HTB.out hV ht_).two.1, (Bk.kg HTB.out hV ht_).two.2.1⟩)
    have k0 : Kg [W0.heap.size, w.heap.size, w.heap.size + 1] w5 w5.drew := Kg.of_below (Below.refl _ _).drew
    have HID := (show Hid (SpI W0.heap.size W0.heap.size v n w w5.drew w.heap.size w2.heap.size w1.heap.size (p3 + 1) (.slice av L.length cv) (.slice af F.length cf) L F) from HI5.out.keep (Below.refl _ _).drew)
    have HTD : Hid (Bk w5.drew (w.heap.size + 1) #[.int .i64 0, .int .i64 0] 37) := Bk.drew HT5.out
    obtain ⟨q0, q1, q2, q3⟩ := HX.out _ k0
    obtain ⟨q4, q5, _, _⟩ := Bk.two HTB.out
    obtain ⟨r0, r1, t0, t1⟩ := HI5.out.res.two
    obtain ⟨r2, r3, t2, t3⟩ := bk_set0 HI5.out.res (.slice av L.length cv)
    obtain ⟨r4, r5, t4, t5⟩ := (Bk.apart (p := ⟨w.heap.size, 1, none⟩) (Bk.apart (p := ⟨w.heap.size, 0, none⟩) HT5.out hTR (.slice av L.length cv)) hTR (.slice af F.length cf)).two
    obtain ⟨r6, r7, t6, t7⟩ := bk_set0 (Bk.apart (p := ⟨w.heap.size, 1, none⟩) (Bk.apart (p := ⟨w.heap.size, 0, none⟩) HT5.out hTR (.slice av L.length cv)) hTR (.slice af F.length cf)) (.int .i64 x)
    obtain ⟨s0, s1, v0, v1⟩ := Bk.two HT5.out
    obtain ⟨s2, s3, v2, v3⟩ := bk_set0 HT5.out (.int .i64 x)
    obtain ⟨s4, s5, v4, v5⟩ := (Bk.apart (p := ⟨w.heap.size + 1, 1, none⟩) (Bk.apart (p := ⟨w.heap.size + 1, 0, none⟩) HI5.out.res hRT (.int .i64 x)) hRT (.int .i64 y)).two
    obtain ⟨s6, s7, v6, v7⟩ := bk_set0 (Bk.apart (p := ⟨w.heap.size + 1, 1, none⟩) (Bk.apart (p := ⟨w.heap.size + 1, 0, none⟩) HI5.out.res hRT (.int .i64 x)) hRT (.int .i64 y)) (.slice av L.length cv)
    have HE1 := (show Hid _ from at_fin1 HI5.out HT5.out hTR hTM (.int .i64 x) (.int .i64 y))
    have HE2 := (show Hid _ from at_fin2 HI5.out HT5.out hTR hTM (.int .i64 x) (.int .i64 y))
    obtain ⟨c0, c1, c2, c3⟩ := HE1.out.2.2
    go_wp2_with fail
    go_region
    all_goals
      go_wp2_with fail
      refine bodyPost_ret (by simp [results, Try.results19, go_sem, c0, c1, c2, c3]; try rfl) rfl ?_
      first
        | exact ⟨_, _, L, F, x, y, rfl, HD.out, DSp.spn HD.out HE1.out.1, Bx.low HE1.out.2.1 hgW⟩
        | exact ⟨_, _, L, F, x, y, rfl, HD.out, DSp.spn HD.out HE2.out.1, Bx.low HE2.out.2.1 hgW⟩
        | exact ⟨_, _, L, F, x, y, rfl, HD.out, DSp.spn HD.out (HE1.out.1.keep (Below.refl _ _).drew), Bx.low HE1.out.2.1.drew hgW⟩
        | exact ⟨_, _, L, F, x, y, rfl, HD.out, DSp.spn HD.out (HE2.out.1.keep (Below.refl _ _).drew), Bx.low HE2.out.2.1.drew hgW⟩
  have hkp : decide (0 < k) = true := by simp; omega
  have hkq : 0 < k := by omega
  by_cases hF0 : F.length = 0
  · have hF1 : decide (0 < F.length) = false := by simp [hF0]
    clear hF0
    have HX := (show Hid (∀ V, Kg [W0.heap.size, w.heap.size, w.heap.size + 1] w5 V → V.cell? ⟨w2.heap.size, 0, none⟩ = some (.slice av L.length cv) ∧ V.cell? ⟨w2.heap.size, 1, none⟩ = some (.slice af F.length cf) ∧ V.cell? ⟨w3.heap.size, 0, none⟩ = some (.int .i64 x) ∧ V.cell? ⟨w3.heap.size, 1, none⟩ = some (.int .i64 y)) from fun V hV => ⟨(Bk.kg HI5.out.box hV hb_).two.1, (Bk.kg HI5.out.box hV hb_).two.2.1, (Bk.kg HTB.out hV ht_).two.1, (Bk.kg HTB.out hV ht_).two.2.1⟩)
    have k0 : Kg [W0.heap.size, w.heap.size, w.heap.size + 1] w5 w5.drew := Kg.of_below (Below.refl _ _).drew
    have HID := (show Hid (SpI W0.heap.size W0.heap.size v n w w5.drew w.heap.size w2.heap.size w1.heap.size (p3 + 1) (.slice av L.length cv) (.slice af F.length cf) L F) from HI5.out.keep (Below.refl _ _).drew)
    have HTD : Hid (Bk w5.drew (w.heap.size + 1) #[.int .i64 0, .int .i64 0] 37) := Bk.drew HT5.out
    obtain ⟨q0, q1, q2, q3⟩ := HX.out _ k0
    obtain ⟨q4, q5, _, _⟩ := Bk.two HTB.out
    obtain ⟨r0, r1, t0, t1⟩ := HI5.out.res.two
    obtain ⟨r2, r3, t2, t3⟩ := bk_set0 HI5.out.res (.slice av L.length cv)
    obtain ⟨r4, r5, t4, t5⟩ := (Bk.apart (p := ⟨w.heap.size, 1, none⟩) (Bk.apart (p := ⟨w.heap.size, 0, none⟩) HT5.out hTR (.slice av L.length cv)) hTR (.slice af F.length cf)).two
    obtain ⟨r6, r7, t6, t7⟩ := bk_set0 (Bk.apart (p := ⟨w.heap.size, 1, none⟩) (Bk.apart (p := ⟨w.heap.size, 0, none⟩) HT5.out hTR (.slice av L.length cv)) hTR (.slice af F.length cf)) (.int .i64 x)
    obtain ⟨s0, s1, v0, v1⟩ := Bk.two HT5.out
    obtain ⟨s2, s3, v2, v3⟩ := bk_set0 HT5.out (.int .i64 x)
    obtain ⟨s4, s5, v4, v5⟩ := (Bk.apart (p := ⟨w.heap.size + 1, 1, none⟩) (Bk.apart (p := ⟨w.heap.size + 1, 0, none⟩) HI5.out.res hRT (.int .i64 x)) hRT (.int .i64 y)).two
    obtain ⟨s6, s7, v6, v7⟩ := bk_set0 (Bk.apart (p := ⟨w.heap.size + 1, 1, none⟩) (Bk.apart (p := ⟨w.heap.size + 1, 0, none⟩) HI5.out.res hRT (.int .i64 x)) hRT (.int .i64 y)) (.slice av L.length cv)
    have HE1 := (show Hid _ from at_fin1 HI5.out HT5.out hTR hTM (.int .i64 x) (.int .i64 y))
    have HE2 := (show Hid _ from at_fin2 HI5.out HT5.out hTR hTM (.int .i64 x) (.int .i64 y))
    obtain ⟨c0, c1, c2, c3⟩ := HE1.out.2.2
    go_wp2_with fail
    go_region
    all_goals
      go_wp2_with fail
      refine bodyPost_ret (by simp [results, Try.results19, go_sem, c0, c1, c2, c3]; try rfl) rfl ?_
      first
        | exact ⟨_, _, L, F, x, y, rfl, HD.out, DSp.spn HD.out HE1.out.1, Bx.low HE1.out.2.1 hgW⟩
        | exact ⟨_, _, L, F, x, y, rfl, HD.out, DSp.spn HD.out HE2.out.1, Bx.low HE2.out.2.1 hgW⟩
        | exact ⟨_, _, L, F, x, y, rfl, HD.out, DSp.spn HD.out (HE1.out.1.keep (Below.refl _ _).drew), Bx.low HE1.out.2.1.drew hgW⟩
        | exact ⟨_, _, L, F, x, y, rfl, HD.out, DSp.spn HD.out (HE2.out.1.keep (Below.refl _ _).drew), Bx.low HE2.out.2.1.drew hgW⟩
  have hF1 : decide (0 < F.length) = true := by simp; omega
  have hF2 : (0 : Int) < (F.length : Int) := by omega
  obtain ⟨aF', cF', eF, hcF, hmF, hnF, hfc⟩ := (DSp.spn HD.out HI5.out.own).2
  obtain ⟨eF1, -, eF2⟩ := Value.slice.inj eF
  clear eF
  subst eF1 eF2
  obtain ⟨gf, off, eF3, hgf, -, -⟩ := hfc 0 (by omega)
  subst eF3
  have hgf_ : gf ∉ [W0.heap.size, w.heap.size, w.heap.size + 1] := by
    obtain ⟨_, _, _, ho⟩ := HI5.out.own
    have := ownK_base ho gf rfl
    have := HW2.out
    simp; omega
  have HFC : Hid (∀ (V : World), Kg [W0.heap.size, w.heap.size, w.heap.size + 1] w5 V → (∀ i : Nat, i < F.length → V.cell? ⟨gf, off + i * 2, none⟩ = some (.int .i64 (tA F i))) ∧ (∀ i : Nat, i < F.length → V.cell? ⟨gf, off + i * 2 + 1, none⟩ = some (.int .i64 (tB F i)))) := fun V hV => by
    refine ⟨fun i hi => ?_, fun i hi => ?_⟩
    all_goals
      obtain ⟨gf2, off2, e, hg2, f0, f1⟩ := hfc i hi
      cases e
    · exact cell_kg f0 hV hgf_
    · exact cell_kg f1 hV hgf_
  clear hfc
  have HX := (show Hid (∀ V, Kg [W0.heap.size, w.heap.size, w.heap.size + 1] w5 V → V.cell? ⟨w2.heap.size, 0, none⟩ = some (.slice av L.length cv) ∧ V.cell? ⟨w2.heap.size, 1, none⟩ = some (.slice (some ⟨gf, off, none⟩) F.length cf) ∧ V.cell? ⟨w3.heap.size, 0, none⟩ = some (.int .i64 x) ∧ V.cell? ⟨w3.heap.size, 1, none⟩ = some (.int .i64 y)) from fun V hV => ⟨(Bk.kg HI5.out.box hV hb_).two.1, (Bk.kg HI5.out.box hV hb_).two.2.1, (Bk.kg HTB.out hV ht_).two.1, (Bk.kg HTB.out hV ht_).two.2.1⟩)
  have k0 : Kg [W0.heap.size, w.heap.size, w.heap.size + 1] w5 w5.drew := Kg.of_below (Below.refl _ _).drew
  have HID := (show Hid (SpI W0.heap.size W0.heap.size v n w w5.drew w.heap.size w2.heap.size w1.heap.size (p3 + 1) (.slice av L.length cv) (.slice (some ⟨gf, off, none⟩) F.length cf) L F) from HI5.out.keep (Below.refl _ _).drew)
  have HTD : Hid (Bk w5.drew (w.heap.size + 1) #[.int .i64 0, .int .i64 0] 37) := Bk.drew HT5.out
  have HXF := (show Hid (∀ V, Kg [W0.heap.size, w.heap.size, w.heap.size + 1] w5 V → V.cell? ⟨w2.heap.size, 0, none⟩ = some (.slice av L.length cv) ∧ V.cell? ⟨w2.heap.size, 1, none⟩ = some (.slice (some ⟨gf, off, none⟩) F.length cf) ∧ V.cell? ⟨w3.heap.size, 0, none⟩ = some (.int .i64 x) ∧ V.cell? ⟨w3.heap.size, 1, none⟩ = some (.int .i64 y) ∧ (∀ i : Nat, i < F.length → V.cell? ⟨gf, off + i * 2, none⟩ = some (.int .i64 (tA F i))) ∧ (∀ i : Nat, i < F.length → V.cell? ⟨gf, off + i * 2 + 1, none⟩ = some (.int .i64 (tB F i)))) from fun V hV => ⟨(HX.out V hV).1, (HX.out V hV).2.1, (HX.out V hV).2.2.1, (HX.out V hV).2.2.2, HFC.out V hV⟩)
  have hgm : W0.heap.size ∈ [W0.heap.size, w.heap.size, w.heap.size + 1] := by simp
  have hgt : w.heap.size + 1 ≠ W0.heap.size := by have := HW2.out; omega
  have NP0 : 0 ≤ p3 + 1 := by omega
  have NP1 : p3 + 1 ≤ 1000000 := by omega
  have N1 : (1 : Int) ≤ (F.length : Int) := by omega
  have N2 : (F.length : Int) ≤ 1000 := by omega
  obtain ⟨q0, q1, q2, q3⟩ := HX.out _ k0
  go_wp2_with fail
  go_region_held3 (fun V => V.cell? ⟨w2.heap.size, 0, none⟩ = some (.slice av L.length cv) ∧ V.cell? ⟨w2.heap.size, 1, none⟩ = some (.slice (some ⟨gf, off, none⟩) F.length cf) ∧ V.cell? ⟨w3.heap.size, 0, none⟩ = some (.int .i64 x) ∧ V.cell? ⟨w3.heap.size, 1, none⟩ = some (.int .i64 y) ∧ (∀ i : Nat, i < F.length → V.cell? ⟨gf, off + i * 2, none⟩ = some (.int .i64 (tA F i))) ∧ (∀ i : Nat, i < F.length → V.cell? ⟨gf, off + i * 2 + 1, none⟩ = some (.int .i64 (tB F i))))
    (exact HXF.out _ (by repeat' (first | (with_reducible assumption) | (with_reducible refine Kg.setIn ?_ ?_ _) | (simp; done))))
    (first
      | (go_at_call 27; (with_reducible show Calls _ _ _ w5.drew _); refine (pick_any HID.out.rd NP0 NP1 (F.length : Int) N1 N2).mono ?_; rintro e w6 ⟨kI, rfl, hq0, hq1, hr6, hx6⟩; obtain ⟨kk, rfl⟩ := Int.eq_ofNat_of_zero_le hq0; have k6 : Kg [W0.heap.size, w.heap.size, w.heap.size + 1] w5 w6 := k0.trans (Kg.of_bx hx6 hgm); have HI6 := (show Hid _ from HID.out.keepx hx6 hr6); have HT6 := (show Hid _ from Bk.keepx HTD.out hx6 hgt); have hkk : kk < F.length := (by omega); obtain ⟨z0, z1, z2, z3⟩ := HX.out _ k6)
      | (go_at_call 52; refine (specJoin_any x y (tA F kk) (tB F kk) _).mono ?_; rintro e w7 ⟨rfl, hb7⟩; have k7 : Kg [W0.heap.size, w.heap.size, w.heap.size + 1] w5 w7 := k6.trans (Kg.of_below hb7); have HI7 := (show Hid (SpI W0.heap.size W0.heap.size v n w w7 w.heap.size w2.heap.size w1.heap.size (p3 + 1 + 1) (.slice av L.length cv) (.slice (some ⟨gf, off, none⟩) F.length cf) L F) from HI6.out.keep hb7); have HT7 : Hid (Bk w7 (w.heap.size + 1) #[.int .i64 0, .int .i64 0] 37) := Bk.keep HT6.out hb7; obtain ⟨r0, r1, t0, t1⟩ := HI7.out.res.two; obtain ⟨r2, r3, t2, t3⟩ := bk_set0 HI7.out.res (.slice av L.length cv); obtain ⟨r4, r5, t4, t5⟩ := (Bk.apart (p := ⟨w.heap.size, 1, none⟩) (Bk.apart (p := ⟨w.heap.size, 0, none⟩) HT7.out hTR (.slice av L.length cv)) hTR (.slice (some ⟨gf, off, none⟩) F.length cf)).two; obtain ⟨r6, r7, t6, t7⟩ := bk_set0 (Bk.apart (p := ⟨w.heap.size, 1, none⟩) (Bk.apart (p := ⟨w.heap.size, 0, none⟩) HT7.out hTR (.slice av L.length cv)) hTR (.slice (some ⟨gf, off, none⟩) F.length cf)) (.int .i64 (jnA x y (tA F kk) (tB F kk))); obtain ⟨s0, s1, v0, v1⟩ := Bk.two HT7.out; obtain ⟨s2, s3, v2, v3⟩ := bk_set0 HT7.out (.int .i64 (jnA x y (tA F kk) (tB F kk))); obtain ⟨s4, s5, v4, v5⟩ := (Bk.apart (p := ⟨w.heap.size + 1, 1, none⟩) (Bk.apart (p := ⟨w.heap.size + 1, 0, none⟩) HI7.out.res hRT (.int .i64 (jnA x y (tA F kk) (tB F kk)))) hRT (.int .i64 (jnB x y (tA F kk) (tB F kk)))).two; obtain ⟨s6, s7, v6, v7⟩ := bk_set0 (Bk.apart (p := ⟨w.heap.size + 1, 1, none⟩) (Bk.apart (p := ⟨w.heap.size + 1, 0, none⟩) HI7.out.res hRT (.int .i64 (jnA x y (tA F kk) (tB F kk)))) hRT (.int .i64 (jnB x y (tA F kk) (tB F kk)))) (.slice av L.length cv); have HE1 := (show Hid _ from at_fin1 HI7.out HT7.out hTR hTM (.int .i64 (jnA x y (tA F kk) (tB F kk))) (.int .i64 (jnB x y (tA F kk) (tB F kk)))); have HE2 := (show Hid _ from at_fin2 HI7.out HT7.out hTR hTM (.int .i64 (jnA x y (tA F kk) (tB F kk))) (.int .i64 (jnB x y (tA F kk) (tB F kk)))); obtain ⟨c0, c1, c2, c3⟩ := HE1.out.2.2))
  all_goals
    go_wp2_with fail
    refine bodyPost_ret (by simp [results, Try.results19, go_sem, c0, c1, c2, c3]; try rfl) rfl ?_
    first
      | exact ⟨_, _, L, F, (jnA x y (tA F kk) (tB F kk)), (jnB x y (tA F kk) (tB F kk)), rfl, HD.out, DSp.spn HD.out HE1.out.1, Bx.low HE1.out.2.1 hgW⟩
      | exact ⟨_, _, L, F, (jnA x y (tA F kk) (tB F kk)), (jnB x y (tA F kk) (tB F kk)), rfl, HD.out, DSp.spn HD.out HE2.out.1, Bx.low HE2.out.2.1 hgW⟩
      | exact ⟨_, _, L, F, (jnA x y (tA F kk) (tB F kk)), (jnB x y (tA F kk) (tB F kk)), rfl, HD.out, DSp.spn HD.out (HE1.out.1.keep (Below.refl _ _).drew), Bx.low HE1.out.2.1.drew hgW⟩
      | exact ⟨_, _, L, F, (jnA x y (tA F kk) (tB F kk)), (jnB x y (tA F kk) (tB F kk)), rfl, HD.out, DSp.spn HD.out (HE2.out.1.keep (Below.refl _ _).drew), Bx.low HE2.out.2.1.drew hgW⟩
end Go.Proofs.Ytnegpfkmghdipaa
