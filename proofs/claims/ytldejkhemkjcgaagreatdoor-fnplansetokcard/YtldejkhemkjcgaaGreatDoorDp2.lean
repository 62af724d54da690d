import Derived.Test.YtldejkhemkjcgaaGreatDoorGpb
import Derived.Test.YtldejkhemkjcgaaGreatDoorGlk
import Derived.Test.YtldejkhemkjcgaaGreatDoorGd4
namespace Go.Proofs.YtldejkhemkjcgaaGreatDoor
open Go.RowKit
theorem LyI.mk1 {w : World} {g off cap : Nat} {v : Value} {x : List It} (c0 : w.cell? ⟨g, off, none⟩ = some v) (R : Is w v x) (h1 : 1 ≤ cap) (h2 : cap ≤ maxLen) : LyI w (.slice (some ⟨g, off, none⟩) 1 cap) [x] := by
  refine ⟨[v], ⟨some ⟨g, off, none⟩, cap, rfl, h1, h2, by simp, fun i u hi => ?_⟩, rfl, fun i u l h1 h2 => ?_⟩
  · have : i = 0 := by have := (List.getElem?_eq_some_iff.1 hi).1; simp at this; exact this
    subst this
    cases hi
    exact ⟨g, off, rfl, lt_of_cell c0, fun j hj => by obtain rfl : j = 0 := by simpa using hj
                                                      simpa using c0⟩
  · have : i = 0 := by have := (List.getElem?_eq_some_iff.1 h1).1; simp at this; exact this
    subst this
    cases h1; cases h2; exact R
theorem LyI.mk2 {w : World} {g off cap : Nat} {v v' : Value} {x y : List It} (c0 : w.cell? ⟨g, off, none⟩ = some v) (c1 : w.cell? ⟨g, off + 1, none⟩ = some v') (R : Is w v x) (R' : Is w v' y) (h1 : 2 ≤ cap) (h2 : cap ≤ maxLen) : LyI w (.slice (some ⟨g, off, none⟩) 2 cap) [x, y] := by
  have two : ∀ {α : Type} {i : Nat} {p q r : α}, [p, q][i]? = some r → (i = 0 ∧ p = r) ∨ (i = 1 ∧ q = r) := by
    intro α i p q r h
    match i, h with
    | 0, h => exact .inl ⟨rfl, by simpa using h⟩
    | 1, h => exact .inr ⟨rfl, by simpa using h⟩
    | i + 2, h => simp at h
  refine ⟨[v, v'], ⟨some ⟨g, off, none⟩, cap, rfl, h1, h2, by simp, fun i u hi => ?_⟩, rfl, fun i u l h1 h2 => ?_⟩
  · rcases two hi with ⟨rfl, rfl⟩ | ⟨rfl, rfl⟩
    · exact ⟨g, off, rfl, lt_of_cell c0, fun j hj => by obtain rfl : j = 0 := by simpa using hj
                                                        simpa using c0⟩
    · exact ⟨g, off, rfl, lt_of_cell c0, fun j hj => by obtain rfl : j = 0 := by simpa using hj
                                                        simpa using c1⟩
  · rcases two h1 with ⟨rfl, rfl⟩ | ⟨rfl, rfl⟩
    · rcases two h2 with ⟨_, rfl⟩ | ⟨h, _⟩
      · exact R
      · cases h
    · rcases two h2 with ⟨h, _⟩ | ⟨_, rfl⟩
      · cases h
      · exact R'
set_option maxRecDepth 100000 in
set_option maxHeartbeats 16000000 in
theorem drawPlanSet_any (a : Option Addr) (len cap : Nat) (w : World) (h : Src w (.slice a len cap) len) :
    Calls Tryz.prog 36 #[.slice a len cap] w fun e w' => ∃ (t : PT) (a : Option Addr) (i c : Nat) (iv : Value) (K : List (List It)), e = .returned (.tuple #[pl t.k t.n (.slice a i c), iv]) ∧ t.sm ∧ KdS w.heap.size w' t (.slice a i c) ∧ LyI w' iv K ∧ (∀ l ∈ K, drS l) ∧ (K.length = 1 ∨ K.length = 2) ∧ Below w.heap.size w w' := by
  have hb0 : Below w.heap.size w (w.alloc (.cells #[.int .i64 0, .int .i64 0, .slice none 0 0] 25)) := bAlloc (Below.refl _ _) _
  have br : Bk (w.alloc (.cells #[.int .i64 0, .int .i64 0, .slice none 0 0] 25)) w.heap.size #[.int .i64 0, .int .i64 0, .slice none 0 0] 25 := Bk.new _ _ rfl
  have HS := (show Hid _ from h.keep hb0)
  have hz0 : (w.alloc (.cells #[.int .i64 0, .int .i64 0, .slice none 0 0] 25)).heap.size = w.heap.size + 1 := by simp
  clear h
  go_enter Tryz.func36, Tryz.ntmps36
  go_wp2_with fail
  refine (l6Open_any a len cap _ HS.out).mono ?_
  rintro e w1 ⟨he, ⟨v, n, hr1⟩, hb1⟩
  have br1 := br.keep hb1
  have hbw1 := bStep hb0 hb1
  have hz1 := hb1.size
  rw [hz0] at he hr1 hz1
  have hrl := hr1.blk.lt
  subst he
  clear br hb0 HS hb1 hz0
  go_wp2_with fail
  refine (l71Bent_any hr1 (by omega) (by omega)).mono ?_
  rintro e w2 ⟨t, a2, i2, c2, rfl, hsm, _, kd, ⟨p2, hp20, hp21, hr2⟩, hx2⟩
  have hs4 : stp 4 = 61 := rfl
  rw [hs4] at hp21
  have hz2 := hx2.size
  have br2 := br1.keepx hx2 (by omega)
  have bP : Bk (w2.alloc (.cells #[.int .i64 t.k, .int .i64 t.n, .slice a2 i2 c2] 25)) w2.heap.size #[.int .i64 t.k, .int .i64 t.n, .slice a2 i2 c2] 25 := Bk.new _ _ rfl
  have hbA : Below w2.heap.size w2 (w2.alloc (.cells #[.int .i64 t.k, .int .i64 t.n, .slice a2 i2 c2] 25)) := bAlloc (Below.refl _ _) _
  have hb2 := hx2.below hbw1 (by omega) (by omega)
  have hb2A := bStep hb2 hbA
  have hr2A := hr2.keepb hbA
  have br2A := br2.keep hbA
  have kdA := kd.keep hbA
  have hzA : (w2.alloc (.cells #[.int .i64 t.k, .int .i64 t.n, .slice a2 i2 c2] 25)).heap.size = w2.heap.size + 1 := by simp
  clear hr1 hr2 kd br1 br2 hbw1 hb2 hx2
  go_wp2_with fail
  generalize (w2.alloc (.cells #[.int .i64 t.k, .int .i64 t.n, .slice a2 i2 c2] 25)) = W at *
  refine (l71Set_any hr2A (by omega) (by omega)).mono ?_
  rintro e w3 ⟨o3, f3, rfl, F3, own3, ⟨p3, hp30, hp31, hr3⟩, hx3⟩
  have hz3 := hx3.size
  have br3 := br2A.keepx hx3 (by omega)
  have bP3 := bP.keepx hx3 (by omega)
  have kd3 := kdA.keepx hx3 (by omega)
  have hb3 := hx3.below hb2A (by omega) (by omega)
  have hfl3 := F3.1
  have R3 := OwnI.is own3 (by omega)
  obtain ⟨a3, c3, e3, -⟩ := Is.open R3
  subst e3
  clear hr2A br2A bP kdA hb2A hx3 R3
  go_wp2_with fail
  refine (l71Set_any hr3 (by omega) (by omega)).mono ?_
  rintro e w4 ⟨o4, f4, rfl, F4, own4, ⟨p4, hp40, hp41, hr4⟩, hx4⟩
  have hz4 := hx4.size
  have br4 := br3.keepx hx4 (by omega)
  have bP4 := bP3.keepx hx4 (by omega)
  have kd4 := kd3.keepx hx4 (by omega)
  have hb4 := hx4.below hb3 (by omega) (by omega)
  have hfl4 := F4.1
  have R4 := OwnI.is own4 (by omega)
  obtain ⟨a4, c4, e4, -⟩ := Is.open R4
  subst e4
  have own34 := own_keepx own3 hx4 (by omega)
  clear hr3 br3 bP3 kd3 hb3 hx4 R4 own3
  have bS : Bk (w4.alloc (.cells #[.slice a3 f3.length c3, .slice a4 f4.length c4] 35)) w4.heap.size #[.slice a3 f3.length c3, .slice a4 f4.length c4] 35 := Bk.new _ _ rfl
  have hbB : Below w4.heap.size w4 (w4.alloc (.cells #[.slice a3 f3.length c3, .slice a4 f4.length c4] 35)) := bAlloc (Below.refl _ _) _
  have hr5 := hr4.keepb hbB
  have br5 := br4.keep hbB
  have bP5 := bP4.keep hbB
  have kd5 := kd4.keep hbB
  have hb5 := bStep hb4 hbB
  have own35 := own_keep own34 hbB
  have own45 := own_keep own4 hbB
  have hzB : (w4.alloc (.cells #[.slice a3 f3.length c3, .slice a4 f4.length c4] 35)).heap.size = w4.heap.size + 1 := by simp
  clear hr4 br4 bP4 kd4 hb4 own34 own4
  go_wp2_with fail
  generalize (w4.alloc (.cells #[.slice a3 f3.length c3, .slice a4 f4.length c4] 35)) = W5 at *
  refine (pick_any hr5 (by omega) (by omega) 30 (by omega) (by omega)).mono ?_
  rintro e w6 ⟨k6, rfl, hk60, hk61, hr6, hx6⟩
  have hz6 := hx6.size
  have br6 := br5.keepx hx6 (by omega)
  have bP6 := bP5.keepx hx6 (by omega)
  have kd6 := kd5.keepx hx6 (by omega)
  have hb6 := hx6.below hb5 (by omega) (by omega)
  have bS6 := bS.keepx hx6 (by omega)
  have O3 := (show Hid (OwnI w6 (w.heap.size + 2) (.slice a3 f3.length c3) f3) from own_less (own_keepx own35 hx6 (by omega)) (by omega))
  have O4 := (show Hid (OwnI w6 (w.heap.size + 2) (.slice a4 f4.length c4) f4) from own_less (own_keepx own45 hx6 (by omega)) (by omega))
  have hg5 : w.heap.size + 2 < w4.heap.size := by omega
  clear hr5 br5 bP5 kd5 hb5 bS own35 own45 hx6 hbA hbB
  generalize hq : w2.heap.size = q at *
  generalize hs5 : w4.heap.size = g5 at *
  have KD6 := (show Hid (KdS (w.heap.size + 2) w6 t (.slice a2 i2 c2)) from kd6.less (by omega))
  clear kd6 hq hs5
  by_cases h6 : k6 = 0
  · subst h6
    obtain ⟨z0, z1, z2⟩ := bP6.three'
    obtain ⟨f0, f1, f2⟩ := br6.free3
    obtain ⟨x0, x1, x2⟩ := br6.three'
    obtain ⟨y0, y1, y2⟩ := (br6.set012 (.int .i64 t.k) (.int .i64 t.n) (.slice a2 i2 c2)).three'
    have b9 : Bx w.heap.size w6 (set3 w6 w.heap.size (.int .i64 t.k) (.int .i64 t.n) (.slice a2 i2 c2)) := (((Bx.refl w.heap.size w6).setG (p := ⟨w.heap.size, 0, none⟩) rfl _).setG (p := ⟨w.heap.size, 1, none⟩) rfl _).setG (p := ⟨w.heap.size, 2, none⟩) rfl _
    have HK := (show Hid _ from (KD6.out.keepx b9 (by omega)).less (B' := w.heap.size) (by omega))
    have bS9 := bS6.keepx b9 (by omega)
    have P0 := own_keepx O4.out b9 (by omega)
    have HB := (show Hid _ from ((hb6.setCell (p := ⟨w.heap.size, 0, none⟩) (Nat.le_refl _) (.int .i64 t.k)).setCell (p := ⟨w.heap.size, 1, none⟩) (Nat.le_refl _) (.int .i64 t.n)).setCell (p := ⟨w.heap.size, 2, none⟩) (Nat.le_refl _) (.slice a2 i2 c2))
    obtain ⟨s0, s1, _, _⟩ := bS9.two
    have HL := (show Hid (LyI (set3 w6 w.heap.size (.int .i64 t.k) (.int .i64 t.n) (.slice a2 i2 c2)) (.slice (some ⟨g5, 1, none⟩) 1 1) [f4]) from LyI.mk1 s1 (OwnI.is P0 (by omega)) (by omega) (by decide))
    clear bS9 s0 s1 b9 P0
    go_wp2_with fail
    refine bodyPost_ret (v := .tuple #[pl t.k t.n (.slice a2 i2 c2), .slice (some ⟨g5, 1, none⟩) 1 1]) (by simp [results, Tryz.results36, go_sem, y0, y1, y2]; try first | rfl | exact ⟨rfl, rfl⟩) rfl ?_
    exact ⟨t, a2, i2, c2, _, [f4], rfl, hsm, HK.out, HL.out, fun l hl => by simp at hl; rw [hl]; exact F4, by simp, HB.out⟩
  · have n6 : (k6 == 0) = false := by simp; exact h6
    obtain ⟨z0, z1, z2⟩ := bP6.three'
    obtain ⟨f0, f1, f2⟩ := br6.free3
    obtain ⟨x0, x1, x2⟩ := br6.three'
    obtain ⟨y0, y1, y2⟩ := (br6.set012 (.int .i64 t.k) (.int .i64 t.n) (.slice a2 i2 c2)).three'
    have b9 : Bx w.heap.size w6 (set3 w6 w.heap.size (.int .i64 t.k) (.int .i64 t.n) (.slice a2 i2 c2)) := (((Bx.refl w.heap.size w6).setG (p := ⟨w.heap.size, 0, none⟩) rfl _).setG (p := ⟨w.heap.size, 1, none⟩) rfl _).setG (p := ⟨w.heap.size, 2, none⟩) rfl _
    have HK := (show Hid _ from (KD6.out.keepx b9 (by omega)).less (B' := w.heap.size) (by omega))
    have bS9 := bS6.keepx b9 (by omega)
    have P0 := own_keepx O3.out b9 (by omega)
    have P1 := own_keepx O4.out b9 (by omega)
    have HB := (show Hid _ from ((hb6.setCell (p := ⟨w.heap.size, 0, none⟩) (Nat.le_refl _) (.int .i64 t.k)).setCell (p := ⟨w.heap.size, 1, none⟩) (Nat.le_refl _) (.int .i64 t.n)).setCell (p := ⟨w.heap.size, 2, none⟩) (Nat.le_refl _) (.slice a2 i2 c2))
    obtain ⟨s0, s1, _, _⟩ := bS9.two
    have HL := (show Hid (LyI (set3 w6 w.heap.size (.int .i64 t.k) (.int .i64 t.n) (.slice a2 i2 c2)) (.slice (some ⟨g5, 0, none⟩) 2 2) [f3, f4]) from LyI.mk2 s0 s1 (OwnI.is P0 (by omega)) (OwnI.is P1 (by omega)) (by omega) (by decide))
    clear bS9 s0 s1 b9 P0 P1
    go_wp2_with fail
    refine bodyPost_ret (v := .tuple #[pl t.k t.n (.slice a2 i2 c2), .slice (some ⟨g5, 0, none⟩) 2 2]) (by simp [results, Tryz.results36, go_sem, y0, y1, y2]; try first | rfl | exact ⟨rfl, rfl⟩) rfl ?_
    exact ⟨t, a2, i2, c2, _, [f3, f4], rfl, hsm, HK.out, HL.out, fun l hl => by simp at hl; rcases hl with rfl | rfl <;> first | exact F3 | exact F4, by simp, HB.out⟩
end Go.Proofs.YtldejkhemkjcgaaGreatDoor
