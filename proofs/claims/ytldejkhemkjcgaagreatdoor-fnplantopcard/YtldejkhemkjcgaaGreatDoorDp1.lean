import Derived.Test.YtldejkhemkjcgaaGreatDoorGpb
import Derived.Test.YtldejkhemkjcgaaGreatDoorGlk
import Derived.Test.YtldejkhemkjcgaaGreatDoorGd3
namespace Go.Proofs.YtldejkhemkjcgaaGreatDoor
open Go.RowKit
theorem LyR.mk1 {w : World} {g off cap : Nat} {v : Value} {x : List Rw} (c0 : w.cell? ⟨g, off, none⟩ = some v) (R : Rs w v x) (h1 : 1 ≤ cap) (h2 : cap ≤ maxLen) : LyR w (.slice (some ⟨g, off, none⟩) 1 cap) [x] := by
  refine ⟨[v], ⟨some ⟨g, off, none⟩, cap, rfl, h1, h2, by simp, fun i u hi => ?_⟩, rfl, fun i u l h1 h2 => ?_⟩
  · have : i = 0 := by have := (List.getElem?_eq_some_iff.1 hi).1; simp at this; exact this
    subst this
    cases hi
    exact ⟨g, off, rfl, lt_of_cell c0, fun j hj => by obtain rfl : j = 0 := by simpa using hj
                                                      simpa using c0⟩
  · have : i = 0 := by have := (List.getElem?_eq_some_iff.1 h1).1; simp at this; exact this
    subst this
    cases h1; cases h2; exact R
theorem LyR.mk2 {w : World} {g off cap : Nat} {v v' : Value} {x y : List Rw} (c0 : w.cell? ⟨g, off, none⟩ = some v) (c1 : w.cell? ⟨g, off + 1, none⟩ = some v') (R : Rs w v x) (R' : Rs w v' y) (h1 : 2 ≤ cap) (h2 : cap ≤ maxLen) : LyR w (.slice (some ⟨g, off, none⟩) 2 cap) [x, y] := by
  have two : ∀ {α : Type} {i : Nat} {p q r : α}, [p, q][i]? = some r → (i = 0 ∧ p = r) ∨ (i = 1 ∧ q = r) := by
    intro α i p q r h
    match i, h with
    | 0, h => exact .inl ⟨rfl, by simpa using h⟩
    | 1, h => exact .inr ⟨rfl, by simpa using h⟩
    | i + 2, h => simp at h
  refine ⟨[v, v'], ⟨some ⟨g, off, none⟩, cap, rfl, h1, h2, by simp, fun i u hi => ?_⟩, rfl, fun i u l h1 h2 => ?_⟩
  · rcases two hi with ⟨rfl, rfl⟩ | ⟨rfl, rfl⟩
    · exact ⟨g, off, rfl, lt_of_cell c0, fun j hj => by obtain rfl : j = 0 := by simpa using hj
                                                        simpa using c0⟩
    · exact ⟨g, off, rfl, lt_of_cell c0, fun j hj => by obtain rfl : j = 0 := by simpa using hj
                                                        simpa using c1⟩
  · rcases two h1 with ⟨rfl, rfl⟩ | ⟨rfl, rfl⟩
    · rcases two h2 with ⟨_, rfl⟩ | ⟨h, _⟩
      · exact R
      · cases h
    · rcases two h2 with ⟨h, _⟩ | ⟨_, rfl⟩
      · cases h
      · exact R'
theorem not_int {w : World} {q off : Nat} {k : Int} {a a' : Option Addr} {n c n' c' : Nat} {T : TypeId} (hb : Bk w q #[.slice a n c, .slice a' n' c'] T) (h : w.cell? ⟨q, off, none⟩ = some (.int .i64 k)) : False := by
  unfold Bk at hb
  match off with
  | 0 => simp [World.cell?, hb] at h
  | 1 => simp [World.cell?, hb] at h
  | o + 2 => simp [World.cell?, hb] at h
theorem kdS_other {B q : Nat} {w w' : World} {a a' : Option Addr} {n c n' c' : Nat} {T : TypeId} (hb : Bk w q #[.slice a n c, .slice a' n' c'] T) (hx : Bx q w w') : ∀ {t : PT} {s : Value}, KdS B w t s → KdS B w' t s
  | .n0 _ _, _, h => h
  | .n1 _ _ _, _, ⟨g, off, c, sx, e, hg, h1, h2, h3, h4⟩ =>
    have hn : g ≠ q := fun e => by subst e; exact not_int hb h1
    ⟨g, off, c, sx, e, hg, cell_bx hx hn h1, cell_bx hx hn h2, cell_bx hx hn h3, kdS_other hb hx h4⟩
  | .n2 _ _ _ _, _, ⟨g, off, c, sx, sy, e, hg, h1, h2, h3, h4, h5, h6, h7, h8⟩ =>
    have hn : g ≠ q := fun e => by subst e; exact not_int hb h1
    ⟨g, off, c, sx, sy, e, hg, cell_bx hx hn h1, cell_bx hx hn h2, cell_bx hx hn h3, cell_bx hx hn h4, cell_bx hx hn h5, cell_bx hx hn h6, kdS_other hb hx h7, kdS_other hb hx h8⟩
def fewR (l : List Rw) : Prop := l.length ≤ 11 ∧ (rokB l = true → absum l ≤ 33)
theorem few_dr {l : List Rw} (h : drR l) : fewR l := ⟨h.1, fun hk => h.abs hk⟩
theorem few_batch {l : List Rw} (hl : l.length ≤ 5) (hs : ∀ r ∈ l, smR r) : fewR (batchL l) := by
  have hk : rokB l = true := sm_rok (by omega) hs
  have h1 := absum_le (l := l) (c := 3) fun r hr => (hs r hr).2
  have h2 : absum l ≤ 99999 := by omega
  refine ⟨?_, fun _ => ?_⟩
  · rw [batch_sum hk h2]
    have := sumL_len ltS l; omega
  · rw [batch_sum hk h2]
    have := sum_absR l; omega
set_option maxRecDepth 100000 in
set_option maxHeartbeats 16000000 in
theorem drawPlanFlow_any (a : Option Addr) (len cap : Nat) (w : World) (h : Src w (.slice a len cap) len) :
    Calls Tryz.prog 13 #[.slice a len cap] w fun e w' => ∃ (t : PT) (a : Option Addr) (i c : Nat) (iv : Value) (K : List (List Rw)), e = .returned (.tuple #[pl t.k t.n (.slice a i c), iv]) ∧ t.sm ∧ KdS w.heap.size w' t (.slice a i c) ∧ LyR w' iv K ∧ (∀ l ∈ K, fewR l) ∧ (K.length = 1 ∨ K.length = 2) ∧ Below w.heap.size w w' := by
  have hb0 : Below w.heap.size w (w.alloc (.cells #[.int .i64 0, .int .i64 0, .slice none 0 0] 25)) := bAlloc (Below.refl _ _) _
  have br : Bk (w.alloc (.cells #[.int .i64 0, .int .i64 0, .slice none 0 0] 25)) w.heap.size #[.int .i64 0, .int .i64 0, .slice none 0 0] 25 := Bk.new _ _ rfl
  have HS := (show Hid _ from h.keep hb0)
  have hz0 : (w.alloc (.cells #[.int .i64 0, .int .i64 0, .slice none 0 0] 25)).heap.size = w.heap.size + 1 := by simp
  clear h
  go_enter Tryz.func13, Tryz.ntmps13
  go_wp2_with fail
  refine (l6Open_any a len cap _ HS.out).mono ?_
  rintro e w1 ⟨he, ⟨v, n, hr1⟩, hb1⟩
  have br1 := br.keep hb1
  have hbw1 := bStep hb0 hb1
  have hz1 := hb1.size
  rw [hz0] at he hr1 hz1
  have hrl := hr1.blk.lt
  subst he
  clear br hb0 HS hb1 hz0
  go_wp2_with fail
  refine (l71Bent_any hr1 (by omega) (by omega)).mono ?_
  rintro e w2 ⟨t, a2, i2, c2, rfl, hsm, _, kd, ⟨p2, hp20, hp21, hr2⟩, hx2⟩
  have hs4 : stp 4 = 61 := rfl
  rw [hs4] at hp21
  have hz2 := hx2.size
  have br2 := br1.keepx hx2 (by omega)
  have bP : Bk (w2.alloc (.cells #[.int .i64 t.k, .int .i64 t.n, .slice a2 i2 c2] 25)) w2.heap.size #[.int .i64 t.k, .int .i64 t.n, .slice a2 i2 c2] 25 := Bk.new _ _ rfl
  have hbA : Below w2.heap.size w2 (w2.alloc (.cells #[.int .i64 t.k, .int .i64 t.n, .slice a2 i2 c2] 25)) := bAlloc (Below.refl _ _) _
  have hb2 := hx2.below hbw1 (by omega) (by omega)
  have hb2A := bStep hb2 hbA
  have hr2A := hr2.keepb hbA
  have br2A := br2.keep hbA
  have kdA := kd.keep hbA
  have hzA : (w2.alloc (.cells #[.int .i64 t.k, .int .i64 t.n, .slice a2 i2 c2] 25)).heap.size = w2.heap.size + 1 := by simp
  clear hr1 hr2 kd br1 br2 hbw1 hb2 hx2
  go_wp2_with fail
  generalize (w2.alloc (.cells #[.int .i64 t.k, .int .i64 t.n, .slice a2 i2 c2] 25)) = W at *
  refine (l71Batch_any hr2A (by omega) (by omega) 5 (by omega) (by omega)).mono ?_
  rintro e w3 ⟨o3, l3, rfl, hl3, hs3, own3, ⟨p3, hp30, hp31, hr3⟩, hx3⟩
  have hz3 := hx3.size
  have br3 := br2A.keepx hx3 (by omega)
  have bP3 := bP.keepx hx3 (by omega)
  have kd3 := kdA.keepx hx3 (by omega)
  have hb3 := hx3.below hb2A (by omega) (by omega)
  obtain ⟨f3, hf3⟩ : ∃ f, f = batchL l3 := ⟨_, rfl⟩
  have F3 : fewR f3 := by rw [hf3]; exact few_batch (by omega) hs3
  rw [← hf3] at own3
  have hfl3 := F3.1
  have R3 := OwnR.rs own3 (by omega)
  obtain ⟨a3, c3, e3, -⟩ := Rs.open R3
  subst e3
  clear hf3 hs3 hl3 hr2A br2A bP kdA hb2A hx3 R3
  go_wp2_with fail
  refine (l71Batch_any hr3 (by omega) (by omega) 5 (by omega) (by omega)).mono ?_
  rintro e w4 ⟨o4, l4, rfl, hl4, hs4', own4, ⟨p4, hp40, hp41, hr4⟩, hx4⟩
  have hz4 := hx4.size
  have br4 := br3.keepx hx4 (by omega)
  have bP4 := bP3.keepx hx4 (by omega)
  have kd4 := kd3.keepx hx4 (by omega)
  have hb4 := hx4.below hb3 (by omega) (by omega)
  have own34 := own_keepx own3 hx4 (by omega)
  obtain ⟨f4, hf4⟩ : ∃ f, f = batchL l4 := ⟨_, rfl⟩
  have F4 : fewR f4 := by rw [hf4]; exact few_batch (by omega) hs4'
  rw [← hf4] at own4
  have hfl4 := F4.1
  have R4 := OwnR.rs own4 (by omega)
  obtain ⟨a4, c4, e4, -⟩ := Rs.open R4
  subst e4
  clear hf4 hs4' hl4 hr3 br3 bP3 kd3 hb3 hx4 R4 own3
  have bS : Bk (w4.alloc (.cells #[.slice a3 f3.length c3, .slice a4 f4.length c4] 29)) w4.heap.size #[.slice a3 f3.length c3, .slice a4 f4.length c4] 29 := Bk.new _ _ rfl
  have hbB : Below w4.heap.size w4 (w4.alloc (.cells #[.slice a3 f3.length c3, .slice a4 f4.length c4] 29)) := bAlloc (Below.refl _ _) _
  have hr5 := hr4.keepb hbB
  have br5 := br4.keep hbB
  have bP5 := bP4.keep hbB
  have kd5 := kd4.keep hbB
  have hb5 := bStep hb4 hbB
  have own35 := own_keep own34 hbB
  have own45 := own_keep own4 hbB
  have hzB : (w4.alloc (.cells #[.slice a3 f3.length c3, .slice a4 f4.length c4] 29)).heap.size = w4.heap.size + 1 := by simp
  clear hr4 br4 bP4 kd4 hb4 own34 own4
  go_wp2_with fail
  generalize (w4.alloc (.cells #[.slice a3 f3.length c3, .slice a4 f4.length c4] 29)) = W5 at *
  refine (pick_any hr5 (by omega) (by omega) 30 (by omega) (by omega)).mono ?_
  rintro e w6 ⟨k6, rfl, hk60, hk61, hr6, hx6⟩
  have hz6 := hx6.size
  have br6 := br5.keepx hx6 (by omega)
  have bP6 := bP5.keepx hx6 (by omega)
  have kd6 := kd5.keepx hx6 (by omega)
  have hb6 := hx6.below hb5 (by omega) (by omega)
  have bS6 := bS.keepx hx6 (by omega)
  have O3 := (show Hid (OwnR w6 (w.heap.size + 2) (.slice a3 f3.length c3) f3) from own_less (own_keepx own35 hx6 (by omega)) (by omega))
  have O4 := (show Hid (OwnR w6 (w.heap.size + 2) (.slice a4 f4.length c4) f4) from own_less (own_keepx own45 hx6 (by omega)) (by omega))
  have hg5 : w.heap.size + 2 < w4.heap.size := by omega
  clear hr5 br5 bP5 kd5 hb5 bS own35 own45 hx6 hbA hbB
  generalize hq : w2.heap.size = q at *
  generalize hs5 : w4.heap.size = g5 at *
  have KD6 := (show Hid (KdS (w.heap.size + 2) w6 t (.slice a2 i2 c2)) from kd6.less (by omega))
  clear kd6 hq hs5
  by_cases h6 : k6 = 0
  · subst h6
    go_wp2_with fail
    refine (pick_any hr6 (by omega) (by omega) 30 (by omega) (by omega)).mono ?_
    rintro e w7 ⟨k7, rfl, hk70, hk71, hr7, hx7⟩
    have hz7 := hx7.size
    have br7 := br6.keepx hx7 (by omega)
    have bP7 := bP6.keepx hx7 (by omega)
    have KD7 := (show Hid _ from KD6.out.keepx hx7 (by omega))
    have hb7 := hx7.below hb6 (by omega) (by omega)
    have bS7 := bS6.keepx hx7 (by omega)
    have P3 := (show Hid (OwnR w7 (w.heap.size + 2) (.slice a3 f3.length c3) f3) from own_keepx O3.out hx7 (by omega))
    have P4 := (show Hid (OwnR w7 (w.heap.size + 2) (.slice a4 f4.length c4) f4) from own_keepx O4.out hx7 (by omega))
    clear hr6 br6 bP6 KD6 hb6 bS6 O3 O4 hx7
    by_cases h7 : k7 = 0
    · subst h7
      go_wp2_with fail
      refine (l71Any_any hr7 (by omega) (by omega)).mono ?_
      rintro e w8 ⟨o8, l8, rfl, hd8, own8, ⟨p8, hp80, hp81, hr8⟩, hx8⟩
      have hz8 := hx8.size
      have br8 := br7.keepx hx8 (by omega)
      have bP8 := bP7.keepx hx8 (by omega)
      have KD8 := (show Hid _ from KD7.out.keepx hx8 (by omega))
      have hb8 := hx8.below hb7 (by omega) (by omega)
      have bS8 := bS7.keepx hx8 (by omega)
      have Q4 := own_keepx P4.out hx8 (by omega)
      have Q3 := own_keepx P3.out hx8 (by omega)
      have hd81 := hd8.1
      obtain ⟨a8, c8, e8, -⟩ := Rs.open (OwnR.rs own8 (by omega))
      subst e8
      have hxs : Bx g5 w8 (w8.setCell ⟨g5, 1, none⟩ (.slice a8 l8.length c8)) := (Bx.refl g5 w8).setG (p := ⟨g5, 1, none⟩) rfl _
      have bS9 : Bk (w8.setCell ⟨g5, 1, none⟩ (.slice a8 l8.length c8)) g5 #[.slice a3 f3.length c3, .slice a8 l8.length c8] 29 := by simpa using bS8.set 1 (.slice a8 l8.length c8)
      have br9 := br8.keepx hxs (by omega)
      have bP9 := bP8.keepx hxs (by omega)
      have KD9 := (show Hid (KdS (w.heap.size + 2) (w8.setCell ⟨g5, 1, none⟩ (.slice a8 l8.length c8)) t (.slice a2 i2 c2)) from kdS_other bS8 hxs KD8.out)
      have hb9 := hb8.setCell (p := ⟨g5, 1, none⟩) (by simp; omega) (.slice a8 l8.length c8)
      have O8 := (show Hid (OwnR (w8.setCell ⟨g5, 1, none⟩ (.slice a8 l8.length c8)) (w.heap.size + 2) (.slice a8 l8.length c8) l8) from ownR_bx (own_less own8 (by omega)) bS8 (by decide) hxs)
      have O4 := (show Hid (OwnR (w8.setCell ⟨g5, 1, none⟩ (.slice a8 l8.length c8)) (w.heap.size + 2) (.slice a4 f4.length c4) f4) from ownR_bx Q4 bS8 (by decide) hxs)
      have hfz := bS8.free 1
      obtain ⟨s80, s81, _, _⟩ := bS8.two
      clear hr7 br7 bP7 KD7 hb7 bS7 P3 P4 Q3 Q4 own8 hx8 hxs br8 bP8 KD8 hb8 hr8
      obtain ⟨z0, z1, z2⟩ := bP9.three'
      obtain ⟨f0, f1, f2⟩ := br9.free3
      obtain ⟨x0, x1, x2⟩ := br9.three'
      obtain ⟨y0, y1, y2⟩ := (br9.set012 (.int .i64 t.k) (.int .i64 t.n) (.slice a2 i2 c2)).three'
      have b9 : Bx w.heap.size (w8.setCell ⟨g5, 1, none⟩ (.slice a8 l8.length c8)) (set3 (w8.setCell ⟨g5, 1, none⟩ (.slice a8 l8.length c8)) w.heap.size (.int .i64 t.k) (.int .i64 t.n) (.slice a2 i2 c2)) := (((Bx.refl w.heap.size (w8.setCell ⟨g5, 1, none⟩ (.slice a8 l8.length c8))).setG (p := ⟨w.heap.size, 0, none⟩) rfl _).setG (p := ⟨w.heap.size, 1, none⟩) rfl _).setG (p := ⟨w.heap.size, 2, none⟩) rfl _
      have HK := (show Hid _ from (KD9.out.keepx b9 (by omega)).less (B' := w.heap.size) (by omega))
      have bS9 := bS9.keepx b9 (by omega)
      have P0 := own_keepx O8.out b9 (by omega)
      have HB := (show Hid _ from ((hb9.setCell (p := ⟨w.heap.size, 0, none⟩) (Nat.le_refl _) (.int .i64 t.k)).setCell (p := ⟨w.heap.size, 1, none⟩) (Nat.le_refl _) (.int .i64 t.n)).setCell (p := ⟨w.heap.size, 2, none⟩) (Nat.le_refl _) (.slice a2 i2 c2))
      obtain ⟨s0, s1, _, _⟩ := bS9.two
      have HL := (show Hid (LyR (set3 (w8.setCell ⟨g5, 1, none⟩ (.slice a8 l8.length c8)) w.heap.size (.int .i64 t.k) (.int .i64 t.n) (.slice a2 i2 c2)) (.slice (some ⟨g5, 1, none⟩) 1 1) [l8]) from LyR.mk1 s1 (OwnR.rs P0 (by omega)) (by omega) (by decide))
      clear bS9 s0 s1 b9 P0
      go_wp2_with fail
      refine bodyPost_ret (v := .tuple #[pl t.k t.n (.slice a2 i2 c2), .slice (some ⟨g5, 1, none⟩) 1 1]) (by simp [results, Tryz.results13, go_sem, y0, y1, y2]; try first | rfl | exact ⟨rfl, rfl⟩) rfl ?_
      exact ⟨t, a2, i2, c2, _, [l8], rfl, hsm, HK.out, HL.out, fun l hl => by simp at hl; rw [hl]; exact few_dr hd8, by simp, HB.out⟩
    · have n7 : (k7 == 0) = false := by simp; exact h7
      obtain ⟨z0, z1, z2⟩ := bP7.three'
      obtain ⟨f0, f1, f2⟩ := br7.free3
      obtain ⟨x0, x1, x2⟩ := br7.three'
      obtain ⟨y0, y1, y2⟩ := (br7.set012 (.int .i64 t.k) (.int .i64 t.n) (.slice a2 i2 c2)).three'
      have b9 : Bx w.heap.size w7 (set3 w7 w.heap.size (.int .i64 t.k) (.int .i64 t.n) (.slice a2 i2 c2)) := (((Bx.refl w.heap.size w7).setG (p := ⟨w.heap.size, 0, none⟩) rfl _).setG (p := ⟨w.heap.size, 1, none⟩) rfl _).setG (p := ⟨w.heap.size, 2, none⟩) rfl _
      have HK := (show Hid _ from (KD7.out.keepx b9 (by omega)).less (B' := w.heap.size) (by omega))
      have bS9 := bS7.keepx b9 (by omega)
      have P0 := own_keepx P4.out b9 (by omega)
      have HB := (show Hid _ from ((hb7.setCell (p := ⟨w.heap.size, 0, none⟩) (Nat.le_refl _) (.int .i64 t.k)).setCell (p := ⟨w.heap.size, 1, none⟩) (Nat.le_refl _) (.int .i64 t.n)).setCell (p := ⟨w.heap.size, 2, none⟩) (Nat.le_refl _) (.slice a2 i2 c2))
      obtain ⟨s0, s1, _, _⟩ := bS9.two
      have HL := (show Hid (LyR (set3 w7 w.heap.size (.int .i64 t.k) (.int .i64 t.n) (.slice a2 i2 c2)) (.slice (some ⟨g5, 1, none⟩) 1 1) [f4]) from LyR.mk1 s1 (OwnR.rs P0 (by omega)) (by omega) (by decide))
      clear bS9 s0 s1 b9 P0
      go_wp2_with fail
      refine bodyPost_ret (v := .tuple #[pl t.k t.n (.slice a2 i2 c2), .slice (some ⟨g5, 1, none⟩) 1 1]) (by simp [results, Tryz.results13, go_sem, y0, y1, y2]; try first | rfl | exact ⟨rfl, rfl⟩) rfl ?_
      exact ⟨t, a2, i2, c2, _, [f4], rfl, hsm, HK.out, HL.out, fun l hl => by simp at hl; rw [hl]; exact F4, by simp, HB.out⟩
  · have n6 : (k6 == 0) = false := by simp; exact h6
    go_wp2_with fail
    refine (pick_any hr6 (by omega) (by omega) 30 (by omega) (by omega)).mono ?_
    rintro e w7 ⟨k7, rfl, hk70, hk71, hr7, hx7⟩
    have hz7 := hx7.size
    have br7 := br6.keepx hx7 (by omega)
    have bP7 := bP6.keepx hx7 (by omega)
    have KD7 := (show Hid _ from KD6.out.keepx hx7 (by omega))
    have hb7 := hx7.below hb6 (by omega) (by omega)
    have bS7 := bS6.keepx hx7 (by omega)
    have P3 := (show Hid (OwnR w7 (w.heap.size + 2) (.slice a3 f3.length c3) f3) from own_keepx O3.out hx7 (by omega))
    have P4 := (show Hid (OwnR w7 (w.heap.size + 2) (.slice a4 f4.length c4) f4) from own_keepx O4.out hx7 (by omega))
    clear hr6 br6 bP6 KD6 hb6 bS6 O3 O4 hx7
    by_cases h7 : k7 = 0
    · subst h7
      go_wp2_with fail
      refine (l71Any_any hr7 (by omega) (by omega)).mono ?_
      rintro e w8 ⟨o8, l8, rfl, hd8, own8, ⟨p8, hp80, hp81, hr8⟩, hx8⟩
      have hz8 := hx8.size
      have br8 := br7.keepx hx8 (by omega)
      have bP8 := bP7.keepx hx8 (by omega)
      have KD8 := (show Hid _ from KD7.out.keepx hx8 (by omega))
      have hb8 := hx8.below hb7 (by omega) (by omega)
      have bS8 := bS7.keepx hx8 (by omega)
      have Q4 := own_keepx P4.out hx8 (by omega)
      have Q3 := own_keepx P3.out hx8 (by omega)
      have hd81 := hd8.1
      obtain ⟨a8, c8, e8, -⟩ := Rs.open (OwnR.rs own8 (by omega))
      subst e8
      have hxs : Bx g5 w8 (w8.setCell ⟨g5, 0, none⟩ (.slice a8 l8.length c8)) := (Bx.refl g5 w8).setG (p := ⟨g5, 0, none⟩) rfl _
      have bS9 : Bk (w8.setCell ⟨g5, 0, none⟩ (.slice a8 l8.length c8)) g5 #[.slice a8 l8.length c8, .slice a4 f4.length c4] 29 := by simpa using bS8.set 0 (.slice a8 l8.length c8)
      have br9 := br8.keepx hxs (by omega)
      have bP9 := bP8.keepx hxs (by omega)
      have KD9 := (show Hid (KdS (w.heap.size + 2) (w8.setCell ⟨g5, 0, none⟩ (.slice a8 l8.length c8)) t (.slice a2 i2 c2)) from kdS_other bS8 hxs KD8.out)
      have hb9 := hb8.setCell (p := ⟨g5, 0, none⟩) (by simp; omega) (.slice a8 l8.length c8)
      have O8 := (show Hid (OwnR (w8.setCell ⟨g5, 0, none⟩ (.slice a8 l8.length c8)) (w.heap.size + 2) (.slice a8 l8.length c8) l8) from ownR_bx (own_less own8 (by omega)) bS8 (by decide) hxs)
      have O4 := (show Hid (OwnR (w8.setCell ⟨g5, 0, none⟩ (.slice a8 l8.length c8)) (w.heap.size + 2) (.slice a4 f4.length c4) f4) from ownR_bx Q4 bS8 (by decide) hxs)
      have hfz := bS8.free 0
      obtain ⟨s80, s81, _, _⟩ := bS8.two
      clear hr7 br7 bP7 KD7 hb7 bS7 P3 P4 Q3 Q4 own8 hx8 hxs br8 bP8 KD8 hb8 hr8
      obtain ⟨z0, z1, z2⟩ := bP9.three'
      obtain ⟨f0, f1, f2⟩ := br9.free3
      obtain ⟨x0, x1, x2⟩ := br9.three'
      obtain ⟨y0, y1, y2⟩ := (br9.set012 (.int .i64 t.k) (.int .i64 t.n) (.slice a2 i2 c2)).three'
      have b9 : Bx w.heap.size (w8.setCell ⟨g5, 0, none⟩ (.slice a8 l8.length c8)) (set3 (w8.setCell ⟨g5, 0, none⟩ (.slice a8 l8.length c8)) w.heap.size (.int .i64 t.k) (.int .i64 t.n) (.slice a2 i2 c2)) := (((Bx.refl w.heap.size (w8.setCell ⟨g5, 0, none⟩ (.slice a8 l8.length c8))).setG (p := ⟨w.heap.size, 0, none⟩) rfl _).setG (p := ⟨w.heap.size, 1, none⟩) rfl _).setG (p := ⟨w.heap.size, 2, none⟩) rfl _
      have HK := (show Hid _ from (KD9.out.keepx b9 (by omega)).less (B' := w.heap.size) (by omega))
      have bS9 := bS9.keepx b9 (by omega)
      have P0 := own_keepx O8.out b9 (by omega)
      have P1 := own_keepx O4.out b9 (by omega)
      have HB := (show Hid _ from ((hb9.setCell (p := ⟨w.heap.size, 0, none⟩) (Nat.le_refl _) (.int .i64 t.k)).setCell (p := ⟨w.heap.size, 1, none⟩) (Nat.le_refl _) (.int .i64 t.n)).setCell (p := ⟨w.heap.size, 2, none⟩) (Nat.le_refl _) (.slice a2 i2 c2))
      obtain ⟨s0, s1, _, _⟩ := bS9.two
      have HL := (show Hid (LyR (set3 (w8.setCell ⟨g5, 0, none⟩ (.slice a8 l8.length c8)) w.heap.size (.int .i64 t.k) (.int .i64 t.n) (.slice a2 i2 c2)) (.slice (some ⟨g5, 0, none⟩) 2 2) [l8, f4]) from LyR.mk2 s0 s1 (OwnR.rs P0 (by omega)) (OwnR.rs P1 (by omega)) (by omega) (by decide))
      clear bS9 s0 s1 b9 P0 P1
      go_wp2_with fail
      refine bodyPost_ret (v := .tuple #[pl t.k t.n (.slice a2 i2 c2), .slice (some ⟨g5, 0, none⟩) 2 2]) (by simp [results, Tryz.results13, go_sem, y0, y1, y2]; try first | rfl | exact ⟨rfl, rfl⟩) rfl ?_
      exact ⟨t, a2, i2, c2, _, [l8, f4], rfl, hsm, HK.out, HL.out, fun l hl => by simp at hl; rcases hl with rfl | rfl <;> first | exact few_dr hd8 | exact F4, by simp, HB.out⟩
    · have n7 : (k7 == 0) = false := by simp; exact h7
      obtain ⟨z0, z1, z2⟩ := bP7.three'
      obtain ⟨f0, f1, f2⟩ := br7.free3
      obtain ⟨x0, x1, x2⟩ := br7.three'
      obtain ⟨y0, y1, y2⟩ := (br7.set012 (.int .i64 t.k) (.int .i64 t.n) (.slice a2 i2 c2)).three'
      have b9 : Bx w.heap.size w7 (set3 w7 w.heap.size (.int .i64 t.k) (.int .i64 t.n) (.slice a2 i2 c2)) := (((Bx.refl w.heap.size w7).setG (p := ⟨w.heap.size, 0, none⟩) rfl _).setG (p := ⟨w.heap.size, 1, none⟩) rfl _).setG (p := ⟨w.heap.size, 2, none⟩) rfl _
      have HK := (show Hid _ from (KD7.out.keepx b9 (by omega)).less (B' := w.heap.size) (by omega))
      have bS9 := bS7.keepx b9 (by omega)
      have P0 := own_keepx P3.out b9 (by omega)
      have P1 := own_keepx P4.out b9 (by omega)
      have HB := (show Hid _ from ((hb7.setCell (p := ⟨w.heap.size, 0, none⟩) (Nat.le_refl _) (.int .i64 t.k)).setCell (p := ⟨w.heap.size, 1, none⟩) (Nat.le_refl _) (.int .i64 t.n)).setCell (p := ⟨w.heap.size, 2, none⟩) (Nat.le_refl _) (.slice a2 i2 c2))
      obtain ⟨s0, s1, _, _⟩ := bS9.two
      have HL := (show Hid (LyR (set3 w7 w.heap.size (.int .i64 t.k) (.int .i64 t.n) (.slice a2 i2 c2)) (.slice (some ⟨g5, 0, none⟩) 2 2) [f3, f4]) from LyR.mk2 s0 s1 (OwnR.rs P0 (by omega)) (OwnR.rs P1 (by omega)) (by omega) (by decide))
      clear bS9 s0 s1 b9 P0 P1
      go_wp2_with fail
      refine bodyPost_ret (v := .tuple #[pl t.k t.n (.slice a2 i2 c2), .slice (some ⟨g5, 0, none⟩) 2 2]) (by simp [results, Tryz.results13, go_sem, y0, y1, y2]; try first | rfl | exact ⟨rfl, rfl⟩) rfl ?_
      exact ⟨t, a2, i2, c2, _, [f3, f4], rfl, hsm, HK.out, HL.out, fun l hl => by simp at hl; rcases hl with rfl | rfl <;> first | exact F3 | exact F4, by simp, HB.out⟩
end Go.Proofs.YtldejkhemkjcgaaGreatDoor
