/- For all bytes: of the front (not the empty one) and the time that they draw, no time that is later than the moved one, or neither earlier nor later, says the same of all times that the front covers, and FrontMove of the program answers as the model's; the argument reads afterwards as before. No condition. -/
import Derived.Test.YtpmkhempkblokaaFr13
import Derived.Deep.DeepCutAuto
namespace Go.Proofs.Ytpmkhempkblokaa
open Go.ChangeShapes Go.WideShapes Go.ChangeAt Go.RowKit Go.Joins

namespace FnFrontMoveLast
/-- Two times say the same of a third, or the front does not cover it. -/
def agree (f : List (Int × Int)) (x y a b X Y : Int) : Bool := !(fokB f && anyB f X Y) || (leB x y X Y == leB a b X Y)
/-- So it is of the first k times of all. -/
def sameTo (f : List (Int × Int)) (x y a b : Int) (k : Nat) : Bool := (List.range k).all fun j => agree f x y a b ((j / 8 : Nat) : Int) ((j % 8 : Nat) : Int)
theorem sameTo_succ (f : List (Int × Int)) (x y a b : Int) (k : Nat) : sameTo f x y a b (k + 1) = (sameTo f x y a b k && agree f x y a b ((k / 8 : Nat) : Int) ((k % 8 : Nat) : Int)) := by
  unfold sameTo; rw [List.range_succ, List.all_append]; simp
theorem last {f : List (Int × Int)} {x y m1 m2 a b : Int} (hf : fokB f = true) (hx : okB x y = true) (hm : moveV f x y = (m1, m2)) (hl : f.length ≠ 0) (h : sameTo f x y a b 64 = true) : leB a b m1 m2 = true := by
  refine (move_facts hf hx hm hl).2.2 a b fun i hi => ?_
  have ho := fok_ok hf hi
  have hj := jn_ok hx ho
  have h1 := jn_left hx ho
  have h2 := any_true hi (jn_right hx ho)
  generalize jnA x y (tA f i) (tB f i) = X at *
  generalize jnB x y (tA f i) (tB f i) = Y at *
  rw [okB_iff] at hj
  unfold sameTo at h
  rw [List.all_eq_true] at h
  have h3 := h (X.toNat * 8 + Y.toNat) (List.mem_range.2 (by omega))
  rw [show (((X.toNat * 8 + Y.toNat) / 8 : Nat) : Int) = X by omega, show (((X.toNat * 8 + Y.toNat) % 8 : Nat) : Int) = Y by omega] at h3
  unfold agree at h3
  rw [hf, h2, h1] at h3
  simpa using h3
set_option maxHeartbeats 8000000 in
theorem walk (x0 : Option Addr) (len0 cap0 : Nat) (w : World) (h0 : Src w (.slice x0 len0 cap0) len0) :
    Calls Try.prog 7 #[.slice x0 len0 cap0] w fun e w' => e = .returned (.bool true) ∧ Below w.heap.size w w' := by
  by_cases g0 : (1048576 : Int) < (len0 : Int)
  · go_enter Try.func7, Try.ntmps7
    go_wp2_with fail
    go_ret
    exact ⟨rfl, Below.refl _ _⟩
  go_enter Try.func7, Try.ntmps7
  go_wp2_with fail
  refine (drawMove_any _ _ _ _ h0).mono ?_
  rintro e w1 ⟨o, f, x, y, rfl, hl, hown, hb1⟩
  have ts1 := hown.ts (by omega)
  clear h0 hown
  have bt2 := Bk.new (w := w1) #[.int .i64 x, .int .i64 y] 29 rfl
  have ts2 := ts1.keep (bAlloc (Below.refl _ _) (.cells #[.int .i64 x, .int .i64 y] 29))
  have hb2 := bAlloc hb1 (.cells #[.int .i64 x, .int .i64 y] 29)
  obtain ⟨m1, m2, hmv⟩ : ∃ m1 m2 : Int, moveV f x y = (m1, m2) := ⟨_, _, rfl⟩
  have HM : Hid (moveV f x y = (m1, m2)) := hmv
  clear hmv ts1
  go_wp2_with fail
  generalize (w1.alloc (.cells #[.int .i64 x, .int .i64 y] 29)) = w2 at *
  refine (implFrontMove_eq HM.out ts2).mono ?_
  rintro e w3 ⟨rfl, hb3⟩
  have bt5 := (bt2.keep hb3).alloc (.cells #[.int .i64 m1, .int .i64 m2] 29)
  have bm5 := Bk.new (w := w3) #[.int .i64 m1, .int .i64 m2] 29 rfl
  have ts5 := (ts2.keep hb3).keep (bAlloc (Below.refl _ _) (.cells #[.int .i64 m1, .int .i64 m2] 29))
  have hb5 := bAlloc (bStep hb2 hb3) (.cells #[.int .i64 m1, .int .i64 m2] 29)
  clear bt2 ts2 hb2 hb3
  go_upto_region 5 with fail
  generalize (w3.alloc (.cells #[.int .i64 m1, .int .i64 m2] 29)) = w5 at *
  have s0 := bt5.bel0
  have s1 := bt5.bel1
  have j0 := bm5.bel0
  have j1 := bm5.bel1
  have hne := bel_some w5
  have tse := ts5
  obtain ⟨a, cap', rfl, h1, h2, h3, h4⟩ := tse
  clear h1 h2 h3 h4
  generalize hN : f.length = n at *
  by_cases hz : n = 0
  · subst hz
    cases hf : fokB f
    · skip
      (refine wp_region_bel (by kernel_rfl) (by kernel_rfl) ?_; (repeat (go_big_quiet_step ((first | (go_at_call 30; exact calls_bel (specFrontMove_eq HM.out (ts_bel ts5 _))) | (go_at_call 24; exact calls_bel (specFrontOk_eq (by with_reducible assumption) (ts_bel ts5 _))) | (go_at_call 31; exact calls_bel (specOk_eq (by with_reducible assumption) _)))))); refine wpQuiet_nil ?_)
      intro w6 hw6
      replace hw6 := bel_out hw6
      clear s0 s1 j0 j1 hne
      have bt6 := bt5.keep hw6
      have bm6 := bm5.keep hw6
      have ts6 := ts5.keep hw6
      have hb6 := bStep hb5 hw6
      have s0 := bt6.bel0
      have s1 := bt6.bel1
      have j0 := bm6.bel0
      have j1 := bm6.bel1
      have hne := bel_some w6
      go_wp2_with fail
      (refine wp_region_bel (by kernel_rfl) (by kernel_rfl) ?_; (repeat (go_big_quiet_step ((first | (go_at_call 30; exact calls_bel (specFrontMove_eq HM.out (ts_bel ts6 _))))))); refine wpQuiet_nil ?_)
      intro w7 hw7
      replace hw7 := bel_out hw7
      go_wp2_with fail
      go_ret
      exact ⟨rfl, bStep hb6 hw7⟩
    cases ho : okB x y
    · skip
      (refine wp_region_bel (by kernel_rfl) (by kernel_rfl) ?_; (repeat (go_big_quiet_step ((first | (go_at_call 30; exact calls_bel (specFrontMove_eq HM.out (ts_bel ts5 _))) | (go_at_call 24; exact calls_bel (specFrontOk_eq (by with_reducible assumption) (ts_bel ts5 _))) | (go_at_call 31; exact calls_bel (specOk_eq (by with_reducible assumption) _)))))); refine wpQuiet_nil ?_)
      intro w6 hw6
      replace hw6 := bel_out hw6
      clear s0 s1 j0 j1 hne
      have bt6 := bt5.keep hw6
      have bm6 := bm5.keep hw6
      have ts6 := ts5.keep hw6
      have hb6 := bStep hb5 hw6
      have s0 := bt6.bel0
      have s1 := bt6.bel1
      have j0 := bm6.bel0
      have j1 := bm6.bel1
      have hne := bel_some w6
      go_wp2_with fail
      (refine wp_region_bel (by kernel_rfl) (by kernel_rfl) ?_; (repeat (go_big_quiet_step ((first | (go_at_call 30; exact calls_bel (specFrontMove_eq HM.out (ts_bel ts6 _))))))); refine wpQuiet_nil ?_)
      intro w7 hw7
      replace hw7 := bel_out hw7
      go_wp2_with fail
      go_ret
      exact ⟨rfl, bStep hb6 hw7⟩
    (refine wp_region_bel (by kernel_rfl) (by kernel_rfl) ?_; (repeat (go_big_quiet_step ((first | (go_at_call 30; exact calls_bel (specFrontMove_eq HM.out (ts_bel ts5 _))) | (go_at_call 24; exact calls_bel (specFrontOk_eq (by with_reducible assumption) (ts_bel ts5 _))) | (go_at_call 31; exact calls_bel (specOk_eq (by with_reducible assumption) _)))))); refine wpQuiet_nil ?_)
    intro w6 hw6
    replace hw6 := bel_out hw6
    clear s0 s1 j0 j1 hne
    have bt6 := bt5.keep hw6
    have bm6 := bm5.keep hw6
    have ts6 := ts5.keep hw6
    have hb6 := bStep hb5 hw6
    have s0 := bt6.bel0
    have s1 := bt6.bel1
    have j0 := bm6.bel0
    have j1 := bm6.bel1
    have hne := bel_some w6
    go_wp2_with fail
    (refine wp_region_bel (by kernel_rfl) (by kernel_rfl) ?_; (repeat (go_big_quiet_step ((first | (go_at_call 30; exact calls_bel (specFrontMove_eq HM.out (ts_bel ts6 _))))))); refine wpQuiet_nil ?_)
    intro w7 hw7
    replace hw7 := bel_out hw7
    go_wp2_with fail
    go_ret
    exact ⟨rfl, bStep hb6 hw7⟩
  have hz1 : ((n : Int) == 0) = false := by simp; exact hz
  cases hf : fokB f
  · skip
    (refine wp_region_bel (by kernel_rfl) (by kernel_rfl) ?_; (repeat (go_big_quiet_step ((first | (go_at_call 30; exact calls_bel (specFrontMove_eq HM.out (ts_bel ts5 _))) | (go_at_call 24; exact calls_bel (specFrontOk_eq (by with_reducible assumption) (ts_bel ts5 _))) | (go_at_call 31; exact calls_bel (specOk_eq (by with_reducible assumption) _)))))); refine wpQuiet_nil ?_)
    intro w6 hw6
    replace hw6 := bel_out hw6
    clear s0 s1 j0 j1 hne
    have bt6 := bt5.keep hw6
    have bm6 := bm5.keep hw6
    have ts6 := ts5.keep hw6
    have hb6 := bStep hb5 hw6
    have s0 := bt6.bel0
    have s1 := bt6.bel1
    have j0 := bm6.bel0
    have j1 := bm6.bel1
    have hne := bel_some w6
    go_wp2_with fail
    (refine wp_region_bel (by kernel_rfl) (by kernel_rfl) ?_; (repeat (go_big_quiet_step ((first | (go_at_call 30; exact calls_bel (specFrontMove_eq HM.out (ts_bel ts6 _))))))); refine wpQuiet_nil ?_)
    intro w7 hw7
    replace hw7 := bel_out hw7
    go_wp2_with fail
    go_ret
    exact ⟨rfl, bStep hb6 hw7⟩
  cases ho : okB x y
  · skip
    (refine wp_region_bel (by kernel_rfl) (by kernel_rfl) ?_; (repeat (go_big_quiet_step ((first | (go_at_call 30; exact calls_bel (specFrontMove_eq HM.out (ts_bel ts5 _))) | (go_at_call 24; exact calls_bel (specFrontOk_eq (by with_reducible assumption) (ts_bel ts5 _))) | (go_at_call 31; exact calls_bel (specOk_eq (by with_reducible assumption) _)))))); refine wpQuiet_nil ?_)
    intro w6 hw6
    replace hw6 := bel_out hw6
    clear s0 s1 j0 j1 hne
    have bt6 := bt5.keep hw6
    have bm6 := bm5.keep hw6
    have ts6 := ts5.keep hw6
    have hb6 := bStep hb5 hw6
    have s0 := bt6.bel0
    have s1 := bt6.bel1
    have j0 := bm6.bel0
    have j1 := bm6.bel1
    have hne := bel_some w6
    go_wp2_with fail
    (refine wp_region_bel (by kernel_rfl) (by kernel_rfl) ?_; (repeat (go_big_quiet_step ((first | (go_at_call 30; exact calls_bel (specFrontMove_eq HM.out (ts_bel ts6 _))))))); refine wpQuiet_nil ?_)
    intro w7 hw7
    replace hw7 := bel_out hw7
    go_wp2_with fail
    go_ret
    exact ⟨rfl, bStep hb6 hw7⟩
  (refine wp_region_bel (by kernel_rfl) (by kernel_rfl) ?_; (repeat (go_big_quiet_step ((first | (go_at_call 30; exact calls_bel (specFrontMove_eq HM.out (ts_bel ts5 _))) | (go_at_call 24; exact calls_bel (specFrontOk_eq (by with_reducible assumption) (ts_bel ts5 _))) | (go_at_call 31; exact calls_bel (specOk_eq (by with_reducible assumption) _)))))); refine wpQuiet_nil ?_)
  intro w6 hw6
  replace hw6 := bel_out hw6
  clear s0 s1 j0 j1 hne
  have bt6 := bt5.keep hw6
  have bm6 := bm5.keep hw6
  have ts6 := ts5.keep hw6
  have hb6 := bStep hb5 hw6
  have HL : Hid (∀ a b, sameTo f x y a b 64 = true → leB a b m1 m2 = true) := fun a b h => last hf ho HM.out (hN ▸ hz) h
  have HF : Hid (fokB f = true) := hf
  clear bt5 bm5 ts5 hb5 hw6 hf ho hz
  go_wp2_with fail
  clear hz1
  refine (lwAll_any _).mono ?_
  rintro e w7 ⟨g, cap, rfl, hown, hg, hw7⟩
  have bt7 := bt6.keep hw7
  have bm7 := bm6.keep hw7
  have ts7 := ts6.keep hw7
  have hb7 := bStep hb6 hw7
  have HO := (show Hid _ from hown)
  clear bt6 bm6 ts6 hb6 hw7 hown hg
  go_wp2_with fail
  go_loopw [7] (fun i wr => ∃ k : Nat, k ≤ 64 ∧ i = .int .i64 k ∧ Below w7.heap.size w7 wr) (fun i _ => 64 - (intOf i).toNat)
  case atStart => exact ⟨0, by omega, rfl, Below.refl _ _⟩
  case round =>
    obtain ⟨k, hk, rfl, hbr⟩ := hrel
    by_cases hlt : k < 64
    · have bt8 := bt7.keep hbr
      have bm8 := bm7.keep hbr
      have ts8 := ts7.keep hbr
      have hk64 : decide ((k : Int) < 64) = true := by simp; omega
      obtain ⟨u, v, cu, cv, hu, hv⟩ : ∃ u v : Int, w7.cell? ⟨g, k * 2, none⟩ = some (.int .i64 u) ∧ w7.cell? ⟨g, k * 2 + 1, none⟩ = some (.int .i64 v) ∧ u = ((k / 8 : Nat) : Int) ∧ v = ((k % 8 : Nat) : Int) := ⟨_, _, (all_cells HO.out hlt).1, (all_cells HO.out hlt).2, rfl, rfl⟩
      clear hu hv
      obtain ⟨w8, hw8⟩ : ∃ w8, w8 = wr := ⟨_, rfl⟩
      subst hw8
      go_wp2_with fail
      go_loopw [8, 9] (fun s i wr => ∃ q : Nat, q ≤ 64 ∧ i = .int .i64 q ∧ s = .bool (sameTo f x y u v q) ∧ Below w8.heap.size w8 wr) (fun _ i _ => 64 - (intOf i).toNat)
      case atStart => exact ⟨0, by omega, rfl, rfl, Below.refl _ _⟩
      case round =>
        obtain ⟨q, hq, rfl, rfl, hbq⟩ := hrel
        by_cases hqt : q < 64
        · have bt9 := bt8.keep hbq
          have ts9 := ts8.keep hbq
          have t0 := bt9.bel0
          have t1 := bt9.bel1
          have hne := bel_some wr
          obtain ⟨X, Y, cX, cY, hX, hY⟩ : ∃ X Y : Int, w7.cell? ⟨g, q * 2, none⟩ = some (.int .i64 X) ∧ w7.cell? ⟨g, q * 2 + 1, none⟩ = some (.int .i64 Y) ∧ ((q / 8 : Nat) : Int) = X ∧ ((q % 8 : Nat) : Int) = Y := ⟨_, _, (all_cells HO.out hqt).1, (all_cells HO.out hqt).2, rfl, rfl⟩
          have dX : ∀ p : Bel wr, p.ww.cell? ⟨g, q * 2, none⟩ = some (.int .i64 X) := fun p => cell_below p.below (cell_below hbq (cell_below hbr cX))
          have dY : ∀ p : Bel wr, p.ww.cell? ⟨g, q * 2 + 1, none⟩ = some (.int .i64 Y) := fun p => cell_below p.below (cell_below hbq (cell_below hbr cY))
          have du : ∀ p : Bel wr, p.ww.cell? ⟨g, k * 2, none⟩ = some (.int .i64 u) := fun p => cell_below p.below (cell_below hbq (cell_below hbr cu))
          have dv : ∀ p : Bel wr, p.ww.cell? ⟨g, k * 2 + 1, none⟩ = some (.int .i64 v) := fun p => cell_below p.below (cell_below hbq (cell_below hbr cv))
          have hq64 : decide ((q : Int) < 64) = true := by simp; omega
          have HSu : Hid (sameTo f x y u v (q + 1) = (sameTo f x y u v q && agree f x y u v X Y)) := by
            show _ = _; rw [sameTo_succ, hX, hY]
          clear cX cY hX hY
          generalize sameTo f x y u v q = s1 at *
          cases s1
          · have hs2 : Hid (sameTo f x y u v (q + 1) = false) := by show _ = _; rw [HSu.out]; rfl
            go_wp2_with fail
            (refine wp_region_bel (by kernel_rfl) (by kernel_rfl) ?_; (repeat (go_big_quiet_step ((first | (go_at_call 20; exact calls_bel (implCovers_eq (by with_reducible assumption) (ts_bel ts9 _))) | (go_at_call 21; exact calls_bel (implLess_eq (by with_reducible assumption) _)))))); refine wpQuiet_nil ?_)
            intro w9 hw9
            replace hw9 := bel_out hw9
            have hb9 := bStep hbq hw9
            go_wp2_with fail
            go_roundw
            case rel => exact ⟨q + 1, by omega, by go_num, by rw [hs2.out], hb9⟩
            case measure => simp [intOf]; omega
          cases hc : (fokB f && anyB f X Y)
          · have hs2 : Hid (sameTo f x y u v (q + 1) = true) := by show _ = _; rw [HSu.out]; unfold agree; rw [hc]; rfl
            go_wp2_with fail
            (refine wp_region_bel (by kernel_rfl) (by kernel_rfl) ?_; (repeat (go_big_quiet_step ((first | (go_at_call 20; exact calls_bel (implCovers_eq (by with_reducible assumption) (ts_bel ts9 _))) | (go_at_call 21; exact calls_bel (implLess_eq (by with_reducible assumption) _)))))); refine wpQuiet_nil ?_)
            intro w9 hw9
            replace hw9 := bel_out hw9
            have hb9 := bStep hbq hw9
            go_wp2_with fail
            go_roundw
            case rel => exact ⟨q + 1, by omega, by go_num, by rw [hs2.out], hb9⟩
            case measure => simp [intOf]; omega
          cases hl1 : leB x y X Y
          · cases hl2 : leB u v X Y
            · have hs2 : Hid (sameTo f x y u v (q + 1) = true) := by show _ = _; rw [HSu.out]; unfold agree; rw [hc, hl1, hl2]; rfl
              go_wp2_with fail
              (refine wp_region_bel (by kernel_rfl) (by kernel_rfl) ?_; (repeat (go_big_quiet_step ((first | (go_at_call 20; exact calls_bel (implCovers_eq (by with_reducible assumption) (ts_bel ts9 _))) | (go_at_call 21; exact calls_bel (implLess_eq (by with_reducible assumption) _)))))); refine wpQuiet_nil ?_)
              intro w9 hw9
              replace hw9 := bel_out hw9
              have hb9 := bStep hbq hw9
              go_wp2_with fail
              go_roundw
              case rel => exact ⟨q + 1, by omega, by go_num, by rw [hs2.out], hb9⟩
              case measure => simp [intOf]; omega
            · have hs2 : Hid (sameTo f x y u v (q + 1) = false) := by show _ = _; rw [HSu.out]; unfold agree; rw [hc, hl1, hl2]; rfl
              go_wp2_with fail
              (refine wp_region_bel (by kernel_rfl) (by kernel_rfl) ?_; (repeat (go_big_quiet_step ((first | (go_at_call 20; exact calls_bel (implCovers_eq (by with_reducible assumption) (ts_bel ts9 _))) | (go_at_call 21; exact calls_bel (implLess_eq (by with_reducible assumption) _)))))); refine wpQuiet_nil ?_)
              intro w9 hw9
              replace hw9 := bel_out hw9
              have hb9 := bStep hbq hw9
              go_wp2_with fail
              go_roundw
              case rel => exact ⟨q + 1, by omega, by go_num, by rw [hs2.out], hb9⟩
              case measure => simp [intOf]; omega
          · cases hl2 : leB u v X Y
            · have hs2 : Hid (sameTo f x y u v (q + 1) = false) := by show _ = _; rw [HSu.out]; unfold agree; rw [hc, hl1, hl2]; rfl
              go_wp2_with fail
              (refine wp_region_bel (by kernel_rfl) (by kernel_rfl) ?_; (repeat (go_big_quiet_step ((first | (go_at_call 20; exact calls_bel (implCovers_eq (by with_reducible assumption) (ts_bel ts9 _))) | (go_at_call 21; exact calls_bel (implLess_eq (by with_reducible assumption) _)))))); refine wpQuiet_nil ?_)
              intro w9 hw9
              replace hw9 := bel_out hw9
              have hb9 := bStep hbq hw9
              go_wp2_with fail
              go_roundw
              case rel => exact ⟨q + 1, by omega, by go_num, by rw [hs2.out], hb9⟩
              case measure => simp [intOf]; omega
            · have hs2 : Hid (sameTo f x y u v (q + 1) = true) := by show _ = _; rw [HSu.out]; unfold agree; rw [hc, hl1, hl2]; rfl
              go_wp2_with fail
              (refine wp_region_bel (by kernel_rfl) (by kernel_rfl) ?_; (repeat (go_big_quiet_step ((first | (go_at_call 20; exact calls_bel (implCovers_eq (by with_reducible assumption) (ts_bel ts9 _))) | (go_at_call 21; exact calls_bel (implLess_eq (by with_reducible assumption) _)))))); refine wpQuiet_nil ?_)
              intro w9 hw9
              replace hw9 := bel_out hw9
              have hb9 := bStep hbq hw9
              go_wp2_with fail
              go_roundw
              case rel => exact ⟨q + 1, by omega, by go_num, by rw [hs2.out], hb9⟩
              case measure => simp [intOf]; omega
        · obtain rfl : q = 64 := by omega
          have bm9 := bm8.keep hbq
          have hb9 := bStep hbr hbq
          have t0 := bm9.bel0
          have t1 := bm9.bel1
          have hne := bel_some wr
          have du : ∀ p : Bel wr, p.ww.cell? ⟨g, k * 2, none⟩ = some (.int .i64 u) := fun p => cell_below p.below (cell_below hbq (cell_below hbr cu))
          have dv : ∀ p : Bel wr, p.ww.cell? ⟨g, k * 2 + 1, none⟩ = some (.int .i64 v) := fun p => cell_below p.below (cell_below hbq (cell_below hbr cv))
          have HL2 : Hid (sameTo f x y u v 64 = true → leB u v m1 m2 = true) := HL.out u v
          generalize sameTo f x y u v 64 = s1 at *
          cases s1
          · go_wp2_with fail
            (refine wp_region_bel (by kernel_rfl) (by kernel_rfl) ?_; (repeat (go_big_quiet_step ((first | (go_at_call 21; exact calls_bel (implLess_eq (by with_reducible assumption) _)))))); refine wpQuiet_nil ?_)
            intro w10 hw10
            replace hw10 := bel_out hw10
            have hb10 := bStep hb9 hw10
            go_wp2_with fail
            go_roundw
            case rel => exact ⟨k + 1, by omega, by go_num, hb10⟩
            case measure => simp [intOf]; omega
          · have hle := HL2.out rfl
            go_wp2_with fail
            (refine wp_region_bel (by kernel_rfl) (by kernel_rfl) ?_; (repeat (go_big_quiet_step ((first | (go_at_call 21; exact calls_bel (implLess_eq (by with_reducible assumption) _)))))); refine wpQuiet_nil ?_)
            intro w10 hw10
            replace hw10 := bel_out hw10
            have hb10 := bStep hb9 hw10
            go_wp2_with fail
            go_roundw
            case rel => exact ⟨k + 1, by omega, by go_num, hb10⟩
            case measure => simp [intOf]; omega
    · have hb8 := bStep hb7 hbr
      go_wp2_with fail
      go_ret
      exact ⟨rfl, hb8⟩
end FnFrontMoveLast
namespace RowFnFrontMoveLast
theorem own : ownKnob Try.prog.godebug = none := by kernel_rfl
theorem laidOut : laidOutB Try.prog = true := by kernel_rfl
set_option maxRecDepth 100000 in
theorem lifted (os : Os) (started : os.Started) (H : Type) (enc : TypeId × Value → H) :
    ReturnsInHanded {} Try.checked os 7 .any (Rows.fnFrontMoveLastSpec.pre6 enc Try.prog Try.f7 Rows.fnFrontMoveLastRow.domain false) (Rows.fnFrontMoveLastSpec.post enc Try.prog Try.f7 false true false false) := by
  refine returnsInHanded_of_change (C := Try.checked) own started (by kernel_rfl) Try.func7
    (ChangeSpec.witness6 (enc := enc) (C := Try.checked) false ⟨#[], #[.slice none 0 0], []⟩ 8 (by kernel_rfl) (by kernel_rfl) (by kernel_rfl) (by kernel_rfl)) ?_
  intro W base args ds gs before hval0 hW hcnd _
  have hval : ∀ (j : Nat) t v, Try.f7.params[j]? = some t → args[j]? = some v → Value.okWide Try.prog W .any base t v := hval0
  have hW' := hW
  obtain ⟨p, q, hA0, hV, rfl, hfz, hnd⟩ := hW
  have hA : DataW.TrodAll enc Try.prog W 0 (fun _ => true) true Try.f7.params.toList args.toList ds p := hA0
  rw [Try.params7] at hA hval
  obtain ⟨v0, vs0, d0, ds0, p0, q0, hargs, rfl, rfl, h0, r0⟩ := trodAll_cons hA
  obtain ⟨rfl, rfl, rfl⟩ := trodAll_nil r0
  obtain rfl : args = #[v0] := by cases args; simp_all
  obtain ⟨rfl, rfl⟩ := trodVars_none hV
  obtain ⟨a0, len0, cap0, rfl⟩ := okWide_slice Try.underlying22 (hval 0 22 v0 rfl rfl)
  have k0 := h0
  have lt0 : ∀ x ∈ p0, x.block < W.heap.size := by obtain ⟨m, hm⟩ := k0; exact DataW.trod_lt m _ _ _ hm
  have w0 : Src W (.slice a0 len0 cap0) len0 := by
    obtain ⟨fuel, hf⟩ := h0
    rcases open_ints Try.underlying22 Try.underlying5 (by kernel_rfl) hf with ⟨hcs, _⟩ | ⟨x, l, c, zs, hcs, _, hl, hm, hz, _, hcell, hwz⟩
    · simp [Value.cells] at hcs
      obtain ⟨rfl, rfl, rfl⟩ := hcs
      exact Src.nil _
    · simp [Value.cells] at hcs
      obtain ⟨rfl, rfl, rfl⟩ := hcs
      exact Src.of_row hl hm (by simpa using hz) hcell hwz
  clear hA0 hval0
  refine (FnFrontMoveLast.walk a0 len0 cap0 W w0).mono fun e W' ⟨he, bel⟩ => ?_
  subst he
  exact ⟨_, rfl, _, _, _, [], _, [], hW', trodAll_mk1 (shut_bool Try.underlying4 _), (trodAll_cons_mk (Below.trod laidOut (by kernel_rfl) (of_decide_eq_true (by kernel_rfl)) k0 bel lt0) trodAll_mk0), rfl, bel.frame _, fun h => by cases h⟩
theorem over : Rows.fnFrontMoveLastRow.holds Try.pinned (OpenSpec.ofChange Rows.fnFrontMoveLastSpec) :=
  OpenClaim.holds_of_wide 7 Try.f7 rfl rfl rfl rfl rfl rfl rfl ⟨rfl, rfl, rfl, rfl, rfl⟩ rfl rfl rfl rfl rfl (by kernel_rfl) Try.func7 (by kernel_rfl)
    (of_decide_eq_true (by kernel_rfl)) (by unfold Func.isWrapper; first | (rw [if_pos (by decide +kernel)]; kernel_rfl) | (rw [if_neg (by decide +kernel)]; exact ⟨rfl, rfl⟩))
    (fun os started H enc _ => lifted os started H enc)
end RowFnFrontMoveLast
theorem fnFrontMoveLast_holds : Rows.FnFrontMoveLastSaid := RowFnFrontMoveLast.over
end Go.Proofs.Ytpmkhempkblokaa
