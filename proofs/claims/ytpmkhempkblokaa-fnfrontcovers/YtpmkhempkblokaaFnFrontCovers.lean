/- For all bytes: of the front and the time that they draw, what is behind a time that is covered is covered, a front's own times are covered, and FrontCovers of the program answers as the model's; the argument reads afterwards as before. No condition. -/
import Derived.Test.YtpmkhempkblokaaFr12
namespace Go.Proofs.Ytpmkhempkblokaa
open Go.ChangeShapes Go.WideShapes Go.ChangeAt Go.RowKit Go.Joins

namespace FnFrontCovers
set_option maxHeartbeats 8000000 in
theorem walk (x0 : Option Addr) (len0 cap0 : Nat) (w : World) (h0 : Src w (.slice x0 len0 cap0) len0) :
    Calls Try.prog 5 #[.slice x0 len0 cap0] w fun e w' => e = .returned (.bool true) ∧ Below w.heap.size w w' := by
  by_cases g0 : (1048576 : Int) < (len0 : Int)
  · go_enter Try.func5, Try.ntmps5
    go_wp2_with fail
    go_ret
    exact ⟨rfl, Below.refl _ _⟩
  go_enter Try.func5, Try.ntmps5
  go_wp2_with fail
  refine (drawCovers_any _ _ _ _ h0).mono ?_
  rintro e w1 ⟨o, f, x, y, rfl, hl, hown, hb1⟩
  have ts1 := hown.ts (by omega)
  clear h0 hown
  have bt2 := Bk.new (w := w1) #[.int .i64 x, .int .i64 y] 29 rfl
  have ts2 := ts1.keep (bAlloc (Below.refl _ _) (.cells #[.int .i64 x, .int .i64 y] 29))
  have hb2 := bAlloc hb1 (.cells #[.int .i64 x, .int .i64 y] 29)
  obtain ⟨r, hr⟩ : ∃ r, (fokB f && anyB f x y) = r := ⟨_, rfl⟩
  have HR : Hid ((fokB f && anyB f x y) = r) := hr
  clear hr
  go_wp2_with fail
  generalize (w1.alloc (.cells #[.int .i64 x, .int .i64 y] 29)) = w2 at *
  refine (implCovers_eq HR.out ts2).mono ?_
  rintro e w3 ⟨rfl, hb3⟩
  have bt3 := bt2.keep hb3
  have ts3 := ts2.keep hb3
  have hbw3 := bStep hb2 hb3
  clear bt2 ts2 hb2 hb3
  obtain ⟨t0, t1, _, _⟩ := bt3.two
  go_wp2_with fail
  refine (specCovers_eq HR.out ts3).mono ?_
  rintro e w4 ⟨rfl, hb4⟩
  have bt4 := bt3.keep hb4
  have ts4 := ts3.keep hb4
  have hbw4 := bStep hbw3 hb4
  clear bt3 ts3 hbw3 hb4 t0 t1
  obtain ⟨t0, t1, _, _⟩ := bt4.two
  cases hf : fokB f
  · have HR2 := HR
    go_wp2_with fail
    refine (specFrontOk_eq hf ts4).mono ?_
    rintro e w5 ⟨rfl, hb5⟩
    have ts5 := ts4.keep hb5
    have hbw5 := bStep hbw4 hb5
    obtain ⟨s0, s1, _, _⟩ := (bt4.keep hb5).two
    go_wp2_with fail
    refine (specCovers_eq HR2.out ts5).mono ?_
    rintro e w6 ⟨rfl, hb6⟩
    go_wp2_with fail
    go_ret
    exact ⟨ret_bool (by simp), bStep hbw5 hb6⟩
  have HF : Hid (fokB f = true) := hf
  go_wp2_with fail
  refine (specFrontOk_eq hf ts4).mono ?_
  rintro e w5 ⟨rfl, hb5⟩
  have bt5 := bt4.keep hb5
  have ts5 := ts4.keep hb5
  have hbw5 := bStep hbw4 hb5
  clear bt4 ts4 hbw4 hb5 t0 t1 hf
  go_wp2_with fail
  refine (lwAll_any _).mono ?_
  rintro e w7 ⟨g, cap, rfl, hown, hg, hw7⟩
  have bt7 := bt5.keep hw7
  have ts7 := ts5.keep hw7
  have hb7 := bStep hbw5 hw7
  have HO := (show Hid _ from hown)
  clear bt5 ts5 hbw5 hw7 hown hg
  go_wp2_with fail
  go_loopw [7] (fun i wr => ∃ k : Nat, k ≤ 64 ∧ i = .int .i64 k ∧ Below w7.heap.size w7 wr) (fun i _ => 64 - (intOf i).toNat)
  case atStart => exact ⟨0, by omega, rfl, Below.refl _ _⟩
  case round =>
    obtain ⟨k, hk, rfl, hbr⟩ := hrel
    by_cases hlt : k < 64
    · have bt8 := bt7.keep hbr
      have ts8 := ts7.keep hbr
      have t0 := bt8.bel0
      have t1 := bt8.bel1
      have hne := bel_some wr
      obtain ⟨X, Y, cX, cY⟩ : ∃ X Y : Int, w7.cell? ⟨g, k * 2, none⟩ = some (.int .i64 X) ∧ w7.cell? ⟨g, k * 2 + 1, none⟩ = some (.int .i64 Y) := ⟨_, _, (all_cells HO.out hlt).1, (all_cells HO.out hlt).2⟩
      have dX : ∀ p : Bel wr, p.ww.cell? ⟨g, k * 2, none⟩ = some (.int .i64 X) := fun p => cell_below p.below (cell_below hbr cX)
      have dY : ∀ p : Bel wr, p.ww.cell? ⟨g, k * 2 + 1, none⟩ = some (.int .i64 Y) := fun p => cell_below p.below (cell_below hbr cY)
      have hk64 : decide ((k : Int) < 64) = true := by simp; omega
      clear cX cY
      have HX : Hid (r = true → leB x y X Y = true → (fokB f && anyB f X Y) = true) := by
        intro h h'
        rw [← HR.out, HF.out] at h
        rw [HF.out, any_trans (by simpa using h) h']; rfl
      cases r
      · go_wp2_with fail
        (refine wp_region_bel (by kernel_rfl) (by kernel_rfl) ?_; (repeat (go_big_quiet_step ((first | (go_at_call 21; exact calls_bel (implLess_eq (by with_reducible assumption) _)) | (go_at_call 20; exact calls_bel (implCovers_eq (by with_reducible assumption) (ts_bel ts8 _))))))); refine wpQuiet_nil ?_)
        intro w9 hw9
        replace hw9 := bel_out hw9
        have hb9 := bStep hbr hw9
        go_wp2_with fail
        go_roundw
        case rel => exact ⟨k + 1, by omega, by go_num, hb9⟩
        case measure => simp [intOf]; omega
      · cases hle : leB x y X Y
        · go_wp2_with fail
          (refine wp_region_bel (by kernel_rfl) (by kernel_rfl) ?_; (repeat (go_big_quiet_step ((first | (go_at_call 21; exact calls_bel (implLess_eq (by with_reducible assumption) _)) | (go_at_call 20; exact calls_bel (implCovers_eq (by with_reducible assumption) (ts_bel ts8 _))))))); refine wpQuiet_nil ?_)
          intro w9 hw9
          replace hw9 := bel_out hw9
          have hb9 := bStep hbr hw9
          go_wp2_with fail
          go_roundw
          case rel => exact ⟨k + 1, by omega, by go_num, hb9⟩
          case measure => simp [intOf]; omega
        · have hcv : Hid ((fokB f && anyB f X Y) = true) := HX.out rfl hle
          clear HX
          go_wp2_with fail
          (refine wp_region_bel (by kernel_rfl) (by kernel_rfl) ?_; (repeat (go_big_quiet_step ((first | (go_at_call 21; exact calls_bel (implLess_eq (by with_reducible assumption) _)) | (go_at_call 20; exact calls_bel (implCovers_eq hcv.out (ts_bel ts8 _))))))); refine wpQuiet_nil ?_)
          intro w9 hw9
          replace hw9 := bel_out hw9
          have hb9 := bStep hbr hw9
          go_wp2_with fail
          go_roundw
          case rel => exact ⟨k + 1, by omega, by go_num, hb9⟩
          case measure => simp [intOf]; omega
    · have hbe := bStep hb7 hbr
      have tse := ts7.keep hbr
      obtain ⟨w8, hw8⟩ : ∃ w8, w8 = wr := ⟨_, rfl⟩
      subst hw8
      obtain ⟨a, cap', rfl, hc, hm, hn, hcells⟩ := tse
      have TS := ts7.keep hbr
      unfold maxLen at hm
      have HC := (show Hid _ from hcells)
      clear hcells hbr bt7 ts7
      go_wp2_with fail
      go_loopw [8] (fun i wr => ∃ k : Nat, k ≤ f.length ∧ i = .int .i64 k ∧ Below w8.heap.size w8 wr) (fun i _ => f.length - (intOf i).toNat)
      case atStart => exact ⟨0, by omega, rfl, Below.refl _ _⟩
      case round =>
        obtain ⟨m, hmk, rfl, hbr⟩ := hrel
        have hbw := bStep hbe hbr
        by_cases hmt : m < f.length
        · obtain ⟨gf, off, rfl, hgf, c0, c1⟩ := HC.out m hmt
          have d0 := cell_below hbr c0
          have d1 := cell_below hbr c1
          have ts9 := TS.keep hbr
          have hcv : Hid ((fokB f && anyB f (tA f m) (tB f m)) = true) := by show _ = true; rw [HF.out, any_self HF.out hmt]; rfl
          generalize tA f m = X at *
          generalize tB f m = Y at *
          clear c0 c1
          go_wp2_with fail
          refine (implCovers_eq hcv.out ts9).mono ?_
          rintro e w9 ⟨rfl, hb9⟩
          have hbz := bStep hbr hb9
          go_wp2_with fail
          go_roundw
          case rel => exact ⟨m + 1, by omega, by go_num, hbz⟩
          case measure => simp [intOf]; omega
        · go_wp2_with fail
          go_ret
          exact ⟨rfl, hbw⟩
end FnFrontCovers
namespace RowFnFrontCovers
theorem own : ownKnob Try.prog.godebug = none := by kernel_rfl
theorem laidOut : laidOutB Try.prog = true := by kernel_rfl
set_option maxRecDepth 100000 in
theorem lifted (os : Os) (started : os.Started) (H : Type) (enc : TypeId × Value → H) :
    ReturnsInHanded {} Try.checked os 5 .any (Rows.fnFrontCoversSpec.pre6 enc Try.prog Try.f5 Rows.fnFrontCoversRow.domain false) (Rows.fnFrontCoversSpec.post enc Try.prog Try.f5 false true false false) := by
  refine returnsInHanded_of_change (C := Try.checked) own started (by kernel_rfl) Try.func5
    (ChangeSpec.witness6 (enc := enc) (C := Try.checked) false ⟨#[], #[.slice none 0 0], []⟩ 8 (by kernel_rfl) (by kernel_rfl) (by kernel_rfl) (by kernel_rfl)) ?_
  intro W base args ds gs before hval0 hW hcnd _
  have hval : ∀ (j : Nat) t v, Try.f5.params[j]? = some t → args[j]? = some v → Value.okWide Try.prog W .any base t v := hval0
  have hW' := hW
  obtain ⟨p, q, hA0, hV, rfl, hfz, hnd⟩ := hW
  have hA : DataW.TrodAll enc Try.prog W 0 (fun _ => true) true Try.f5.params.toList args.toList ds p := hA0
  rw [Try.params5] at hA hval
  obtain ⟨v0, vs0, d0, ds0, p0, q0, hargs, rfl, rfl, h0, r0⟩ := trodAll_cons hA
  obtain ⟨rfl, rfl, rfl⟩ := trodAll_nil r0
  obtain rfl : args = #[v0] := by cases args; simp_all
  obtain ⟨rfl, rfl⟩ := trodVars_none hV
  obtain ⟨a0, len0, cap0, rfl⟩ := okWide_slice Try.underlying22 (hval 0 22 v0 rfl rfl)
  have k0 := h0
  have lt0 : ∀ x ∈ p0, x.block < W.heap.size := by obtain ⟨m, hm⟩ := k0; exact DataW.trod_lt m _ _ _ hm
  have w0 : Src W (.slice a0 len0 cap0) len0 := by
    obtain ⟨fuel, hf⟩ := h0
    rcases open_ints Try.underlying22 Try.underlying5 (by kernel_rfl) hf with ⟨hcs, _⟩ | ⟨x, l, c, zs, hcs, _, hl, hm, hz, _, hcell, hwz⟩
    · simp [Value.cells] at hcs
      obtain ⟨rfl, rfl, rfl⟩ := hcs
      exact Src.nil _
    · simp [Value.cells] at hcs
      obtain ⟨rfl, rfl, rfl⟩ := hcs
      exact Src.of_row hl hm (by simpa using hz) hcell hwz
  clear hA0 hval0
  refine (FnFrontCovers.walk a0 len0 cap0 W w0).mono fun e W' ⟨he, bel⟩ => ?_
  subst he
  exact ⟨_, rfl, _, _, _, [], _, [], hW', trodAll_mk1 (shut_bool Try.underlying4 _), (trodAll_cons_mk (Below.trod laidOut (by kernel_rfl) (of_decide_eq_true (by kernel_rfl)) k0 bel lt0) trodAll_mk0), rfl, bel.frame _, fun h => by cases h⟩
theorem over : Rows.fnFrontCoversRow.holds Try.pinned (OpenSpec.ofChange Rows.fnFrontCoversSpec) :=
  OpenClaim.holds_of_wide 5 Try.f5 rfl rfl rfl rfl rfl rfl rfl ⟨rfl, rfl, rfl, rfl, rfl⟩ rfl rfl rfl rfl rfl (by kernel_rfl) Try.func5 (by kernel_rfl)
    (of_decide_eq_true (by kernel_rfl)) (by unfold Func.isWrapper; first | (rw [if_pos (by decide +kernel)]; kernel_rfl) | (rw [if_neg (by decide +kernel)]; exact ⟨rfl, rfl⟩))
    (fun os started H enc _ => lifted os started H enc)
end RowFnFrontCovers
theorem fnFrontCovers_holds : Rows.FnFrontCoversSaid := RowFnFrontCovers.over
end Go.Proofs.Ytpmkhempkblokaa
