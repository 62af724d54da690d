/- For all bytes: the front of the times that they draw is of them, covers them all, none of its times is not later than another one, it is a front, and FrontOf of the program answers as the model's; the argument reads afterwards as before. No condition. -/
import Derived.Test.YtpmkhempkblokaaFr20
import Derived.Test.YtpmkhempkblokaaFr21
import Derived.Test.YtpmkhempkblokaaFr22
namespace Go.Proofs.Ytpmkhempkblokaa
open Go.ChangeShapes Go.WideShapes Go.ChangeAt Go.RowKit Go.Joins

namespace FnFrontOf
theorem self_true (l : List (Int × Int)) : decide (l = l) = true := by simp
theorem specFrontOf_k {v : Value} {l : List (Int × Int)} {w : World} (h : Ts w v l) :
    Calls Try.prog 19 #[v] w fun e w' => ∃ o : Value, e = .returned o ∧ Ts w' o (frontL l) ∧ Below w.heap.size w w' := by
  refine (specFrontOf_any v l w h).mono ?_
  rintro e w' ⟨o, rfl, h1, h2⟩
  exact ⟨o, rfl, h1.ts (by have := front_len8 l; omega), h2⟩
theorem implFrontOf_k {v : Value} {l : List (Int × Int)} {w : World} (h : Ts w v l) :
    Calls Try.prog 17 #[v] w fun e w' => ∃ o : Value, e = .returned o ∧ Ts w' o (frontL l) ∧ Below w.heap.size w w' := by
  refine (implFrontOf_any v l w h).mono ?_
  rintro e w' ⟨o, rfl, h1, h2⟩
  exact ⟨o, rfl, h1.ts (by have := front_len8 l; omega), h2⟩
/-- What is asked of the front F of the times l. -/
structure Facts (l F : List (Int × Int)) : Prop where
  ok : fokB F = true
  few : F.length ≤ 8
  cov : ∀ i, i < l.length → (fokB F && anyB F (tA l i) (tB l i)) = true
  mem : ∀ k, k < F.length → memTo l (tA F k) (tB F k) l.length = true
  apart : ∀ i k, k < i → i < F.length → leB (tA F i) (tB F i) (tA F k) (tB F k) = false ∧ leB (tA F k) (tB F k) (tA F i) (tB F i) = false
theorem facts {l : List (Int × Int)} (h : (frontL l).length ≠ 0) : Facts l (frontL l) := by
  have ha : aokB l = true := by
    cases e : aokB l
    · rw [front_none e] at h; exact absurd rfl h
    · rfl
  have hf := front_fok l
  refine ⟨hf, front_len8 l, fun i hi => ?_, fun k hk => ?_, fun i k hki hi => ?_⟩
  · rw [hf, Bool.true_and, front_any ha]
    exact any_iff.2 ⟨_, at_mem hi, leP_refl (aok_mem ha _ (at_mem hi))⟩
  · obtain ⟨j, hj, e⟩ := mem_at ((front_mem ha _).1 (at_mem hk)).1
    unfold memTo
    rw [List.any_eq_true]
    refine ⟨j, List.mem_range.2 hj, ?_⟩
    rw [Prod.ext_iff] at e
    unfold eqAt
    exact decide_eq_true ⟨e.1.symm, e.2.symm⟩
  · have hd := fok_far hf k (i - k - 1) (by omega)
    rw [show k + (i - k - 1) + 1 = i by omega] at hd
    constructor
    · rw [Bool.eq_false_iff]; intro e; have := leB_iff.1 e; omega
    · rw [Bool.eq_false_iff]; intro e; have := leB_iff.1 e; omega
set_option maxHeartbeats 8000000 in
theorem walk (x0 : Option Addr) (len0 cap0 : Nat) (w : World) (h0 : Src w (.slice x0 len0 cap0) len0) :
    Calls Try.prog 3 #[.slice x0 len0 cap0] w fun e w' => e = .returned (.bool true) ∧ Below w.heap.size w w' := by
  by_cases g0 : (1048576 : Int) < (len0 : Int)
  · go_enter Try.func3, Try.ntmps3
    go_wp2_with fail
    go_ret
    exact ⟨rfl, Below.refl _ _⟩
  go_enter Try.func3, Try.ntmps3
  go_wp2_with fail
  refine (drawOf_any _ _ _ _ h0).mono ?_
  rintro e w1 ⟨o, l, rfl, hl, hown, hb1⟩
  have ts1 := hown.ts (by omega)
  clear h0 hown
  go_wp2_with fail
  refine (implFrontOf_k ts1).mono ?_
  rintro e w2 ⟨o2, rfl, tf2, hb2⟩
  have ts2 := ts1.keep hb2
  have hbw2 := bStep hb1 hb2
  clear ts1 hb1 hb2
  go_wp2_with fail
  refine (specFrontOf_k ts2).mono ?_
  rintro e w3 ⟨o3, rfl, tg3, hb3⟩
  have ts3 := ts2.keep hb3
  have tf3 := tf2.keep hb3
  have hbw3 := bStep hbw2 hb3
  clear ts2 tf2 hbw2 hb3
  go_wp2_with fail
  refine (lwTimes_eq (self_true _) tf3 tg3).mono ?_
  rintro e w4 ⟨rfl, hb4⟩
  have ts4 := ts3.keep hb4
  have tf4 := tf3.keep hb4
  have hbw4 := bStep hbw3 hb4
  clear ts3 tf3 tg3 hbw3 hb4
  have HFA : Hid ((frontL l).length ≠ 0 → Facts l (frontL l)) := facts
  have HSF : Hid (∀ (v : Value) (w : World), Ts w v l → Calls Try.prog 19 #[v] w fun e w' => ∃ o : Value, e = .returned o ∧ Ts w' o (frontL l) ∧ Below w.heap.size w w') := fun v w h => specFrontOf_k h
  generalize frontL l = F at *
  have TF : Hid (Ts w4 o2 F) := tf4
  have TL : Hid (Ts w4 o l) := ts4
  obtain ⟨a, cap, rfl, hc, hm, hn, hcells⟩ := ts4
  obtain ⟨a2, cap2, rfl, hc2, hm2, hn2, hcells2⟩ := tf4
  unfold maxLen at hm hm2
  have HC := (show Hid _ from hcells)
  have HC2 := (show Hid _ from hcells2)
  clear hcells hcells2
  by_cases hz : F.length = 0
  · obtain rfl : F = [] := List.eq_nil_of_length_eq_zero hz
    clear HFA hz HC HC2
    have tf4 : Ts w4 (.slice a2 0 cap2) [] := TF.out
    simp only [List.length_nil] at hc2 hn2
    go_wp2_with fail
    refine (HSF.out _ _ TL.out).mono ?_
    rintro e w5 ⟨o5, rfl, tg5, hb5⟩
    have tf5 := tf4.keep hb5
    have hbw5 := bStep hbw4 hb5
    go_wp2_with fail
    refine (lwTimes_eq (self_true _) tf5 tg5).mono ?_
    rintro e w6 ⟨rfl, hb6⟩
    have hbw6 := bStep hbw5 hb6
    go_wp2_with fail
    go_ret
    exact ⟨rfl, hbw6⟩
  have FA := (show Hid _ from HFA.out hz)
  have hz' : ((F.length : Int) == 0) = false := beq_eq_false_iff_ne.2 (by omega)
  clear HFA HSF
  go_wp2_with fail
  go_loopw [5] (fun i wr => ∃ k : Nat, k ≤ l.length ∧ i = .int .i64 k ∧ Below w4.heap.size w4 wr) (fun i _ => l.length - (intOf i).toNat)
  case atStart => exact ⟨0, by omega, rfl, Below.refl _ _⟩
  case round =>
    obtain ⟨k, hk, rfl, hb⟩ := hrel
    by_cases hlt : k < l.length
    · obtain ⟨g, off, rfl, hg, c0, c1⟩ := HC.out k hlt
      have d0 := cell_below hb c0
      have d1 := cell_below hb c1
      have tfr := Ts.keep TF.out hb
      have hcv := (show Hid _ from FA.out.cov k hlt)
      generalize tA l k = X at *
      generalize tB l k = Y at *
      clear c0 c1
      go_wp2_with fail
      refine (implCovers_eq hcv.out tfr).mono ?_
      rintro e w5 ⟨rfl, hb5⟩
      have hb6 := bStep hb hb5
      go_wp2_with fail
      go_roundw
      case rel => exact ⟨k + 1, by omega, by go_num, hb6⟩
      case measure => simp [intOf]; omega
    · have hbw5 := bStep hbw4 hb
      have TF5 : Hid (Ts wr _ F) := Ts.keep TF.out hb
      obtain ⟨w5, hw5⟩ : ∃ w5, w5 = wr := ⟨_, rfl⟩
      subst hw5
      have hn8 := FA.out.few
      go_wp2_with fail
      go_loopw [6] (fun i wr => ∃ k : Nat, k ≤ F.length ∧ i = .int .i64 k ∧ Below w5.heap.size w5 wr) (fun i _ => F.length - (intOf i).toNat)
      case atStart => exact ⟨0, by omega, rfl, Below.refl _ _⟩
      case round =>
        obtain ⟨m, hmk, rfl, hbr⟩ := hrel
        by_cases hmt : m < F.length
        · obtain ⟨g2, off2, rfl, hg2, p0, p1⟩ := HC2.out m hmt
          have q0 := cell_below hbr (cell_below hb p0)
          have q1 := cell_below hbr (cell_below hb p1)
          clear p0 p1
          have HME := (show Hid _ from FA.out.mem m hmt)
          have HAP : Hid (∀ k, k < m → leB (tA F m) (tB F m) (tA F k) (tB F k) = false ∧ leB (tA F k) (tB F k) (tA F m) (tB F m) = false) := fun k hk => FA.out.apart m k hk hmt
          generalize tA F m = X at *
          generalize tB F m = Y at *
          obtain ⟨w6, hw6⟩ : ∃ w6, w6 = wr := ⟨_, rfl⟩
          subst hw6
          go_wp2_with fail
          go_loopw [7, 8] (fun lb i wq => ∃ q : Nat, q ≤ l.length ∧ i = .int .i64 q ∧ lb = .bool (memTo l X Y q) ∧ Below w6.heap.size w6 wq) (fun _ i _ => l.length - (intOf i).toNat)
          case atStart => exact ⟨0, by omega, rfl, rfl, Below.refl _ _⟩
          case round =>
            obtain ⟨q, hq, rfl, rfl, hbq⟩ := hrel
            by_cases hqt : q < l.length
            · obtain ⟨g, off, rfl, hg, c0, c1⟩ := HC.out q hqt
              have d0 := cell_below hbq (cell_below hbr (cell_below hb c0))
              have d1 := cell_below hbq (cell_below hbr (cell_below hb c1))
              have r0 := cell_below hbq q0
              have r1 := cell_below hbq q1
              have HS := (show Hid _ from memTo_succ l X Y q)
              have HE := (show Hid (eqAt l X Y q = decide (tA l q = X ∧ tB l q = Y)) from rfl)
              generalize tA l q = X' at *
              generalize tB l q = Y' at *
              clear c0 c1 q0 q1
              have iq : ((q : Int) < (l.length : Int)) := by omega
              have im : ((m : Int) < (F.length : Int)) := by omega
              cases hme : memTo l X Y q
              · by_cases hX : X' = X
                · by_cases hY : Y' = Y
                  · subst hX hY
                    go_wp2_with fail
                    go_quiet (fail)
                    go_wp2_with fail
                    go_roundw
                    case rel => exact ⟨q + 1, by omega, by go_num, by rw [HS.out, HE.out]; simp, bDrewN hbq _⟩
                    case measure => simp [intOf]; omega
                  · subst hX
                    have ny : (Y' == Y) = false := beq_eq_false_iff_ne.2 hY
                    go_wp2_with fail
                    go_quiet (fail)
                    go_wp2_with fail
                    go_roundw
                    case rel => exact ⟨q + 1, by omega, by go_num, by rw [HS.out, HE.out, hme]; simp [hY], bDrewN hbq _⟩
                    case measure => simp [intOf]; omega
                · have nx : (X' == X) = false := beq_eq_false_iff_ne.2 hX
                  go_wp2_with fail
                  go_quiet (fail)
                  go_wp2_with fail
                  go_roundw
                  case rel => exact ⟨q + 1, by omega, by go_num, by rw [HS.out, HE.out, hme]; simp [hX], bDrewN hbq _⟩
                  case measure => simp [intOf]; omega
              · go_wp2_with fail
                go_quiet (fail)
                go_wp2_with fail
                go_roundw
                case rel => exact ⟨q + 1, by omega, by go_num, by rw [HS.out, hme]; simp, bDrewN hbq _⟩
                case measure => simp [intOf]; omega
            · obtain rfl : q = l.length := by omega
              have hme := HME.out
              rw [hme]
              obtain ⟨w7, hw7⟩ : ∃ w7, w7 = wr := ⟨_, rfl⟩
              subst hw7
              have r0 := cell_below hbq q0
              have r1 := cell_below hbq q1
              clear q0 q1 hme
              have hbw7 := bStep hbr hbq
              go_wp2_with fail
              go_loopw [7, 9] (fun lb i wq => ∃ q : Nat, q ≤ m ∧ i = .int .i64 q ∧ lb = .bool true ∧ Below w7.heap.size w7 wq) (fun _ i _ => m - (intOf i).toNat)
              case atStart => exact ⟨0, by omega, rfl, rfl, Below.refl _ _⟩
              case round =>
                obtain ⟨u, hu, rfl, rfl, hbu⟩ := hrel
                by_cases hut : u < m
                · obtain ⟨g3, off3, he, hg3, c0, c1⟩ := HC2.out u (by omega)
                  simp at he
                  obtain ⟨rfl, rfl⟩ := he
                  obtain ⟨n1, n2⟩ := HAP.out u hut
                  generalize tA F u = X' at *
                  generalize tB F u = Y' at *
                  have d0 : ∀ p : Bel wr, p.ww.cell? ⟨g2, off2 + u * 2, none⟩ = some (.int .i64 X') := fun p => cell_below p.below (cell_below hbu (cell_below hbw7 (cell_below hb c0)))
                  have d1 : ∀ p : Bel wr, p.ww.cell? ⟨g2, off2 + u * 2 + 1, none⟩ = some (.int .i64 Y') := fun p => cell_below p.below (cell_below hbu (cell_below hbw7 (cell_below hb c1)))
                  have e0 : ∀ p : Bel wr, p.ww.cell? ⟨g2, off2 + m * 2, none⟩ = some (.int .i64 X) := fun p => cell_below p.below (cell_below hbu r0)
                  have e1 : ∀ p : Bel wr, p.ww.cell? ⟨g2, off2 + m * 2 + 1, none⟩ = some (.int .i64 Y) := fun p => cell_below p.below (cell_below hbu r1)
                  clear c0 c1
                  have hne := bel_some wr
                  have iu : ((u : Int) < (m : Int)) := by omega
                  have iF : ((u : Int) < (F.length : Int)) := by omega
                  have im : ((m : Int) < (F.length : Int)) := by omega
                  go_wp2_with fail
                  (refine wp_region_bel (by kernel_rfl) (by kernel_rfl) ?_; (repeat (go_big_quiet_step ((first | (go_at_call 21; exact calls_bel (implLess_eq (by with_reducible assumption) _)))))); refine wpQuiet_nil ?_)
                  intro w8 hw8
                  replace hw8 := bel_out hw8
                  have hb8 := bStep hbu hw8
                  go_wp2_with fail
                  go_roundw
                  case rel => exact ⟨u + 1, by omega, by go_num, rfl, hb8⟩
                  case measure => simp [intOf]; omega
                · have hb8 := bStep hbw7 hbu
                  go_wp2_with fail
                  go_roundw
                  case rel => exact ⟨m + 1, by omega, by go_num, hb8⟩
                  case measure => simp [intOf]; omega
        · have tfr := Ts.keep TF5.out hbr
          have hok := (show Hid _ from FA.out.ok)
          go_wp2_with fail
          have hfo := implFrontOk_any _ F _ tfr
          rw [hok.out] at hfo
          refine hfo.mono ?_
          rintro e w9 ⟨rfl, hb9⟩
          go_wp2_with fail
          go_ret
          exact ⟨rfl, bStep (bStep hbw5 hbr) hb9⟩
end FnFrontOf
namespace RowFnFrontOf
theorem own : ownKnob Try.prog.godebug = none := by kernel_rfl
theorem laidOut : laidOutB Try.prog = true := by kernel_rfl
set_option maxRecDepth 100000 in
theorem lifted (os : Os) (started : os.Started) (H : Type) (enc : TypeId × Value → H) :
    ReturnsInHanded {} Try.checked os 3 .any (Rows.fnFrontOfSpec.pre6 enc Try.prog Try.f3 Rows.fnFrontOfRow.domain false) (Rows.fnFrontOfSpec.post enc Try.prog Try.f3 false true false false) := by
  refine returnsInHanded_of_change (C := Try.checked) own started (by kernel_rfl) Try.func3
    (ChangeSpec.witness6 (enc := enc) (C := Try.checked) false ⟨#[], #[.slice none 0 0], []⟩ 8 (by kernel_rfl) (by kernel_rfl) (by kernel_rfl) (by kernel_rfl)) ?_
  intro W base args ds gs before hval0 hW hcnd _
  have hval : ∀ (j : Nat) t v, Try.f3.params[j]? = some t → args[j]? = some v → Value.okWide Try.prog W .any base t v := hval0
  have hW' := hW
  obtain ⟨p, q, hA0, hV, rfl, hfz, hnd⟩ := hW
  have hA : DataW.TrodAll enc Try.prog W 0 (fun _ => true) true Try.f3.params.toList args.toList ds p := hA0
  rw [Try.params3] at hA hval
  obtain ⟨v0, vs0, d0, ds0, p0, q0, hargs, rfl, rfl, h0, r0⟩ := trodAll_cons hA
  obtain ⟨rfl, rfl, rfl⟩ := trodAll_nil r0
  obtain rfl : args = #[v0] := by cases args; simp_all
  obtain ⟨rfl, rfl⟩ := trodVars_none hV
  obtain ⟨a0, len0, cap0, rfl⟩ := okWide_slice Try.underlying22 (hval 0 22 v0 rfl rfl)
  have k0 := h0
  have lt0 : ∀ x ∈ p0, x.block < W.heap.size := by obtain ⟨m, hm⟩ := k0; exact DataW.trod_lt m _ _ _ hm
  have w0 : Src W (.slice a0 len0 cap0) len0 := by
    obtain ⟨fuel, hf⟩ := h0
    rcases open_ints Try.underlying22 Try.underlying5 (by kernel_rfl) hf with ⟨hcs, _⟩ | ⟨x, l, c, zs, hcs, _, hl, hm, hz, _, hcell, hwz⟩
    · simp [Value.cells] at hcs
      obtain ⟨rfl, rfl, rfl⟩ := hcs
      exact Src.nil _
    · simp [Value.cells] at hcs
      obtain ⟨rfl, rfl, rfl⟩ := hcs
      exact Src.of_row hl hm (by simpa using hz) hcell hwz
  clear hA0 hval0
  refine (FnFrontOf.walk a0 len0 cap0 W w0).mono fun e W' ⟨he, bel⟩ => ?_
  subst he
  exact ⟨_, rfl, _, _, _, [], _, [], hW', trodAll_mk1 (shut_bool Try.underlying4 _), (trodAll_cons_mk (Below.trod laidOut (by kernel_rfl) (of_decide_eq_true (by kernel_rfl)) k0 bel lt0) trodAll_mk0), rfl, bel.frame _, fun h => by cases h⟩
theorem over : Rows.fnFrontOfRow.holds Try.pinned (OpenSpec.ofChange Rows.fnFrontOfSpec) :=
  OpenClaim.holds_of_wide 3 Try.f3 rfl rfl rfl rfl rfl rfl rfl ⟨rfl, rfl, rfl, rfl, rfl⟩ rfl rfl rfl rfl rfl (by kernel_rfl) Try.func3 (by kernel_rfl)
    (of_decide_eq_true (by kernel_rfl)) (by unfold Func.isWrapper; first | (rw [if_pos (by decide +kernel)]; kernel_rfl) | (rw [if_neg (by decide +kernel)]; exact ⟨rfl, rfl⟩))
    (fun os started H enc _ => lifted os started H enc)
end RowFnFrontOf
theorem fnFrontOf_holds : Rows.FnFrontOfSaid := RowFnFrontOf.over
end Go.Proofs.Ytpmkhempkblokaa
