/- For every list of times and every time, whatever their numbers, FrontCovers of the program answers as FrontCovers of the model (a list of more than 1048576 times is passed by, as the law says), the list is left as it was, and the arguments read afterwards as before. No condition. -/
import Derived.Test.YtpmkhempkblokaaFr7
import Derived.Deep.DeepCutAuto
import Derived.Deep.DrawnRows
import Derived.Deep.RegionHeld3
import Derived.Test.YtpmkhempkblokaaFr4
namespace Go.Proofs.Ytpmkhempkblokaa
open Go.ChangeShapes Go.WideShapes Go.ChangeAt Go.RowKit Go.Joins
attribute [local go_sem ↓] Go.wp_at_zero Go.wp_at_succ
theorem implCovers_eq {l : List (Int × Int)} {x y : Int} {r : Bool} (h : (fokB l && anyB l x y) = r) {v : Value} {w : World} (ht : Ts w v l) : Calls Try.prog 20 #[v, tv x y] w fun e w' => e = .returned (.bool r) ∧ Below w.heap.size w w' := by
  rw [← h]; exact implCovers_any v l x y w ht
theorem specCovers_eq {l : List (Int × Int)} {x y : Int} {r : Bool} (h : (fokB l && anyB l x y) = r) {v : Value} {w : World} (ht : Ts w v l) : Calls Try.prog 26 #[v, tv x y] w fun e w' => e = .returned (.bool r) ∧ Below w.heap.size w w' := by
  rw [← h]; exact specCovers_any v l x y w ht
theorem ts_k {C : Prop} {w w1 : World} {v : Value} {l : List (Int × Int)} (hb : Below w.heap.size w w1) (h : Ts w v l) (c : Ts w1 v l → C) : C := c (h.keep hb)

namespace FnExactFrontCovers
set_option maxHeartbeats 8000000 in
theorem walk (a : Option Addr) (len cap : Nat) (x y : Int) (w : World) (h0 : TsArg w a len cap) :
    Calls Try.prog 13 #[.slice a len cap, tv x y] w fun e w' => e = .returned (.bool true) ∧ Below w.heap.size w w' := by
  have hl := h0.1
  have hm := h0.2.1
  by_cases hbig : (1048576 : Int) < (len : Int)
  · go_enter Try.func13, Try.ntmps13
    go_wp2_with fail
    refine (szTimeS_any _ _ _ _ _ hl hm (by omega) (by omega)).mono ?_
    rintro e w1 ⟨rfl, rfl⟩
    rw [if_pos hbig]
    go_wp2_with fail
    go_ret
    refine ⟨rfl, ?_⟩
    repeat' (first | (with_reducible exact Below.refl _ _) | (with_reducible assumption) | (with_reducible refine bStep ?_ (by with_reducible assumption)) | (with_reducible refine bAlloc ?_ _) | (with_reducible refine Below.drew ?_) | (with_reducible refine bDrewN ?_ _) | (with_reducible refine Below.setCell ?_ ?_ _) | (simp; done) | (simp; omega) | omega)
  obtain ⟨l, rfl, ht⟩ := h0.ts (by omega)
  obtain ⟨r, hmv⟩ : ∃ r : Bool, (fokB l && anyB l x y) = r := ⟨_, rfl⟩
  have HMV : Hid ((fokB l && anyB l x y) = r) := hmv
  clear hmv
  have hlen : l.length ≤ maxLen := by unfold maxLen at *; omega
  have hln2 : l.length ≤ 2097152 := by omega
  have bx := Bk.new (w := w) #[.int .i64 x, .int .i64 y] 46 rfl
  have hb0 := bAlloc (Below.refl _ w) (.cells #[.int .i64 x, .int .i64 y] 46)
  have htW := ht.keep hb0
  go_enter Try.func13, Try.ntmps13
  go_wp2_with fail
  generalize (w.alloc (.cells #[.int .i64 x, .int .i64 y] 46)) = W at *
  refine (szTimeS_any _ _ _ _ _ hl hm (by omega) (by omega)).mono ?_
  rintro e w1 ⟨rfl, hw1⟩
  subst hw1
  rw [if_neg (by omega)]
  have hpos : ¬ ((1048576 : Int) - (l.length : Int) < 0) := by omega
  obtain ⟨b0, b1, _, _⟩ := bx.two
  have lb := bx.lt
  go_wp2_with fail
  go_region_held3 (fun w' => w'.cell? ⟨w.heap.size, 0, none⟩ = some (.int .i64 x) ∧ w'.cell? ⟨w.heap.size, 1, none⟩ = some (.int .i64 y)) (repeat' (first | with_reducible assumption | with_reducible refine And.intro ?_ ?_ | with_reducible exact True.intro | with_reducible refine cell_drew ?_ | with_reducible refine cell_alloc ?_ | with_reducible refine cell_below (by with_reducible assumption) ?_ | with_reducible refine cell_apart ?_ ?_ | omega | (simp; done) | (simp; omega))) (first | (go_at_call 36; refine (toTimeS_any _ l _ (Ts.keep htW (by repeat' (first | (with_reducible exact Below.refl _ _) | (with_reducible assumption) | (with_reducible refine bStep ?_ (by with_reducible assumption)) | (with_reducible refine bAlloc ?_ _) | (with_reducible refine Below.drew ?_) | (with_reducible refine bDrewN ?_ _) | (with_reducible refine Below.setCell ?_ ?_ _) | (simp; done) | (simp; omega) | omega)))).mono ?_; rintro e w' ⟨gg, cc, rfl, hgg, hbk, hcs, hfill, hb⟩; have ts := Ts.of_blk hbk hfill (Nat.le_refl _) hlen hln2) | (go_at_call 40; refine (toTime_any _ _ _).mono ?_; rintro e w' ⟨rfl, hb⟩; (first | (with_reducible refine ts_k hb (by with_reducible assumption) ?_; intro ts2) | (with_reducible refine ts_k hb (Ts.keep (by with_reducible assumption) (bAlloc (Below.refl _ _) _)) ?_; intro ts2))) | (go_at_call 26; refine (specCovers_eq HMV.out (by with_reducible assumption)).mono ?_; rintro e w' ⟨rfl, hb⟩))
  have hbc : Below w1.heap.size w1 w' := by
    repeat' (first | (with_reducible exact Below.refl _ _) | (with_reducible assumption) | (with_reducible refine bStep ?_ (by with_reducible assumption)) | (with_reducible refine bAlloc ?_ _) | (with_reducible refine Below.drew ?_) | (with_reducible refine bDrewN ?_ _) | (with_reducible refine Below.setCell ?_ ?_ _) | (simp; done) | (simp; omega) | omega)
  have bx2 := bx.keep hbc
  have ht2 := htW.keep hbc
  have hbw2 := bStep hb0 hbc
  clear htW
  go_wp2_with fail
  refine (toTimeS_any _ l _ ht2).mono ?_
  rintro e w3 ⟨g3, c3, rfl, hg3, hbk3, hcs3, hfill3, hb3⟩
  have t3 := Ts.of_blk hbk3 hfill3 (Nat.le_refl _) hlen hln2
  have bx3 := bx2.keep hb3
  have hbw3 := bStep hbw2 hb3
  clear hcs3 hfill3 hbk3 ht2 bx2
  obtain ⟨x0, x1, _, _⟩ := bx3.two
  go_wp2_with fail
  refine (toTime_any _ _ _).mono ?_
  rintro e w4 ⟨rfl, hb4⟩
  have t4 := t3.keep hb4
  have hbw4 := bStep hbw3 hb4
  go_wp2_with fail
  refine (implCovers_eq HMV.out t4).mono ?_
  rintro e w5 ⟨rfl, hb5⟩
  have t5 := t4.keep hb5
  have hbw6 := bStep hbw4 hb5
  have ht6 := ht.keep hbw6
  go_wp2_with fail
  refine (toTimeS_any _ l _ ht6).mono ?_
  rintro e w7 ⟨g7, c7, rfl, hg7, hbk7, hcs7, hfill7, hb7⟩
  have t7 := Ts.of_blk hbk7 hfill7 (Nat.le_refl _) hlen hln2
  have hbw7 := bStep hbw6 hb7
  have t8 := t5.keep hb7
  go_wp2_with fail
  refine (eqTimeS_same _ _ l _ t8 t7).mono ?_
  rintro e w8 ⟨rfl, hb8⟩
  go_wp2_with fail
  go_ret
  exact ⟨rfl, bStep hbw7 hb8⟩
end FnExactFrontCovers
namespace RowFnExactFrontCovers
theorem own : ownKnob Try.prog.godebug = none := by kernel_rfl
theorem laidOut : laidOutB Try.prog = true := by kernel_rfl
theorem cellsT : Try.prog.cellsOf 46 = 2 := by kernel_rfl
set_option maxRecDepth 100000 in
theorem lifted (os : Os) (started : os.Started) (H : Type) (enc : TypeId × Value → H) :
    ReturnsInHanded {} Try.checked os 13 .any (Rows.fnExactFrontCoversSpec.pre6 enc Try.prog Try.f13 Rows.fnExactFrontCoversRow.domain false) (Rows.fnExactFrontCoversSpec.post enc Try.prog Try.f13 false true false false) := by
  refine returnsInHanded_of_change (C := Try.checked) own started (by kernel_rfl) Try.func13
    (ChangeSpec.witness6 (enc := enc) (C := Try.checked) false ⟨#[], #[.slice none 0 0, .agg #[.int .i64 0, .int .i64 0]], []⟩ 8 (by kernel_rfl) (by kernel_rfl) (by kernel_rfl) (by kernel_rfl)) ?_
  intro W base args ds gs before hval0 hW hcnd _
  have hval : ∀ (j : Nat) t v, Try.f13.params[j]? = some t → args[j]? = some v → Value.okWide Try.prog W .any base t v := hval0
  have hW' := hW
  obtain ⟨p, q, hA0, hV, rfl, hfz, hnd⟩ := hW
  have hA : DataW.TrodAll enc Try.prog W 0 (fun _ => true) true Try.f13.params.toList args.toList ds p := hA0
  rw [Try.params13] at hA hval
  obtain ⟨v0, vs0, d0, ds0, p0, q0, hargs, rfl, rfl, h0, r0⟩ := trodAll_cons hA
  obtain ⟨v1, vs1, d1, ds1, p1, q1, rfl, rfl, rfl, h1, r1⟩ := trodAll_cons r0
  obtain ⟨rfl, rfl, rfl⟩ := trodAll_nil r1
  obtain rfl : args = #[v0, v1] := by cases args; simp_all
  obtain ⟨rfl, rfl⟩ := trodVars_none hV
  obtain ⟨a0, len0, cap0, rfl⟩ := okWide_slice Try.underlying41 (hval 0 41 v0 rfl rfl)
  have k0 := h0
  have lt0 : ∀ x ∈ p0, x.block < W.heap.size := by obtain ⟨m, hm⟩ := k0; exact DataW.trod_lt m _ _ _ hm
  have w0 : TsArg W a0 len0 cap0 := TsArg.of_trod h0
  have k1 := h1
  have lt1 : ∀ x ∈ p1, x.block < W.heap.size := by obtain ⟨m, hm⟩ := k1; exact DataW.trod_lt m _ _ _ hm
  obtain ⟨a1, b1, rfl⟩ : ∃ a b : Int, v1 = tv a b := by
    obtain ⟨c0, c1, y0, y1, m, rfl, _, _, hy0, hy1⟩ := open_agg2 Try.underlying46 (by kernel_rfl) cellsT (hval 1 46 v1 rfl rfl) h1
    obtain ⟨a, e0, _, _⟩ := DataW.trod_int Try.underlying3 hy0
    obtain ⟨b, e1, _, _⟩ := DataW.trod_int Try.underlying3 hy1
    simp at e0 e1
    exact ⟨a, b, by rw [e0, e1]⟩
  clear hA0 hval0
  refine (FnExactFrontCovers.walk a0 len0 cap0 a1 b1 W w0).mono fun e W' ⟨he, bel⟩ => ?_
  subst he
  exact ⟨_, rfl, _, _, _, [], _, [], hW', trodAll_mk1 (shut_bool Try.underlying4 _), (trodAll_cons_mk (Below.trod laidOut (by kernel_rfl) (of_decide_eq_true (by kernel_rfl)) k0 bel lt0) (trodAll_cons_mk (Below.trod laidOut (by kernel_rfl) (of_decide_eq_true (by kernel_rfl)) k1 bel lt1) trodAll_mk0)), rfl, bel.frame _, fun h => by cases h⟩
theorem over : Rows.fnExactFrontCoversRow.holds Try.pinned (OpenSpec.ofChange Rows.fnExactFrontCoversSpec) :=
  OpenClaim.holds_of_wide 13 Try.f13 rfl rfl rfl rfl rfl rfl rfl ⟨rfl, rfl, rfl, rfl, rfl⟩ rfl rfl rfl rfl rfl (by kernel_rfl) Try.func13 (by kernel_rfl)
    (of_decide_eq_true (by kernel_rfl)) (by unfold Func.isWrapper; first | (rw [if_pos (by decide +kernel)]; kernel_rfl) | (rw [if_neg (by decide +kernel)]; exact ⟨rfl, rfl⟩))
    (fun os started H enc _ => lifted os started H enc)
end RowFnExactFrontCovers
theorem fnExactFrontCovers_holds : Rows.FnExactFrontCoversSaid := RowFnExactFrontCovers.over
end Go.Proofs.Ytpmkhempkblokaa
