/- What leaves a loop: drawing, and plain facts. -/
import Derived.Test.YtjlaeeccnbdghaaLg1
import Derived.Test.YtjlaeeccnbdghaaLg2
namespace Go.Proofs.Ytjlaeeccnbdghaa
open Go.RowKit

theorem out_at {a : List Rw} {n : Int} (h : ∀ r ∈ a, rwOkB r = true) (h0 : 0 ≤ n) (h7 : n ≤ 7) {t : Int} (ht0 : 0 ≤ t) (ht7 : t ≤ 7) : atL (outR n a) t 0 = atL a t n := by
  induction a with
  | nil => simp [atL, outR]
  | cons r a ih =>
    have hr := h r (by simp)
    have ih := ih fun q hq => h q (by simp [hq])
    have hk : okB r.1.2.1 r.1.2.2 = true := by
      simp only [rwOkB, Bool.and_eq_true] at hr; exact hr.1.2
    have hk' := okB_iff.1 hk
    unfold atL outR at ih ⊢
    rw [List.filter_cons, List.filter_cons]
    by_cases c : r.1.2.2 ≤ n
    · rw [if_pos (by simpa using c), List.map_cons, List.filter_cons]
      have e : leB r.1.2.1 0 t 0 = leB r.1.2.1 r.1.2.2 t n := by
        rw [Bool.eq_iff_iff, leB_iff, leB_iff, okB_iff, okB_iff, okB_iff, okB_iff]; omega
      simp only [e]
      by_cases c2 : leB r.1.2.1 r.1.2.2 t n = true
      · rw [if_pos c2, if_pos c2, List.map_cons, List.map_cons, ih]
      · rw [if_neg c2, if_neg c2, ih]
    · have e : ¬ (leB r.1.2.1 r.1.2.2 t n = true) := by rw [leB_iff]; omega
      rw [if_neg (by simpa using c), if_neg e, ih]
theorem outR_keys {n : Int} {l : List Rw} (h : rokB l = true) : ∀ r ∈ outR n l, inB r.1.1.1 0 3 = true ∧ inB r.1.1.2 0 99 = true ∧ okB r.1.2.1 r.1.2.2 = true := fun r hr => by
  unfold outR at hr
  obtain ⟨q, hq, rfl⟩ := List.mem_map.1 hr
  have hk := rok_at h (List.mem_filter.1 hq).1
  simp only [rwOkB, Bool.and_eq_true] at hk
  obtain ⟨⟨⟨h1, h2⟩, h3⟩, -⟩ := hk
  rw [okB_iff] at h3
  exact ⟨h1, h2, by rw [okB_iff]; simp only; omega⟩
theorem lout_sum {a : List Rw} {n : Int} (h : rokB a = true) (hs : absum a ≤ 99999) : loutL a n = sumL ltS (outR n a) ∧ rokB (sumL ltS (outR n a)) = true := by
  have hr : rokB (sumL ltS (outR n a)) = true := sum_rok (Nat.le_trans (outR_len n a) (rok_len h)) (outR_keys h) (Int.le_trans (outR_abs n a) hs)
  refine ⟨?_, hr⟩
  rw [lout_yes h]
  unfold sumF fitL
  rw [bok_sum, if_pos hr]
theorem lout_items {a : List Rw} {n : Int} (h : rokB a = true) (hs : absum a ≤ 99999) (h0 : 0 ≤ n) (h7 : n ≤ 7) {t : Nat} (ht : t < 8) : itemsL (loutL a n) t 0 = itemsL a t n := by
  obtain ⟨e, hr⟩ := lout_sum (n := n) h hs
  rw [e, items_yes hr (by rw [okB_iff]; omega), items_yes h (by rw [okB_iff]; omega), at_sum, out_at (fun r hr => rok_at h hr) h0 h7 (by omega) (by omega)]
theorem lflow_abs (T F : List Rw) (n : Int) : absum (lflowL T F n) ≤ 1000 := by
  cases h : lokB T F n
  · simp [lflowL, h, absum]
  · have hR := lok_R h
    obtain ⟨R, rfl⟩ := Int.eq_ofNat_of_zero_le (show 0 ≤ n by omega)
    have h1 := absum_le (l := lflowL T F (R : Int)) (c := 2) (fun r hr => ⟨(lflow_row h hr).2.1, (lflow_row h hr).2.2.1⟩)
    have h2 : (lflowL T F (R : Int)).length ≤ 224 := by
      rw [lflow_yes h]
      have h3 := sumL_len ltS (chV T F (tsP R 8))
      have h4 := chV_len T F (tsP R 8)
      rw [tsP_len] at h4
      omega
    omega
set_option maxHeartbeats 8000000 in
theorem drawLoopOut_any (a : Option Addr) (len cap : Nat) (w : World) (h : Src w (.slice a len cap) len) :
    Calls Try.prog 22 #[.slice a len cap] w fun e w' => ∃ (o : Value) (l : List Rw) (n : Int), e = .returned (.tuple #[o, .int .i64 n]) ∧ (rokB l = true → absum l ≤ 99999) ∧ -1 ≤ n ∧ n ≤ 7 ∧ Rs w' o l ∧ Below w.heap.size w w' := by
  go_enter Try.func22, Try.ntmps22
  go_wp2_with fail
  refine (l6Open_any _ _ _ _ h).mono ?_
  rintro e w1 ⟨rfl, ⟨v, m, hr1⟩, hb1⟩
  clear h
  have hs1 := hb1.size
  have hg := hr1.blk.lt
  go_wp2_with fail
  refine (l71Early_any hr1 (by omega) (by omega) 8 (by omega) (by omega)).mono ?_
  rintro e w2 ⟨o1, l1, rfl, hown1, hl1, ⟨p2, hp2, hp2', hr2⟩, hx2⟩
  have HO1 : Hid (∀ W', Bx w.heap.size w2 W' → Rs W' o1 l1) := fun W' hW => OwnR.rs (own_keepx hown1 hW (by omega)) (by omega)
  have hg2 := hr2.blk.lt
  clear hown1
  go_wp2_with fail
  refine (l71Early_any hr2 (by omega) (by omega) 5 (by omega) (by omega)).mono ?_
  rintro e w3 ⟨o2, l2, rfl, hown2, hl2, ⟨p3, hp3, hp3', hr3⟩, hx3⟩
  have HO2 : Hid (∀ W', Bx w.heap.size w3 W' → Rs W' o2 l2) := fun W' hW => OwnR.rs (own_keepx hown2 hW (by omega)) (by omega)
  have hx13 := hx2.trans hx3
  clear hown2 hr1 hr2
  go_wp2_with fail
  refine (pick_any hr3 (by omega) (by omega) _ (by omega) (by omega)).mono ?_
  rintro e w4 ⟨n, rfl, hn0, hn1, hr4, hx4⟩
  have R1 := HO1.out _ (hx3.trans hx4)
  have R2 := HO2.out _ hx4
  have hx14 := hx13.trans hx4
  have iw : IntKind.i64.wrap (1 + n) = 1 + n := by rw [IntKind.wrap_i64]; omega
  clear hr3 hx2 hx3 hx4 hx13
  go_wp2_with fail
  refine (specLoopFlow_any o1 o2 l1 l2 (1 + n) _ R1 R2).mono ?_
  rintro e w5 ⟨o5, rfl, own5, hb5⟩
  have hr5 := hr4.keepb hb5
  have hx15 := hx14.trans (Bx.of_below (g := w.heap.size) hb5)
  have hg4 := hr4.blk.lt
  have HO5 : Hid (∀ W', Bx w.heap.size w5 W' → Rs W' o5 (lflowL l1 l2 (1 + n))) := fun W' hW => OwnR.rs (own_keepx own5 hW hg4) (by have := lflow_len l1 l2 (1 + n); omega)
  clear own5 R1 R2 hr4 hb5 hx14
  go_wp2_with fail
  refine (pick_any hr5 (by omega) (by omega) _ (by omega) (by omega)).mono ?_
  rintro e w6 ⟨k, rfl, hk0, hk1, hr6, hx6⟩
  have hx16 := hx15.trans hx6
  by_cases hk : k = 0
  · subst hk
    have hg6 := hr6.blk.lt
    go_wp2_with fail
    refine (l71Any_any hr6 (by omega) (by omega)).mono ?_
    rintro e w7 ⟨o7, l7, rfl, hd7, own7, ⟨p7, hp7, hp7', hr7⟩, hx7⟩
    have HO7 : Hid (∀ W', Bx w.heap.size w7 W' → Rs W' o7 l7) := fun W' hW => OwnR.rs (own_keepx own7 hW hg6) (by have := hd7.1; omega)
    have HD := (show Hid (drR l7) from hd7)
    have hx17 := hx16.trans hx7
    clear own7 hd7
    go_wp2_with fail
    refine (pick_any hr7 (by omega) (by omega) _ (by omega) (by omega)).mono ?_
    rintro e w8 ⟨j, rfl, hj0, hj1, hr8, hx8⟩
    have R8 := (show Hid _ from HO7.out _ hx8)
    have hbE := (hx17.trans hx8).below hb1 hs1 (Nat.le_refl _)
    have iw2 : IntKind.i64.wrap (j - 1) = j - 1 := by rw [IntKind.wrap_i64]; omega
    go_wp2_with fail
    refine bodyPost_ret (by simp [results, Try.results22, go_sem]; try rfl) rfl ?_
    exact ⟨o7, l7, _, rfl, fun h => by have := HD.out.abs h; omega, by omega, by omega, R8.out, hbE⟩
  · have hkb : (k == 0) = false := by simpa using hk
    have HO6 : Hid (∀ W', Bx w.heap.size w6 W' → Rs W' o5 (lflowL l1 l2 (1 + n))) := fun W' hW => HO5.out _ (hx6.trans hW)
    go_wp2_with fail
    refine (pick_any hr6 (by omega) (by omega) _ (by omega) (by omega)).mono ?_
    rintro e w8 ⟨j, rfl, hj0, hj1, hr8, hx8⟩
    have R8 := (show Hid _ from HO6.out _ hx8)
    have hbE := (hx16.trans hx8).below hb1 hs1 (Nat.le_refl _)
    have iw2 : IntKind.i64.wrap (j - 1) = j - 1 := by rw [IntKind.wrap_i64]; omega
    go_wp2_with fail
    refine bodyPost_ret (by simp [results, Try.results22, go_sem]; try rfl) rfl ?_
    exact ⟨o5, _, _, rfl, fun _ => by have := lflow_abs l1 l2 (1 + n); omega, by omega, by omega, R8.out, hbE⟩
theorem implLoopOut_k {l L : List Rw} {n : Int} (e : loutL l n = L) {v : Value} {w : World} (h : Rs w v l) :
    Calls Try.prog 23 #[v, .int .i64 n] w fun e w' => ∃ o : Value, e = .returned o ∧ Rs w' o L ∧ Below w.heap.size w w' :=
  ofOwnR e (by have := lout_len l n; omega) (implLoopOut_any v l n w h)
theorem specLoopOut_k {l L : List Rw} {n : Int} (e : loutL l n = L) {v : Value} {w : World} (h : Rs w v l) :
    Calls Try.prog 25 #[v, .int .i64 n] w fun e w' => ∃ o : Value, e = .returned o ∧ Rs w' o L ∧ Below w.heap.size w w' :=
  ofOwnR e (by have := lout_len l n; omega) (specLoopOut_any v l n w h)
end Go.Proofs.Ytjlaeeccnbdghaa
