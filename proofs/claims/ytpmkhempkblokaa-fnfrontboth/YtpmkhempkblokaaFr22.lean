/- What the laws' own functions on times answer, and the drawing of lists and of two fronts: contracts. -/
import Derived.Test.YtpmkhempkblokaaFr11
import Derived.Test.YtpmkhempkblokaaFr14
namespace Go.Proofs.Ytpmkhempkblokaa
open Go.RowKit

theorem eq_at {l l' : List (Int × Int)} (hn : l.length = l'.length) (h : ∀ j, j < l.length → tA l j = tA l' j ∧ tB l j = tB l' j) : l = l' := by
  apply List.ext_getElem hn
  intro i h1 h2
  have := h i h1
  simp [tA, tB, h1, h2] at this
  exact Prod.ext this.1 this.2
theorem ne_at {l l' : List (Int × Int)} {j : Nat} (h : ¬ (tA l j = tA l' j ∧ tB l j = tB l' j)) : decide (l = l') = false :=
  decide_eq_false fun e => h (by subst e; exact ⟨rfl, rfl⟩)

set_option maxHeartbeats 4000000 in
theorem lwTimes_any (v v' : Value) (l l' : List (Int × Int)) (w : World) (h : Ts w v l) (h' : Ts w v' l') :
    Calls Try.prog 18 #[v, v'] w fun e w' => e = .returned (.bool (decide (l = l'))) ∧ Below w.heap.size w w' := by
  obtain ⟨a, cap, rfl, hc, hm, hn, hcells⟩ := h
  obtain ⟨a', cap', rfl, hc', hm', hn', hcells'⟩ := h'
  unfold maxLen at hm hm'
  have HC := (show Hid _ from hcells)
  have HC' := (show Hid _ from hcells')
  clear hcells hcells'
  by_cases hlen : l.length = l'.length
  · have HE : Hid (l.length = l'.length) := hlen
    rw [← hlen] at hc' HC' ⊢
    clear hlen hn'
    go_enter Try.func18, Try.ntmps18
    go_wp2_with fail
    go_loopw [5] (fun i wr => ∃ k : Nat, k ≤ l.length ∧ i = .int .i64 k ∧ (∀ j, j < k → tA l j = tA l' j ∧ tB l j = tB l' j) ∧ Below w.heap.size w wr) (fun i _ => l.length - (intOf i).toNat)
    case atStart => exact ⟨0, by omega, rfl, fun j hj => by omega, Below.refl _ _⟩
    case round =>
      obtain ⟨k, hk, rfl, hall, hb⟩ := hrel
      have HA := (show Hid _ from hall)
      clear hall
      by_cases hlt : k < l.length
      · obtain ⟨g, off, rfl, hg, c0, c1⟩ := HC.out k hlt
        obtain ⟨g', off', rfl, hg', p0, p1⟩ := HC'.out k hlt
        have d0 := cell_below hb c0
        have d1 := cell_below hb c1
        have e0 := cell_below hb p0
        have e1 := cell_below hb p1
        clear c0 c1 p0 p1
        have HN : Hid (¬ (tA l k = tA l' k ∧ tB l k = tB l' k) → decide (l = l') = false) := fun h => ne_at h
        have HY : Hid ((tA l k = tA l' k ∧ tB l k = tB l' k) → ∀ j, j < k + 1 → tA l j = tA l' j ∧ tB l j = tB l' j) := fun h j hj => by
          by_cases e : j = k
          · subst e; exact h
          · exact HA.out j (by omega)
        generalize tA l k = X at *
        generalize tB l k = Y at *
        generalize tA l' k = X' at *
        generalize tB l' k = Y' at *
        have ik : ((k : Int) < (l.length : Int)) := by omega
        by_cases hX : X = X'
        · by_cases hY : Y = Y'
          · subst hX hY
            go_wp2_with fail
            go_quiet (fail)
            go_wp2_with fail
            go_roundw
            case rel => exact ⟨k + 1, by omega, by go_num, HY.out (by simp), bDrewN hb _⟩
            case measure => simp [intOf]; omega
          · subst hX
            have ny : (Y == Y') = false := beq_eq_false_iff_ne.2 hY
            go_wp2_with fail
            go_quiet (fail)
            go_wp2_with fail
            go_ret
            exact ⟨ret_bool (HN.out (fun h => hY h.2)).symm, bDrewN hb _⟩
        · have nx : (X == X') = false := beq_eq_false_iff_ne.2 hX
          go_wp2_with fail
          go_quiet (fail)
          go_wp2_with fail
          go_ret
          exact ⟨ret_bool (HN.out (fun h => hX h.1)).symm, bDrewN hb _⟩
      · go_wp2_with fail
        go_ret
        exact ⟨ret_bool (decide_eq_true (eq_at HE.out fun j hj => HA.out j (by omega))).symm, hb⟩
  · have hd : decide (l = l') = false := decide_eq_false fun e => hlen (by rw [e])
    rw [hd]
    have hne : ((l.length : Int) == (l'.length : Int)) = false := beq_eq_false_iff_ne.2 (by omega)
    generalize l.length = n at *
    generalize l'.length = n' at *
    go_enter Try.func18, Try.ntmps18
    go_wp2_with fail
    go_ret
    exact ⟨rfl, Below.refl _ _⟩
theorem lwTimes_eq {l l' : List (Int × Int)} {r : Bool} (h : decide (l = l') = r) {v v' : Value} {w : World} (ht : Ts w v l) (ht' : Ts w v' l') :
    Calls Try.prog 18 #[v, v'] w fun e w' => e = .returned (.bool r) ∧ Below w.heap.size w w' := by
  rw [← h]; exact lwTimes_any v v' l l' w ht ht'

/-! ### The drawing. -/
set_option maxRecDepth 100000 in
set_option maxHeartbeats 2000000 in
theorem drawOf_any (a : Option Addr) (len cap : Nat) (w : World) (h : Src w (.slice a len cap) len) :
    Calls Try.prog 16 #[.slice a len cap] w fun e w' => ∃ (o : Value) (f : List (Int × Int)), e = .returned o ∧ f.length ≤ 101 ∧ Own w' w.heap.size o f ∧ Below w.heap.size w w' := by
  obtain ⟨i0, hi, hz0, hz1, hz2⟩ := info_parts infoT
  go_enter Try.func16, Try.ntmps16
  go_wp2_with fail
  refine (l6Open_any _ _ _ _ h).mono ?_
  rintro e w1 ⟨rfl, ⟨v, n, hr1⟩, hb1⟩
  clear h
  have hg := hr1.blk.lt
  have hs1 := hb1.size
  go_wp2_with fail
  refine (l71Times_any hr1 (by omega) (by omega) _ (by omega) (by omega)).mono ?_
  rintro e w2 ⟨o, f, rfl, hl, hown, ⟨p1, hp1, hp2, hr2⟩, hx2⟩
  have HO := (show Hid _ from hown)
  clear hown
  go_wp2_with fail
  refine (pick_any hr2 (by omega) (by omega) _ (by omega) (by omega)).mono ?_
  rintro e w3 ⟨k, rfl, hk0, hk1, hr3, hx3⟩
  have HO2 := (show Hid _ from own_keepx HO.out hx3 hg)
  have x3 := hx2.trans hx3
  clear HO hx2 hx3
  by_cases hk : k = 0
  · subst hk
    go_wp2_with fail
    refine (l71Odd_any hr3 (by omega) (by omega)).mono ?_
    rintro e w4 ⟨a, b, rfl, ha0, ha1, hb0, hb1', ⟨p2, hp3, hp4, hr4⟩, hx4⟩
    have hown := own_keepx HO2.out hx4 hg
    have x4 := x3.trans hx4
    have hsz := x4.size
    go_wp2_with (at_builtin; refine wpList_append_lies _ rfl _ _ 23 rfl w1.heap.size 29 i0 (.agg #[.int .i64 0, .int .i64 0]) 2 16 Try.underlying23 hi hz0 hz1 hz2 rfl (by decide) _ _ _ rfl (hown.alloc _) ⟨w4.heap.size, 0, none⟩ 1 1 [.int .i64 a, .int .i64 b] rfl rfl (news2 _ _ _ _) (ones2 _ _) (by omega) (by unfold maxLen; omega) (by omega) (by simp; omega) (w4.heap.size + 1) (by simp) ?_; intro g3 cap w5 hown3 hgrow hat hlg)
    have hown5 : Own w5 w1.heap.size (.slice (some ⟨g3, 0, none⟩) (f.length + 1) cap) (f ++ [(a, b)]) := by
      show w5.ownsRow _ _ _ _ _ _
      rw [cellsL_snoc]; simpa using hown3
    have hx5 : Bx w.heap.size w1 w5 := (x4.alloc _).grown hgrow (own_base hown)
    go_ret
    exact ⟨_, f ++ [(a, b)], rfl, by simp; omega, own_less hown5 hs1, hx5.below hb1 hs1 (Nat.le_refl _)⟩
  · have hkb : (k == 0) = false := by simpa using hk
    go_wp2_with fail
    go_ret
    exact ⟨_, f, rfl, by omega, own_less HO2.out hs1, x3.below hb1 hs1 (Nat.le_refl _)⟩

set_option maxHeartbeats 2000000 in
theorem drawOk_any (a : Option Addr) (len cap : Nat) (w : World) (h : Src w (.slice a len cap) len) :
    Calls Try.prog 23 #[.slice a len cap] w fun e w' => ∃ (o : Value) (f : List (Int × Int)), e = .returned o ∧ f.length ≤ 101 ∧ Own w' w.heap.size o f ∧ Below w.heap.size w w' := by
  go_enter Try.func23, Try.ntmps23
  go_wp2_with fail
  refine (l6Open_any _ _ _ _ h).mono ?_
  rintro e w1 ⟨rfl, ⟨v, n, hr1⟩, hb1⟩
  clear h
  have hs1 := hb1.size
  go_wp2_with fail
  refine (pick_any hr1 (by omega) (by omega) _ (by omega) (by omega)).mono ?_
  rintro e w2 ⟨k, rfl, hk0, hk1, hr2, hx2⟩
  have hs2 := hx2.size
  by_cases hk : k = 0
  · subst hk
    go_wp2_with fail
    refine (l71Times_any hr2 (by omega) (by omega) _ (by omega) (by omega)).mono ?_
    rintro e w3 ⟨o, f, rfl, hl, hown, ⟨p1, hp1, hp2, hr3⟩, hx3⟩
    go_wp2_with fail
    go_ret
    exact ⟨_, f, rfl, by omega, own_less hown (by omega), (hx2.trans hx3).below hb1 hs1 (Nat.le_refl _)⟩
  · have hkb : (k == 0) = false := by simpa using hk
    go_wp2_with fail
    refine (l71Some_any hr2 (by omega) (by omega)).mono ?_
    rintro e w3 ⟨o, f, rfl, hl, hown, ⟨p1, hp1, hp2, hr3⟩, hx3⟩
    go_wp2_with fail
    go_ret
    exact ⟨_, f, rfl, by omega, own_less hown (by omega), (hx2.trans hx3).below hb1 hs1 (Nat.le_refl _)⟩

set_option maxHeartbeats 2000000 in
theorem drawBoth_any (a : Option Addr) (len cap : Nat) (w : World) (h : Src w (.slice a len cap) len) :
    Calls Try.prog 32 #[.slice a len cap] w fun e w' => ∃ (o o' : Value) (f f' : List (Int × Int)), e = .returned (.tuple #[o, o']) ∧ f.length ≤ 65 ∧ f'.length ≤ 65 ∧ Own w' w.heap.size o f ∧ Own w' w.heap.size o' f' ∧ Below w.heap.size w w' := by
  go_enter Try.func32, Try.ntmps32
  go_wp2_with fail
  refine (l6Open_any _ _ _ _ h).mono ?_
  rintro e w1 ⟨rfl, ⟨v, n, hr1⟩, hb1⟩
  clear h
  have hs1 := hb1.size
  have hg := hr1.blk.lt
  go_wp2_with fail
  refine (l71Some_any hr1 (by omega) (by omega)).mono ?_
  rintro e w2 ⟨o, f, rfl, hl, hown, ⟨p1, hp1, hp2, hr2⟩, hx2⟩
  have hs2 := hx2.size
  have HO := (show Hid _ from hown)
  clear hown
  go_wp2_with fail
  refine (l71Some_any hr2 (by omega) (by omega)).mono ?_
  rintro e w3 ⟨o', f', rfl, hl', hown', ⟨p2, hp3, hp4, hr3⟩, hx3⟩
  have HO' := (show Hid _ from hown')
  clear hown'
  have HO3 := (show Hid _ from own_keepx HO.out hx3 hg)
  go_wp2_with fail
  refine bodyPost_ret (by simp [results, Try.results32, go_sem]; try rfl) rfl ?_
  exact ⟨o, o', f, f', rfl, hl, hl', own_less HO3.out hs1, own_less HO'.out (by omega), (hx2.trans hx3).below hb1 hs1 (Nat.le_refl _)⟩
end Go.Proofs.Ytpmkhempkblokaa
