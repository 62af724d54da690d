/- What the sort of a short row of times by their first number answers. -/
import Derived.Test.YtbmdfmboabfceaaFr14
import Derived.Test.YtbmdfmboabfceaaCmp
namespace Go.Proofs.Ytbmdfmboabfceaa
open Go.RowKit

set_option maxHeartbeats 2000000 in
theorem closC_any (a b x y : Int) (w : World) : Calls Try.prog 126 #[tv a b, tv x y] w fun e w' => e = .returned (.int .i64 (cmpZ a x)) ∧ Below w.heap.size w w' := by
  go_enter Try.func126, Try.ntmps126
  go_wp2_with (go_at_call 127; refine (compare_any _ _ _).mono ?_; rintro e w' ⟨rfl, rfl⟩)
  go_ret
  refine ⟨rfl, ?_⟩
  repeat' (first | (with_reducible exact Below.refl _ _) | (with_reducible assumption) | (with_reducible refine bStep ?_ (by with_reducible assumption)) | (with_reducible refine bAlloc ?_ _) | (with_reducible refine Below.drew ?_) | (with_reducible refine bDrewN ?_ _) | (with_reducible refine Below.setCell ?_ ?_ _) | (simp; done) | (simp; omega) | omega)
theorem closC_eq {a x : Int} {r : Int} (h : cmpZ a x = r) (b y : Int) (w : World) : Calls Try.prog 126 #[tv a b, tv x y] w fun e w' => e = .returned (.int .i64 r) ∧ Below w.heap.size w w' := by
  rw [← h]; exact closC_any a b x y w
theorem tA_set (L : List (Int × Int)) {i : Nat} (hi : i < L.length) (p : Int × Int) (k : Nat) : tA (L.set i p) k = if i = k then p.1 else tA L k := by
  unfold tA; rw [List.getD_eq_getElem?_getD, List.getElem?_set]
  by_cases h : i = k
  · subst h; simp [hi]
  · simp [h]
theorem tB_set (L : List (Int × Int)) {i : Nat} (hi : i < L.length) (p : Int × Int) (k : Nat) : tB (L.set i p) k = if i = k then p.2 else tB L k := by
  unfold tB; rw [List.getD_eq_getElem?_getD, List.getElem?_set]
  by_cases h : i = k
  · subst h; simp [hi]
  · simp [h]
theorem Fill.set {c : Array Value} {L : List (Int × Int)} {n i : Nat} (h : Fill c L n) (hi : i < n) (hn : n = L.length) (hs : n * 2 ≤ c.size) (X Y : Int) :
    Fill ((c.setIfInBounds (i * 2) (.int .i64 X)).setIfInBounds (i * 2 + 1) (.int .i64 Y)) (L.set i (X, Y)) n := by
  intro k hk
  rw [tA_set L (by omega), tB_set L (by omega)]
  by_cases e : i = k
  · subst e
    rw [if_pos rfl, if_pos rfl]
    have n2 : i * 2 < c.size := by omega
    have n3 : i * 2 + 1 < c.size := by omega
    simp [n2, n3]
  · rw [if_neg e, if_neg e]
    have n1 : ¬ i * 2 + 1 = k * 2 := by omega
    have n2 : ¬ i * 2 = k * 2 := by omega
    have n3 : ¬ i * 2 + 1 = k * 2 + 1 := by omega
    have n4 : ¬ i * 2 = k * 2 + 1 := by omega
    simp only [Array.getElem?_setIfInBounds, n1, n2, n3, n4, if_false]
    exact h k hk
/-- Two neighbours turned. -/
def swp (L : List (Int × Int)) (j : Nat) : List (Int × Int) := (L.set (j + 1) (tA L j, tB L j)).set j (tA L (j + 1), tB L (j + 1))
theorem swp_len (L : List (Int × Int)) (j : Nat) : (swp L j).length = L.length := by simp [swp]
theorem swp_perm (L : List (Int × Int)) {j : Nat} (h : j + 1 < L.length) : (swp L j).Perm L := by
  have e1 : (tA L j, tB L j) = L[j] := by simp [tA, tB, show j < L.length by omega]
  have e2 : (tA L (j + 1), tB L (j + 1)) = L[j + 1] := by simp [tA, tB, h]
  unfold swp
  rw [e1, e2]
  exact List.set_set_perm h (by omega)
theorem swp_tA (L : List (Int × Int)) {j : Nat} (h : j + 1 < L.length) (k : Nat) : tA (swp L j) k = if j = k then tA L (j + 1) else if j + 1 = k then tA L j else tA L k := by
  unfold swp
  rw [tA_set _ (by simp; omega), tA_set _ h]
/-- How far the sort has come: the first i + 1 are in order, but for the one at j, which is not greater than those behind it. -/
structure InsInv (L : List (Int × Int)) (i j : Nat) : Prop where
  rest : ∀ a b, a < b → b ≤ i → a ≠ j → b ≠ j → tA L a ≤ tA L b
  here : ∀ b, j < b → b ≤ i → tA L j ≤ tA L b
def Sorted (L : List (Int × Int)) (i : Nat) : Prop := ∀ a b, a < b → b < i → tA L a ≤ tA L b
theorem InsInv.start {L : List (Int × Int)} {i : Nat} (h : Sorted L i) : InsInv L i i := ⟨fun a b h1 h2 _ h4 => h a b h1 (by omega), fun b h1 h2 => by omega⟩
theorem InsInv.end0 {L : List (Int × Int)} {i : Nat} (h : InsInv L i 0) : Sorted L (i + 1) := fun a b h1 h2 => by
  by_cases e : a = 0
  · subst e; exact h.here b h1 (by omega)
  · exact h.rest a b h1 (by omega) e (by omega)
theorem InsInv.end1 {L : List (Int × Int)} {i j : Nat} (h : InsInv L i (j + 1)) (hle : tA L j ≤ tA L (j + 1)) : Sorted L (i + 1) := fun a b h1 h2 => by
  by_cases e : a = j + 1
  · subst e; exact h.here b h1 (by omega)
  · by_cases e' : b = j + 1
    · subst e'
      by_cases e2 : a = j
      · subst e2; exact hle
      · exact Int.le_trans (h.rest a j (by omega) (by omega) e (by omega)) hle
    · exact h.rest a b h1 (by omega) e e'
theorem InsInv.step {L : List (Int × Int)} {i j : Nat} (h : InsInv L i (j + 1)) (hL : j + 1 < L.length) (hlt : tA L (j + 1) < tA L j) : InsInv (swp L j) i j := by
  constructor
  · intro a b h1 h2 h3 h4
    rw [swp_tA L hL a, swp_tA L hL b, if_neg (fun e => h3 e.symm), if_neg (fun e : j = b => h4 e.symm)]
    by_cases e : j + 1 = a
    · rw [if_pos e, if_neg (by omega)]
      exact h.rest j b (by omega) h2 (by omega) (by omega)
    · rw [if_neg e]
      by_cases e' : j + 1 = b
      · rw [if_pos e']
        exact h.rest a j (by omega) (by omega) (by omega) (by omega)
      · rw [if_neg e']
        exact h.rest a b h1 h2 (by omega) (by omega)
  · intro b h1 h2
    rw [swp_tA L hL j, swp_tA L hL b, if_pos rfl, if_neg (show ¬ j = b by omega)]
    by_cases e : j + 1 = b
    · rw [if_pos e]; omega
    · rw [if_neg e]; exact h.here b (by omega) h2

set_option maxHeartbeats 8000000 in
theorem insert_any (g cap : Nat) (c : Array Value) (l : List (Int × Int)) (w : World) (h : Bk w g c 31) (hs : c.size = cap * 2) (hc : l.length ≤ cap) (hn : l.length ≤ 12) (hfill : Fill c l l.length) :
    Calls Try.prog 189 #[.slice (some ⟨g, 0, none⟩) l.length cap, .int .i64 0, .int .i64 (l.length : Int), .func (.func 126) #[] #[]] w fun e w' =>
      ∃ (c' : Array Value) (l' : List (Int × Int)), e = .returned (.tuple #[]) ∧ l'.Perm l ∧ Sorted l' l.length ∧ Bk w' g c' 31 ∧ c'.size = cap * 2 ∧ Fill c' l' l.length ∧ Bx g w w' := by
  have HF := (show Hid _ from hfill)
  clear hfill
  have HP : Hid (∀ L : List (Int × Int), L.Perm l → L.length = l.length) := fun L h => h.length_eq
  have HR : Hid (l.Perm l) := List.Perm.refl l
  obtain ⟨n, hN⟩ : ∃ n, l.length = n := ⟨_, rfl⟩
  have HN : Hid (l.length = n) := hN
  rw [hN] at HF hc hn ⊢
  clear hN
  go_enter Try.func189, Try.ntmps189
  go_wp2_with fail
  go_loopw [8] (fun a wr => ∃ (i : Nat) (L : List (Int × Int)) (c' : Array Value), a = .int .i64 i ∧ 1 ≤ i ∧ (i ≤ n ∨ i = 1) ∧ Hid (L.Perm l) ∧ Hid (Sorted L i) ∧ Hid (Fill c' L n) ∧ Bk wr g c' 31 ∧ c'.size = cap * 2 ∧ Bx g w wr) (fun a _ => n - (intOf a).toNat)
  case atStart => exact ⟨1, l, c, by go_num, by omega, .inr rfl, HR, (fun a b h1 h2 => by omega), HF, h, hs, Bx.refl _ _⟩
  case round =>
    obtain ⟨i, L, c', rfl, hi1, hi2, HP2, HS2, HF2, hk2, hs2, hx2⟩ := hrel
    by_cases hlt : i < n
    · have hI : Hid (InsInv L i i) := InsInv.start HS2.out
      go_wp2_with fail
      go_loopw [9] (fun b wq => ∃ (j : Nat) (M : List (Int × Int)) (c1 : Array Value), b = .int .i64 j ∧ j ≤ i ∧ Hid (M.Perm l) ∧ Hid (InsInv M i j) ∧ Hid (Fill c1 M n) ∧ Bk wq g c1 31 ∧ c1.size = cap * 2 ∧ Bx g w wq) (fun b _ => (intOf b).toNat)
      case atStart => exact ⟨i, L, c', rfl, Nat.le_refl _, HP2, hI, HF2, hk2, hs2, hx2⟩
      case round =>
        clear HP2 HS2 HF2 hk2 hs2 hx2 hI
        obtain ⟨j, M, c1, rfl, hj, HP3, HI3, HF3, hk3, hs3, hx3⟩ := hrel
        have HLen : M.length = n := (HP.out M HP3.out).trans HN.out
        by_cases hj0 : j = 0
        · subst hj0
          have hS : Hid (Sorted M (i + 1)) := HI3.out.end0
          have hjp : decide ((0 : Int) < ((0 : Nat) : Int)) = false := rfl
          have hne := bel_some wr
          go_wp2_with fail
          (refine wp_region_bel (by kernel_rfl) (by kernel_rfl) ?_; (repeat (go_big_quiet_step ((first | (go_at_call 126; exact calls_bel (closC_eq rfl _ _ _)))))); refine wpQuiet_nil ?_)
          intro w9 hw9
          replace hw9 := bel_out hw9
          have hx9 := hx3.trans (Bx.of_below hw9)
          have hk9 := hk3.keep hw9
          go_wp2_with fail
          go_roundw
          case rel => exact ⟨i + 1, M, c1, by go_num, by omega, .inl (by omega), HP3, hS, HF3, hk9, hs3, hx9⟩
          case measure => simp [intOf]; omega
        · obtain ⟨q, rfl⟩ : ∃ q, j = q + 1 := ⟨j - 1, by omega⟩
          have hjp : decide ((0 : Int) < ((q + 1 : Nat) : Int)) = true := by simp
          have hj1 : ((q + 1 : Nat) : Int) - 1 = (q : Int) := by omega
          obtain ⟨c0, c2⟩ := HF3.out q (by omega)
          obtain ⟨c3, c4⟩ := HF3.out (q + 1) (by omega)
          have d0 : ∀ p : Bel wr, p.ww.cell? ⟨g, q * 2, none⟩ = some (.int .i64 (tA M q)) := fun p => cell_below p.below (hk3.cell c0)
          have d1 : ∀ p : Bel wr, p.ww.cell? ⟨g, q * 2 + 1, none⟩ = some (.int .i64 (tB M q)) := fun p => cell_below p.below (hk3.cell c2)
          have d2 : ∀ p : Bel wr, p.ww.cell? ⟨g, (q + 1) * 2, none⟩ = some (.int .i64 (tA M (q + 1))) := fun p => cell_below p.below (hk3.cell c3)
          have d3 : ∀ p : Bel wr, p.ww.cell? ⟨g, (q + 1) * 2 + 1, none⟩ = some (.int .i64 (tB M (q + 1))) := fun p => cell_below p.below (hk3.cell c4)
          have hne := bel_some wr
          clear c0 c2 c3 c4
          have HE1 : Hid (tA M (q + 1) < tA M q → InsInv (swp M q) i q) := fun e => HI3.out.step (by omega) e
          have HE2 : Hid (tA M q ≤ tA M (q + 1) → Sorted M (i + 1)) := fun e => HI3.out.end1 e
          have HE3 : Hid (Fill (((c1.setIfInBounds ((q + 1) * 2) (.int .i64 (tA M q))).setIfInBounds ((q + 1) * 2 + 1) (.int .i64 (tB M q))).setIfInBounds (q * 2) (.int .i64 (tA M (q + 1))) |>.setIfInBounds (q * 2 + 1) (.int .i64 (tB M (q + 1)))) (swp M q) n) :=
            (HF3.out.set (i := q + 1) (by omega) HLen.symm (by omega) (tA M q) (tB M q)).set (i := q) (by omega) (by simp [HLen]) (by simp; omega) (tA M (q + 1)) (tB M (q + 1))
          have HE4 : Hid ((swp M q).Perm l) := (swp_perm M (by omega)).trans HP3.out
          generalize tA M q = X at *
          generalize tB M q = Y at *
          generalize tA M (q + 1) = X' at *
          generalize tB M (q + 1) = Y' at *
          by_cases hcl : X' < X
          · have hcz : cmpZ X' X = -1 := by simp [cmpZ, hcl]
            go_wp2_with fail
            (refine wp_region_bel (by kernel_rfl) (by kernel_rfl) ?_; (repeat (go_big_quiet_step ((first | (go_at_call 126; exact calls_bel (closC_eq hcz _ _ _)))))); refine wpQuiet_nil ?_)
            intro w9 hw9
            replace hw9 := bel_out hw9
            have hx9 := hx3.trans (Bx.of_below hw9)
            have hk9 := hk3.keep hw9
            have e0 : w9.cell? ⟨g, q * 2, none⟩ = some (.int .i64 X) := cell_below hw9 (d0 ⟨wr, Below.refl _ _⟩)
            have e1 : w9.cell? ⟨g, q * 2 + 1, none⟩ = some (.int .i64 Y) := cell_below hw9 (d1 ⟨wr, Below.refl _ _⟩)
            have e2 : w9.cell? ⟨g, (q + 1) * 2, none⟩ = some (.int .i64 X') := cell_below hw9 (d2 ⟨wr, Below.refl _ _⟩)
            have e3 : w9.cell? ⟨g, (q + 1) * 2 + 1, none⟩ = some (.int .i64 Y') := cell_below hw9 (d3 ⟨wr, Below.refl _ _⟩)
            have f0 := hk9.free (q * 2)
            have f1 := hk9.free (q * 2 + 1)
            have f2 := hk9.free ((q + 1) * 2)
            have f3 := hk9.free ((q + 1) * 2 + 1)
            clear d0 d1 d2 d3 hne
            go_wp2_with fail
            go_region
            have hbk := ((((hk9.set ((q + 1) * 2) (.int .i64 X)).set ((q + 1) * 2 + 1) (.int .i64 Y)).set (q * 2) (.int .i64 X')).set (q * 2 + 1) (.int .i64 Y')).drew
            have hx10 := (((((hx9.setG (p := ⟨g, (q + 1) * 2, none⟩) rfl (.int .i64 X)).setG (p := ⟨g, (q + 1) * 2 + 1, none⟩) rfl (.int .i64 Y)).setG (p := ⟨g, q * 2, none⟩) rfl (.int .i64 X')).setG (p := ⟨g, q * 2 + 1, none⟩) rfl (.int .i64 Y'))).drew
            have HI4 : Hid (InsInv (swp M q) i q) := HE1.out hcl
            clear e0 e1 e2 e3 f0 f1 f2 f3 hk9
            generalize World.drew _ = W at *
            go_wp2_with fail
            go_roundw
            case rel => exact ⟨q, swp M q, _, by go_num, by omega, HE4, HI4, HE3, hbk, by simpa using hs3, hx10⟩
            case measure => simp [intOf]
          · have hcz : ∃ r, cmpZ X' X = r ∧ decide (r < 0) = false := ⟨_, rfl, decide_eq_false (by rw [cmpZ_neg]; exact hcl)⟩
            obtain ⟨r, hcz, hr0⟩ := hcz
            have hS : Hid (Sorted M (i + 1)) := HE2.out (by omega)
            go_wp2_with fail
            (refine wp_region_bel (by kernel_rfl) (by kernel_rfl) ?_; (repeat (go_big_quiet_step ((first | (go_at_call 126; exact calls_bel (closC_eq hcz _ _ _)))))); refine wpQuiet_nil ?_)
            intro w9 hw9
            replace hw9 := bel_out hw9
            have hx9 := hx3.trans (Bx.of_below hw9)
            have hk9 := hk3.keep hw9
            clear d0 d1 d2 d3 hne
            go_wp2_with fail
            go_roundw
            case rel => exact ⟨i + 1, M, c1, by go_num, by omega, .inl (by omega), HP3, hS, HF3, hk9, hs3, hx9⟩
            case measure => simp [intOf]; omega
    · go_wp2_with fail
      go_end0
      exact ⟨c', L, rfl, HP2.out, fun a b h1 h2 => HS2.out a b h1 (by omega), hk2, hs2, HF2.out, hx2⟩
end Go.Proofs.Ytbmdfmboabfceaa
