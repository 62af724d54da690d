/- What the model's comparison of rows answers, and BatchOk of the program and of its model: contracts. -/
import Derived.Test.YtbmdfmboabfceaaBa7
namespace Go.Proofs.Ytbmdfmboabfceaa
open Go.RowKit

theorem cmpZ_or (a c b d : Int) : orZ (cmpZ a c) (cmpZ b d) = cmpT (a, b) (c, d) := by
  simp only [orZ, cmpZ, cmpT, ltT, decide_eq_true_eq]
  repeat' split
  all_goals omega
theorem cmpS_or (k v a b k' v' a' b' : Int) : orZ (cmpZ k k') (orZ (cmpZ v v') (orZ (cmpZ a a') (cmpZ b b'))) = cmpS ((k, v), (a, b)) ((k', v'), (a', b')) := by
  simp only [orZ, cmpZ, cmpS, ltS_iff]
  repeat' split
  all_goals omega
def nth4 (x0 x1 x2 x3 : Int) (i : Nat) : Int := if i = 0 then x0 else if i = 1 then x1 else if i = 2 then x2 else x3
theorem lex_lt {k v a b k' v' a' b' : Int} {n : Nat} (hn : n < 4) (h : ∀ j, j < n → nth4 k v a b j = nth4 k' v' a' b' j) (hl : nth4 k v a b n < nth4 k' v' a' b' n) : cmpS ((k, v), (a, b)) ((k', v'), (a', b')) = -1 := by
  have : ltS ((k, v), (a, b)) ((k', v'), (a', b')) = true := by
    rw [ltS_iff]
    obtain rfl | rfl | rfl | rfl : n = 0 ∨ n = 1 ∨ n = 2 ∨ n = 3 := by omega
    · simp [nth4] at hl; simp; omega
    · have := h 0 (by omega); simp [nth4] at hl this; simp; omega
    · have := h 0 (by omega); have := h 1 (by omega); simp [nth4] at *; omega
    · have := h 0 (by omega); have := h 1 (by omega); have := h 2 (by omega); simp [nth4] at *; omega
  simp [cmpS, this]
theorem lex_gt {k v a b k' v' a' b' : Int} {n : Nat} (hn : n < 4) (h : ∀ j, j < n → nth4 k v a b j = nth4 k' v' a' b' j) (hl : nth4 k' v' a' b' n < nth4 k v a b n) : cmpS ((k, v), (a, b)) ((k', v'), (a', b')) = 1 := by
  have h1 : ltS ((k', v'), (a', b')) ((k, v), (a, b)) = true := by
    have := lex_lt hn (fun j hj => (h j hj).symm) hl
    unfold cmpS at this
    cases e : ltS ((k', v'), (a', b')) ((k, v), (a, b))
    · rw [e] at this; simp at this; split at this <;> omega
    · rfl
  have h2 : ltS ((k, v), (a, b)) ((k', v'), (a', b')) = false := by
    cases e : ltS ((k, v), (a, b)) ((k', v'), (a', b'))
    · rfl
    · have := ltS_ord.trans _ _ _ e h1; rw [ltS_ord.irr] at this; cases this
  simp [cmpS, h1, h2]
theorem lex_eq {k v a b k' v' a' b' : Int} (h : ∀ j, j < 4 → nth4 k v a b j = nth4 k' v' a' b' j) : cmpS ((k, v), (a, b)) ((k', v'), (a', b')) = 0 := by
  have h0 := h 0 (by omega); have h1 := h 1 (by omega); have h2 := h 2 (by omega); have h3 := h 3 (by omega)
  simp [nth4] at h0 h1 h2 h3
  subst h0 h1 h2 h3
  simp [cmpS, ltS_ord.irr]
theorem Bk.four {w : World} {g : Nat} {x0 x1 x2 x3 : Int} {t : TypeId} (h : Bk w g #[.int .i64 x0, .int .i64 x1, .int .i64 x2, .int .i64 x3] t) {n : Nat} (hn : n < 4) : w.cell? ⟨g, n, none⟩ = some (.int .i64 (nth4 x0 x1 x2 x3 n)) := by
  obtain rfl | rfl | rfl | rfl : n = 0 ∨ n = 1 ∨ n = 2 ∨ n = 3 := by omega
  all_goals exact h.cell rfl
set_option maxHeartbeats 4000000 in
theorem l2Comp_any (k v a b d k' v' a' b' d' : Int) (w : World) :
    Calls Try.prog 110 #[rv k v a b d, rv k' v' a' b' d'] w fun e w' => e = .returned (.int .i64 (cmpS ((k, v), (a, b)) ((k', v'), (a', b')))) ∧ Below w.heap.size w w' := by
  go_enter Try.func110, Try.ntmps110
  go_wp2_with fail
  have bx := (Bk.new (w := (w.alloc (.cells #[.int .i64 k, .int .i64 v, .int .i64 a, .int .i64 b, .int .i64 d] 33)).alloc (.cells #[.int .i64 k', .int .i64 v', .int .i64 a', .int .i64 b', .int .i64 d'] 33)) (k := w.heap.size + 1 + 1) #[.int .i64 k, .int .i64 v, .int .i64 a, .int .i64 b] 3 (by simp)).alloc (.cells #[.int .i64 k', .int .i64 v', .int .i64 a', .int .i64 b'] 3)
  have by' := Bk.new (w := ((w.alloc (.cells #[.int .i64 k, .int .i64 v, .int .i64 a, .int .i64 b, .int .i64 d] 33)).alloc (.cells #[.int .i64 k', .int .i64 v', .int .i64 a', .int .i64 b', .int .i64 d'] 33)).alloc (.cells #[.int .i64 k, .int .i64 v, .int .i64 a, .int .i64 b] 3)) (k := w.heap.size + 1 + 1 + 1) #[.int .i64 k', .int .i64 v', .int .i64 a', .int .i64 b'] 3 (by simp)
  have hb0 := bAlloc (bAlloc (bAlloc (bAlloc (Below.refl w.heap.size w) (.cells #[.int .i64 k, .int .i64 v, .int .i64 a, .int .i64 b, .int .i64 d] 33)) (.cells #[.int .i64 k', .int .i64 v', .int .i64 a', .int .i64 b', .int .i64 d'] 33)) (.cells #[.int .i64 k, .int .i64 v, .int .i64 a, .int .i64 b] 3)) (.cells #[.int .i64 k', .int .i64 v', .int .i64 a', .int .i64 b'] 3)
  generalize World.alloc _ _ = W at *
  have HL1 : Hid (∀ n, n < 4 → (∀ j, j < n → nth4 k v a b j = nth4 k' v' a' b' j) → nth4 k v a b n < nth4 k' v' a' b' n → cmpS ((k, v), (a, b)) ((k', v'), (a', b')) = -1) := fun n h1 h2 h3 => lex_lt h1 h2 h3
  have HL2 : Hid (∀ n, n < 4 → (∀ j, j < n → nth4 k v a b j = nth4 k' v' a' b' j) → nth4 k' v' a' b' n < nth4 k v a b n → cmpS ((k, v), (a, b)) ((k', v'), (a', b')) = 1) := fun n h1 h2 h3 => lex_gt h1 h2 h3
  have HL3 : Hid ((∀ j, j < 4 → nth4 k v a b j = nth4 k' v' a' b' j) → cmpS ((k, v), (a, b)) ((k', v'), (a', b')) = 0) := fun h => lex_eq h
  go_loopw [7] (fun i wr => ∃ n : Nat, n ≤ 4 ∧ i = .int .i64 n ∧ (∀ j, j < n → nth4 k v a b j = nth4 k' v' a' b' j) ∧ Below W.heap.size W wr) (fun i _ => 4 - (intOf i).toNat)
  case atStart => exact ⟨0, by omega, rfl, fun j hj => by omega, Below.refl _ _⟩
  case round =>
    obtain ⟨n, hn, rfl, hall, hb⟩ := hrel
    have HA := (show Hid _ from hall)
    clear hall
    have hbw := bStep hb0 hb
    by_cases hlt : n < 4
    · have d0 := (bx.keep hb).four hlt
      have d1 := (by'.keep hb).four hlt
      have K1 := (show Hid _ from HL1.out n hlt HA.out)
      have K2 := (show Hid _ from HL2.out n hlt HA.out)
      have K3 : Hid (nth4 k v a b n = nth4 k' v' a' b' n → ∀ j, j < n + 1 → nth4 k v a b j = nth4 k' v' a' b' j) := fun e j hj => by
        by_cases ej : j = n
        · rw [ej]; exact e
        · exact HA.out j (by omega)
      generalize nth4 k v a b n = X at *
      generalize nth4 k' v' a' b' n = Y at *
      have ik : ((n : Int) < 4) := by omega
      by_cases h1 : X < Y
      · have HK : Hid (cmpS ((k, v), (a, b)) ((k', v'), (a', b')) = -1) := K1.out h1
        go_wp2_with fail
        go_quiet (fail)
        go_wp2_with fail
        go_ret
        exact ⟨retI HK.out.symm, bDrewN hbw _⟩
      · by_cases h2 : Y < X
        · have HK : Hid (cmpS ((k, v), (a, b)) ((k', v'), (a', b')) = 1) := K2.out h2
          go_wp2_with fail
          go_quiet (fail)
          go_wp2_with fail
          go_quiet (fail)
          go_wp2_with fail
          go_ret
          exact ⟨retI HK.out.symm, bDrewN (bDrewN hbw _) _⟩
        · have HK := (show Hid _ from K3.out (by omega))
          go_wp2_with fail
          go_quiet (fail)
          go_wp2_with fail
          go_quiet (fail)
          go_wp2_with fail
          go_roundw
          case rel => exact ⟨n + 1, by omega, by go_num, HK.out, bDrewN hb _⟩
          case measure => simp [intOf]; omega
    · have HK : Hid (cmpS ((k, v), (a, b)) ((k', v'), (a', b')) = 0) := HL3.out fun j hj => HA.out j (by omega)
      go_wp2_with fail
      go_ret
      exact ⟨retI HK.out.symm, hbw⟩
theorem l2Comp_eq {k v a b d k' v' a' b' d' r : Int} (h : cmpS ((k, v), (a, b)) ((k', v'), (a', b')) = r) (w : World) :
    Calls Try.prog 110 #[rv k v a b d, rv k' v' a' b' d'] w fun e w' => e = .returned (.int .i64 r) ∧ Below w.heap.size w w' := by
  rw [← h]; exact l2Comp_any k v a b d k' v' a' b' d' w
theorem compareR_eq {k v a b d k' v' a' b' d' r : Int} (h : cmpS ((k, v), (a, b)) ((k', v'), (a', b')) = r) (w : World) :
    Calls Try.prog 105 #[rv k v a b d, rv k' v' a' b' d'] w fun e w' => e = .returned (.int .i64 r) ∧ Below w.heap.size w w' := by
  rw [← h, ← cmpS_or]
  refine (compareR_any k v a b d k' v' a' b' d' w).mono ?_
  rintro e w' ⟨he, hg⟩
  exact ⟨he, hg.1⟩
end Go.Proofs.Ytbmdfmboabfceaa
