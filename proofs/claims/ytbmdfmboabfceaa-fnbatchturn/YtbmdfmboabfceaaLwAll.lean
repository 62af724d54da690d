/- What the list of all times holds: a contract. -/
import Derived.Test.YtbmdfmboabfceaaBase2
import Derived.Deep.AppendLies
namespace Go.Proofs.Ytbmdfmboabfceaa
open Go.RowKit

/-- The cells of the first n of all times, in order. -/
def tc (n : Nat) : List Value := (List.range n).flatMap fun i => [.int .i64 ((i / 8 : Nat) : Int), .int .i64 ((i % 8 : Nat) : Int)]
theorem tc_succ (n : Nat) : tc (n + 1) = tc n ++ [.int .i64 ((n / 8 : Nat) : Int), .int .i64 ((n % 8 : Nat) : Int)] := by
  unfold tc; rw [List.range_succ, List.flatMap_append]; simp
theorem tc_length (n : Nat) : (tc n).length = n * 2 := by
  induction n with
  | zero => rfl
  | succ n ih => rw [tc_succ, List.length_append, ih]; simp; omega
theorem tc_get (n i : Nat) (h : i < n) : (tc n)[2 * i]? = some (.int .i64 ((i / 8 : Nat) : Int)) ∧ (tc n)[2 * i + 1]? = some (.int .i64 ((i % 8 : Nat) : Int)) := by
  induction n with
  | zero => omega
  | succ n ih =>
    rw [tc_succ]
    have hl := tc_length n
    by_cases hi : i < n
    · obtain ⟨h1, h2⟩ := ih hi
      rw [List.getElem?_append_left (by omega), List.getElem?_append_left (by omega)]
      exact ⟨h1, h2⟩
    · have : i = n := by omega
      subst this
      rw [List.getElem?_append_right (by omega), List.getElem?_append_right (by omega)]
      have e1 : 2 * i - (tc i).length = 0 := by omega
      have e2 : 2 * i + 1 - (tc i).length = 1 := by omega
      rw [e1, e2]; simp
theorem infoT : (Try.prog.info? 31).map (fun i => (i.zero, i.size, i.bytes)) = some (some (.agg #[.int .i64 0, .int .i64 0]), 2, 16) := by kernel_rfl

theorem news2 (w : World) (x y : Value) (t : TypeId) : ∀ j u, [x, y][j]? = some u → (w.alloc (.cells #[x, y] t)).cell? ((⟨w.heap.size, 0, none⟩ : Addr).add j) = some u := by
  intro j u hj
  match j, hj with
  | 0, hj => simp at hj; subst hj; simp [Addr.add]
  | 1, hj => simp at hj; subst hj; simp [Addr.add]
theorem ones2 (a b : Int) : ∀ u ∈ [Value.int .i64 a, Value.int .i64 b], u.oneCell' = true := by
  intro u hu; simp at hu; rcases hu with rfl | rfl <;> rfl
theorem own_base {w : World} {B : Nat} {e : TypeId} {size : Nat} {v : Value} {n : Nat} {xs : List Value} (h : w.ownsRow B e size v n xs) : ∀ k, v.ownBlock = some k → B ≤ k := by
  obtain ⟨_, h2⟩ := h
  intro k hk
  rcases h2 with ⟨rfl, _⟩ | ⟨g, cap, cur, rfl, hg, _⟩
  · simp [Value.ownBlock] at hk
  · simp [Value.ownBlock] at hk; omega
theorem own_some {w : World} {B : Nat} {e : TypeId} {size : Nat} {v : Value} {n : Nat} {xs : List Value} (h : w.ownsRow B e size v n xs) (hn : 0 < n) : ∃ g cap, v = .slice (some ⟨g, 0, none⟩) n cap ∧ B ≤ g := by
  obtain ⟨_, h2⟩ := h
  rcases h2 with ⟨_, h0⟩ | ⟨g, cap, cur, rfl, hg, _⟩
  · omega
  · exact ⟨g, cap, rfl, hg⟩
theorem own_empty (w : World) (e : TypeId) (size : Nat) : (w.alloc (.cells #[] e)).ownsRow w.heap.size e size (.slice (some ⟨w.heap.size, 0, none⟩) 0 0) 0 [] :=
  ⟨by simp, .inr ⟨w.heap.size, 0, #[], rfl, Nat.le_refl _, heap_alloc_new w _, Nat.le_refl _, by unfold maxLen; omega, by simp, by simp⟩⟩

theorem all_cells {w : World} {B g cap : Nat} {e : TypeId} (h : w.ownsRow B e 2 (.slice (some ⟨g, 0, none⟩) 64 cap) 64 (tc 64)) {k : Nat} (hk : k < 64) :
    w.cell? ⟨g, k * 2, none⟩ = some (.int .i64 ((k / 8 : Nat) : Int)) ∧ w.cell? ⟨g, k * 2 + 1, none⟩ = some (.int .i64 ((k % 8 : Nat) : Int)) := by
  obtain ⟨h1, h2⟩ := tc_get 64 k hk
  rw [h.cellAt _ (by omega), h.cellAt _ (by omega), Nat.mul_comm k 2]
  exact ⟨h1, h2⟩

set_option maxRecDepth 100000 in
set_option maxHeartbeats 4000000 in
theorem lwAll_any (w : World) :
    Calls Try.prog 47 #[] w fun e w' => ∃ g cap : Nat, e = .returned (.slice (some ⟨g, 0, none⟩) 64 cap) ∧ w'.ownsRow w.heap.size 31 2 (.slice (some ⟨g, 0, none⟩) 64 cap) 64 (tc 64) ∧ w.heap.size ≤ g ∧ Below w.heap.size w w' := by
  obtain ⟨i0, hi, hz0, hz1, hz2⟩ := info_parts infoT
  go_enter Try.func47, Try.ntmps47
  go_wp2
  go_loopw [1, 2] (fun v a wr => ∃ k : Nat, k ≤ 8 ∧ a = .int .i64 k ∧ wr.ownsRow w.heap.size 31 2 v (8 * k) (tc (8 * k)) ∧ Below w.heap.size w wr) (fun _ a _ => 8 - (intOf a).toNat)
  case atStart =>
    refine ⟨0, by omega, rfl, own_empty w _ _, ?_⟩
    repeat' (first | (with_reducible exact Below.refl _ _) | (with_reducible assumption) | (with_reducible refine bStep ?_ (by with_reducible assumption)) | (with_reducible refine bAlloc ?_ _) | (with_reducible refine Below.drew ?_) | (with_reducible refine bDrewN ?_ _) | (with_reducible refine Below.setCell ?_ ?_ _) | (simp; done) | (simp; omega) | omega)
  case round =>
    obtain ⟨k, hk, rfl, hown, hb⟩ := hrel
    by_cases hlt : k < 8
    · have hk7 : decide ((k : Int) ≤ 7) = true := by simp; omega
      go_wp2
      go_loopw [1, 3] (fun v b wq => ∃ j : Nat, j ≤ 8 ∧ b = .int .i64 j ∧ wq.ownsRow w.heap.size 31 2 v (8 * k + j) (tc (8 * k + j)) ∧ Below w.heap.size w wq) (fun _ b _ => 8 - (intOf b).toNat)
      case atStart => exact ⟨0, by omega, rfl, hown, hb⟩
      case round =>
        clear hown hb
        obtain ⟨j, hj, rfl, hown, hb⟩ := hrel
        by_cases hjt : j < 8
        · have hs := hb.size
          go_wp2_with (at_builtin; refine wpList_append_lies _ rfl _ _ 37 rfl w.heap.size 31 i0 (.agg #[.int .i64 0, .int .i64 0]) 2 16 Try.underlying37 hi hz0 hz1 hz2 rfl (by decide) _ _ _ rfl (hown.alloc _) ⟨wr.heap.size, 0, none⟩ 1 1 [.int .i64 (k : Int), .int .i64 (j : Int)] rfl rfl (news2 _ _ _ _) (ones2 _ _) (by omega) (by unfold maxLen; omega) (by omega) (by simp; omega) (wr.heap.size + 1) (by simp) ?_; intro g cap w1 hown1 hgrow hat hlg)
          have hb1 : Below w.heap.size w w1 := (bAlloc hb _).grown hgrow (by simp; omega) (own_base hown)
          have e1 : (8 * k + j) / 8 = k := by omega
          have e2 : (8 * k + j) % 8 = j := by omega
          have ht := tc_succ (8 * k + j)
          rw [e1, e2] at ht
          rw [← ht] at hown1
          clear ht e1 e2 hown hgrow hb
          go_roundw
          case rel => exact ⟨j + 1, by omega, by go_num, hown1, hb1⟩
          case measure => simp [intOf]; omega
        · have : j = 8 := by omega
          subst this
          go_wp2
          go_roundw
          case rel => exact ⟨k + 1, by omega, by go_num, hown, hb⟩
          case measure => simp [intOf]; omega
    · have : k = 8 := by omega
      subst this
      obtain ⟨g, cap, rfl, hg⟩ := own_some hown (by omega)
      go_wp2
      go_ret
      exact ⟨g, cap, rfl, hown, hg, hb⟩
end Go.Proofs.Ytbmdfmboabfceaa
