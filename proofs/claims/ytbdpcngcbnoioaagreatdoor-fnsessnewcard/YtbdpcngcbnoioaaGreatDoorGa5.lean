import Derived.Test.YtbdpcngcbnoioaaGreatDoorGa1
import Derived.Deep.AppendLies
import Derived.ProofKit
import Derived.OpenShut
import Derived.ShutString
import Derived.ChangeOld
import Derived.Below
import Derived.Lib.SmallJoins
import Derived.Deep.SlicePairs
namespace Go.Proofs.YtbdpcngcbnoioaaGreatDoor
open Go.RowKit
def tc (n : Nat) : List Value := (List.range n).flatMap fun i => [.int .i64 ((i / 8 : Nat) : Int), .int .i64 ((i % 8 : Nat) : Int)]
theorem tc_succ (n : Nat) : tc (n + 1) = tc n ++ [.int .i64 ((n / 8 : Nat) : Int), .int .i64 ((n % 8 : Nat) : Int)] := by
  unfold tc; rw [List.range_succ, List.flatMap_append]; simp
theorem tc_length (n : Nat) : (tc n).length = n * 2 := by
  induction n with
  | zero => rfl
  | succ n ih => rw [tc_succ, List.length_append, ih]; simp; omega
theorem tc_get (n i : Nat) (h : i < n) : (tc n)[2 * i]? = some (.int .i64 ((i / 8 : Nat) : Int)) ∧ (tc n)[2 * i + 1]? = some (.int .i64 ((i % 8 : Nat) : Int)) := by
  induction n with
  | zero => omega
  | succ n ih =>
    rw [tc_succ]
    have hl := tc_length n
    by_cases hi : i < n
    · obtain ⟨h1, h2⟩ := ih hi
      rw [List.getElem?_append_left (by omega), List.getElem?_append_left (by omega)]
      exact ⟨h1, h2⟩
    · have : i = n := by omega
      subst this
      rw [List.getElem?_append_right (by omega), List.getElem?_append_right (by omega)]
      have e1 : 2 * i - (tc i).length = 0 := by omega
      have e2 : 2 * i + 1 - (tc i).length = 1 := by omega
      rw [e1, e2]; simp
theorem infoT : (Tryz.prog.info? 32).map (fun i => (i.zero, i.size, i.bytes)) = some (some (.agg #[.int .i64 0, .int .i64 0]), 2, 16) := by kernel_rfl
theorem news2 (w : World) (x y : Value) (t : TypeId) : ∀ j u, [x, y][j]? = some u → (w.alloc (.cells #[x, y] t)).cell? ((⟨w.heap.size, 0, none⟩ : Addr).add j) = some u := by
  intro j u hj
  match j, hj with
  | 0, hj => simp at hj; subst hj; simp [Addr.add]
  | 1, hj => simp at hj; subst hj; simp [Addr.add]
theorem ones2 (a b : Int) : ∀ u ∈ [Value.int .i64 a, Value.int .i64 b], u.oneCell' = true := by
  intro u hu; simp at hu; rcases hu with rfl | rfl <;> rfl
theorem own_base {w : World} {B : Nat} {e : TypeId} {size : Nat} {v : Value} {n : Nat} {xs : List Value} (h : w.ownsRow B e size v n xs) : ∀ k, v.ownBlock = some k → B ≤ k := by
  obtain ⟨_, h2⟩ := h
  intro k hk
  rcases h2 with ⟨rfl, _⟩ | ⟨g, cap, cur, rfl, hg, _⟩
  · simp [Value.ownBlock] at hk
  · simp [Value.ownBlock] at hk; omega
theorem own_some {w : World} {B : Nat} {e : TypeId} {size : Nat} {v : Value} {n : Nat} {xs : List Value} (h : w.ownsRow B e size v n xs) (hn : 0 < n) : ∃ g cap, v = .slice (some ⟨g, 0, none⟩) n cap ∧ B ≤ g := by
  obtain ⟨_, h2⟩ := h
  rcases h2 with ⟨_, h0⟩ | ⟨g, cap, cur, rfl, hg, _⟩
  · omega
  · exact ⟨g, cap, rfl, hg⟩
theorem own_empty (w : World) (e : TypeId) (size : Nat) : (w.alloc (.cells #[] e)).ownsRow w.heap.size e size (.slice (some ⟨w.heap.size, 0, none⟩) 0 0) 0 [] :=
  ⟨by simp, .inr ⟨w.heap.size, 0, #[], rfl, Nat.le_refl _, heap_alloc_new w _, Nat.le_refl _, by unfold maxLen; omega, by simp, by simp⟩⟩
theorem all_cells {w : World} {B g cap : Nat} {e : TypeId} (h : w.ownsRow B e 2 (.slice (some ⟨g, 0, none⟩) 64 cap) 64 (tc 64)) {k : Nat} (hk : k < 64) :
    w.cell? ⟨g, k * 2, none⟩ = some (.int .i64 ((k / 8 : Nat) : Int)) ∧ w.cell? ⟨g, k * 2 + 1, none⟩ = some (.int .i64 ((k % 8 : Nat) : Int)) := by
  obtain ⟨h1, h2⟩ := tc_get 64 k hk
  rw [h.cellAt _ (by omega), h.cellAt _ (by omega), Nat.mul_comm k 2]
  exact ⟨h1, h2⟩
set_option maxRecDepth 100000 in
set_option maxHeartbeats 4000000 in
theorem lwAll_any (w : World) :
    Calls Tryz.prog 19 #[] w fun e w' => ∃ g cap : Nat, e = .returned (.slice (some ⟨g, 0, none⟩) 64 cap) ∧ w'.ownsRow w.heap.size 32 2 (.slice (some ⟨g, 0, none⟩) 64 cap) 64 (tc 64) ∧ w.heap.size ≤ g ∧ Below w.heap.size w w' := by
  obtain ⟨i0, hi, hz0, hz1, hz2⟩ := info_parts infoT
  go_enter Tryz.func19, Tryz.ntmps19
  go_wp2
  go_loopw [1, 2] (fun v a wr => ∃ k : Nat, k ≤ 8 ∧ a = .int .i64 k ∧ wr.ownsRow w.heap.size 32 2 v (8 * k) (tc (8 * k)) ∧ Below w.heap.size w wr) (fun _ a _ => 8 - (intOf a).toNat)
  case atStart =>
    refine ⟨0, by omega, rfl, own_empty w _ _, ?_⟩
    repeat' (first | (with_reducible exact Below.refl _ _) | (with_reducible assumption) | (with_reducible refine bStep ?_ (by with_reducible assumption)) | (with_reducible refine bAlloc ?_ _) | (with_reducible refine Below.drew ?_) | (with_reducible refine bDrewN ?_ _) | (with_reducible refine Below.setCell ?_ ?_ _) | (simp; done) | (simp; omega) | omega)
  case round =>
    obtain ⟨k, hk, rfl, hown, hb⟩ := hrel
    by_cases hlt : k < 8
    · have hk7 : decide ((k : Int) ≤ 7) = true := by simp; omega
      go_wp2
      go_loopw [1, 3] (fun v b wq => ∃ j : Nat, j ≤ 8 ∧ b = .int .i64 j ∧ wq.ownsRow w.heap.size 32 2 v (8 * k + j) (tc (8 * k + j)) ∧ Below w.heap.size w wq) (fun _ b _ => 8 - (intOf b).toNat)
      case atStart => exact ⟨0, by omega, rfl, hown, hb⟩
      case round =>
        clear hown hb
        obtain ⟨j, hj, rfl, hown, hb⟩ := hrel
        by_cases hjt : j < 8
        · have hs := hb.size
          go_wp2_with (at_builtin; refine wpList_append_lies _ rfl _ _ 27 rfl w.heap.size 32 i0 (.agg #[.int .i64 0, .int .i64 0]) 2 16 Tryz.underlying27 hi hz0 hz1 hz2 rfl (by decide) _ _ _ rfl (hown.alloc _) ⟨wr.heap.size, 0, none⟩ 1 1 [.int .i64 (k : Int), .int .i64 (j : Int)] rfl rfl (news2 _ _ _ _) (ones2 _ _) (by omega) (by unfold maxLen; omega) (by omega) (by simp; omega) (wr.heap.size + 1) (by simp) ?_; intro g cap w1 hown1 hgrow hat hlg)
          have hb1 : Below w.heap.size w w1 := (bAlloc hb _).grown hgrow (by simp; omega) (own_base hown)
          have e1 : (8 * k + j) / 8 = k := by omega
          have e2 : (8 * k + j) % 8 = j := by omega
          have ht := tc_succ (8 * k + j)
          rw [e1, e2] at ht
          rw [← ht] at hown1
          clear ht e1 e2 hown hgrow hb
          go_roundw
          case rel => exact ⟨j + 1, by omega, by go_num, hown1, hb1⟩
          case measure => simp [intOf]; omega
        · have : j = 8 := by omega
          subst this
          go_wp2
          go_roundw
          case rel => exact ⟨k + 1, by omega, by go_num, hown, hb⟩
          case measure => simp [intOf]; omega
    · have : k = 8 := by omega
      subst this
      obtain ⟨g, cap, rfl, hg⟩ := own_some hown (by omega)
      go_wp2
      go_ret
      exact ⟨g, cap, rfl, hown, hg, hb⟩
end Go.Proofs.YtbdpcngcbnoioaaGreatDoor
namespace Go.Proofs.YtbdpcngcbnoioaaGreatDoor
open Go.RowKit
def tA (l : List (Int × Int)) (i : Nat) : Int := (l.getD i (0, 0)).1
def tB (l : List (Int × Int)) (i : Nat) : Int := (l.getD i (0, 0)).2
def Ts (w : World) (v : Value) (l : List (Int × Int)) : Prop :=
  ∃ a cap, v = .slice a l.length cap ∧ l.length ≤ cap ∧ cap ≤ maxLen ∧ l.length ≤ 2097152 ∧ ∀ i : Nat, i < l.length → ∃ g off, a = some ⟨g, off, none⟩ ∧ g < w.heap.size ∧
    w.cell? ⟨g, off + i * 2, none⟩ = some (.int .i64 (tA l i)) ∧ w.cell? ⟨g, off + i * 2 + 1, none⟩ = some (.int .i64 (tB l i))
theorem Ts.keep {w w1 : World} {v : Value} {l : List (Int × Int)} (h : Ts w v l) (hb : Below w.heap.size w w1) : Ts w1 v l := by
  obtain ⟨a, cap, rfl, h1, h2, h3, h4⟩ := h
  refine ⟨a, cap, rfl, h1, h2, h3, fun i hi => ?_⟩
  obtain ⟨g, off, rfl, hg, c0, c1⟩ := h4 i hi
  exact ⟨g, off, rfl, Nat.lt_of_lt_of_le hg hb.size, cell_below hb c0, cell_below hb c1⟩
theorem Ts.drew {w : World} {v : Value} {l : List (Int × Int)} (h : Ts w v l) : Ts w.drew v l := h
def stepOk (l : List (Int × Int)) (i : Nat) : Bool := okB (tA l i) (tB l i) && (decide (i = 0) || (decide (tA l (i - 1) < tA l i) && decide (tB l i < tB l (i - 1))))
def fokB (l : List (Int × Int)) : Bool := (List.range l.length).all (stepOk l)
theorem fok_false {l : List (Int × Int)} {k : Nat} (hk : k < l.length) (h : stepOk l k = false) : fokB l = false := by
  unfold fokB; rw [List.all_eq_false]; exact ⟨k, by simpa using hk, by simp [h]⟩
theorem fok_true {l : List (Int × Int)} (h : ∀ j, j < l.length → stepOk l j = true) : fokB l = true := by
  unfold fokB; rw [List.all_eq_true]; intro j hj; exact h j (by simpa using hj)
theorem stepOk_zero {l : List (Int × Int)} {X Y : Int} (hX : tA l 0 = X) (hY : tB l 0 = Y) : stepOk l 0 = okB X Y := by simp [stepOk, hX, hY]
theorem stepOk_succ {l : List (Int × Int)} {m : Nat} {X Y X' Y' : Int} (hX : tA l (m + 1) = X) (hY : tB l (m + 1) = Y) (hX' : tA l m = X') (hY' : tB l m = Y') :
    stepOk l (m + 1) = (okB X Y && (decide (X' < X) && decide (Y < Y'))) := by simp [stepOk, hX, hY, hX', hY']
end Go.Proofs.YtbdpcngcbnoioaaGreatDoor
namespace Go.Proofs.YtbdpcngcbnoioaaGreatDoor
open Go.RowKit
theorem upto_one {l : List (Int × Int)} (h : stepOk l 0 = true) {j : Nat} (hj : j < 1) : stepOk l j = true := by
  obtain rfl : j = 0 := by omega
  exact h
theorem upto_succ {l : List (Int × Int)} {k : Nat} (h : ∀ j, j < k → stepOk l j = true) (hk : stepOk l k = true) {j : Nat} (hj : j < k + 1) : stepOk l j = true := by
  by_cases e : j = k
  · subst e; exact hk
  · exact h j (by omega)
set_option maxHeartbeats 4000000 in
theorem implFrontOk_any (v : Value) (l : List (Int × Int)) (w : World) (h : Ts w v l) :
    Calls Tryz.prog 80 #[v] w fun e w' => e = .returned (.bool (fokB l)) ∧ Below w.heap.size w w' := by
  obtain ⟨a, cap, rfl, hc, hm, hn, hcells⟩ := h
  unfold maxLen at hm
  have HC := (show Hid _ from hcells)
  clear hcells
  go_enter Tryz.func80, Tryz.ntmps80
  go_wp2_with fail
  go_loopw [7] (fun i wr => ∃ k : Nat, k ≤ l.length ∧ i = .int .i64 k ∧ (∀ j, j < k → stepOk l j = true) ∧ Below w.heap.size w wr) (fun i _ => l.length - (intOf i).toNat)
  case atStart => exact ⟨0, by omega, rfl, fun j hj => by omega, Below.refl _ _⟩
  case round =>
    obtain ⟨k, hk, rfl, hall, hb⟩ := hrel
    by_cases hlt : k < l.length
    · obtain ⟨g, off, rfl, hg, c0, c1⟩ := HC.out k hlt
      generalize hX : tA l k = X at *
      generalize hY : tB l k = Y at *
      have EX : Hid (tA l k = X) := hX
      have EY : Hid (tB l k = Y) := hY
      clear hX hY
      have d0 := cell_below hb c0
      have d1 := cell_below hb c1
      have HA := (show Hid _ from hall)
      clear hall c0 c1
      go_wp2_with fail
      refine (implOk_any _ _ _).mono ?_
      rintro e w1 ⟨rfl, hb1⟩
      have bt := (Bk.new (w := wr) #[.int .i64 X, .int .i64 Y] 32 rfl).keep hb1
      have hbw : Below w.heap.size w w1 := by
        repeat' (first | (with_reducible exact Below.refl _ _) | (with_reducible assumption) | (with_reducible refine bStep ?_ (by with_reducible assumption)) | (with_reducible refine bAlloc ?_ _) | (with_reducible refine Below.drew ?_) | (with_reducible refine bDrewN ?_ _) | (with_reducible refine Below.setCell ?_ ?_ _) | (simp; done) | (simp; omega) | omega)
      cases ho : okB X Y
      · have hfin : Hid (fokB l = false) := fok_false hlt (by simp [stepOk, EX.out, EY.out, ho])
        go_wp2_with fail
        go_ret
        exact ⟨ret_bool hfin.out.symm, hbw⟩
      · obtain ⟨t0, t1, _, _⟩ := bt.two
        rcases k with _ | m
        · have hst : stepOk l 0 = true := by rw [stepOk_zero EX.out EY.out]; exact ho
          go_wp2_with fail
          go_quiet (fail)
          go_wp2_with fail
          exact ⟨⟨1, by omega, rfl, fun j hj => upto_one hst hj, bDrewN hbw _⟩, by simp [intOf]; omega⟩
        · have hm1 : m < l.length := by omega
          have im0 : (0 : Int) ≤ (m : Int) := by omega
          have im1 : (m : Int) < (l.length : Int) := by omega
          have im2 : (l.length : Int) ≤ 2097152 := by omega
          have iw : IntKind.i64.wrap (m : Int) = (m : Int) := by rw [IntKind.wrap_i64]; omega
          obtain ⟨g', off', he, hg', p0, p1⟩ := HC.out m hm1
          simp at he
          obtain ⟨rfl, rfl⟩ := he
          generalize hX' : tA l m = X' at *
          generalize hY' : tB l m = Y' at *
          have hst := stepOk_succ EX.out EY.out hX' hY'
          have HST := (show Hid _ from hst)
          clear hX' hY' hst
          have q0 := cell_below hbw p0
          have q1 := cell_below hbw p1
          clear p0 p1
          by_cases h1 : X' < X
          · by_cases h2 : Y < Y'
            · have hok : Hid (stepOk l (m + 1) = true) := by show _ = true; rw [HST.out, ho]; simp [h1, h2]
              go_wp2_with fail
              go_quiet (fail)
              go_wp2_with fail
              go_roundw
              case rel => exact ⟨m + 1 + 1, by omega, by go_num, fun j hj => upto_succ HA.out hok.out hj, bDrewN hbw _⟩
              case measure => simp [intOf]; omega
            · have hfin : Hid (fokB l = false) := fok_false hlt (by rw [HST.out]; simp [h2])
              go_wp2_with fail
              go_quiet (fail)
              go_wp2_with fail
              go_ret
              exact ⟨ret_bool hfin.out.symm, bDrewN hbw _⟩
          · have hfin : Hid (fokB l = false) := fok_false hlt (by rw [HST.out]; simp [h1])
            go_wp2_with fail
            go_quiet (fail)
            go_wp2_with fail
            go_ret
            exact ⟨ret_bool hfin.out.symm, bDrewN hbw _⟩
    · have hfin : Hid (fokB l = true) := fok_true fun j hj => hall j (by omega)
      clear hall
      go_wp2_with fail
      go_ret
      exact ⟨ret_bool hfin.out.symm, hb⟩
end Go.Proofs.YtbdpcngcbnoioaaGreatDoor
namespace Go.Proofs.YtbdpcngcbnoioaaGreatDoor
open Go.RowKit
end Go.Proofs.YtbdpcngcbnoioaaGreatDoor
namespace Go.Proofs.YtbdpcngcbnoioaaGreatDoor
open Go.RowKit
theorem Bk.cell {w : World} {k : Nat} {c : Array Value} {t : TypeId} (h : Bk w k c t) {i : Nat} {v : Value} (hi : c[i]? = some v) : w.cell? ⟨k, i, none⟩ = some v := by
  unfold Bk at h; simp [World.cell?, h, hi]
theorem Bk.free {w : World} {k : Nat} {c : Array Value} {t : TypeId} (h : Bk w k c t) (i : Nat) : w.frozen? ⟨k, i, none⟩ = false := by
  unfold Bk at h; simp [World.frozen?, h]
def Fill (c : Array Value) (l : List (Int × Int)) (k : Nat) : Prop :=
  ∀ i, i < k → c[i * 2]? = some (.int .i64 (tA l i)) ∧ c[i * 2 + 1]? = some (.int .i64 (tB l i))
theorem Fill.step {c : Array Value} {l : List (Int × Int)} {k : Nat} (h : Fill c l k) (hs : k * 2 + 1 < c.size) :
    Fill ((c.setIfInBounds (k * 2) (.int .i64 (tA l k))).setIfInBounds (k * 2 + 1) (.int .i64 (tB l k))) l (k + 1) := by
  intro i hi
  by_cases e : i = k
  · subst e
    simp [Array.getElem?_setIfInBounds]; omega
  · obtain ⟨h1, h2⟩ := h i (by omega)
    have n1 : ¬ k * 2 + 1 = i * 2 := by omega
    have n2 : ¬ k * 2 = i * 2 := by omega
    have n3 : ¬ k * 2 + 1 = i * 2 + 1 := by omega
    have n4 : ¬ k * 2 = i * 2 + 1 := by omega
    simp only [Array.getElem?_setIfInBounds, n1, n2, n3, n4, if_false]
    exact ⟨h1, h2⟩
theorem Ts.of_blk {w : World} {g cap : Nat} {c : Array Value} {t : TypeId} {l : List (Int × Int)} (h : Bk w g c t) (hf : Fill c l l.length) (hc : l.length ≤ cap) (hm : cap ≤ maxLen) (hn : l.length ≤ 2097152) :
    Ts w (.slice (some ⟨g, 0, none⟩) l.length cap) l := by
  refine ⟨_, cap, rfl, hc, hm, hn, fun i hi => ⟨g, 0, rfl, h.lt, ?_, ?_⟩⟩
  · rw [Nat.zero_add]; exact h.cell (hf i hi).1
  · rw [Nat.zero_add]; exact h.cell (hf i hi).2
end Go.Proofs.YtbdpcngcbnoioaaGreatDoor
namespace Go.Proofs.YtbdpcngcbnoioaaGreatDoor
open Go.ChangeShapes Go.WideShapes Go.ChangeAt Go.RowKit Go.Joins
def TsArg (w : World) (a : Option Addr) (len cap : Nat) : Prop :=
  len ≤ cap ∧ cap ≤ maxLen ∧ ∃ A B : Nat → Int, ∀ i : Nat, i < len → ∃ g off, a = some ⟨g, off, none⟩ ∧ g < w.heap.size ∧
    w.cell? ⟨g, off + i * 2, none⟩ = some (.int .i64 (A i)) ∧ w.cell? ⟨g, off + i * 2 + 1, none⟩ = some (.int .i64 (B i))
theorem tA_map (A B : Nat → Int) (n i : Nat) (h : i < n) : tA ((List.range n).map fun i => (A i, B i)) i = A i := by simp [tA, h]
theorem tB_map (A B : Nat → Int) (n i : Nat) (h : i < n) : tB ((List.range n).map fun i => (A i, B i)) i = B i := by simp [tB, h]
theorem TsArg.ts {w : World} {a : Option Addr} {len cap : Nat} (h : TsArg w a len cap) (hn : len ≤ 2097152) : ∃ l : List (Int × Int), l.length = len ∧ Ts w (.slice a len cap) l := by
  obtain ⟨h1, h2, A, B, h3⟩ := h
  refine ⟨(List.range len).map fun i => (A i, B i), by simp, a, cap, by simp, by simpa using h1, h2, by simpa using hn, fun i hi => ?_⟩
  simp only [List.length_map, List.length_range] at hi
  rw [tA_map A B len i hi, tB_map A B len i hi]
  exact h3 i hi
end Go.Proofs.YtbdpcngcbnoioaaGreatDoor
