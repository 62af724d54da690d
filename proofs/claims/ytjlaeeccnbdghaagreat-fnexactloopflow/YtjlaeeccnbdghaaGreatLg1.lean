/- Drawing for LoopFlow; its contracts as the laws use them. -/
import Derived.Test.YtjlaeeccnbdghaaGreatLf1
import Derived.Test.YtjlaeeccnbdghaaGreatLf2
import Derived.Test.YtjlaeeccnbdghaaGreatGd3
import Derived.Test.YtjlaeeccnbdghaaGreatLo1
namespace Go.Proofs.YtjlaeeccnbdghaaGreat
open Go.RowKit Go.Shelf

theorem FillK.early {c : Array Value} {L : List Rw} {n i : Nat} {s : Int × Int} {a b d : Int} (h : FillK rowC 5 c L n) (hi : L[i]? = some ((s, (a, b)), d)) (hin : i < n) (hs : i * 5 + 3 < c.size) (b' : Int) :
    FillK rowC 5 (c.setIfInBounds (i * 5 + 3) (.int .i64 b')) (L.set i ((s, (a, b')), d)) n := by
  intro j x hj hx q hq
  have hil := (List.getElem?_eq_some_iff.1 hi).1
  rw [List.getElem?_set] at hx
  rw [Array.getElem?_setIfInBounds]
  by_cases e : i = j
  · subst e
    rw [if_pos rfl, if_pos hil] at hx
    cases hx
    obtain rfl | hq2 : q = 3 ∨ q ≠ 3 := by omega
    · rw [if_pos rfl, if_pos (by omega)]; rfl
    · rw [if_neg (by omega), h i _ hin hi q hq]
      obtain rfl | rfl | rfl | rfl : q = 0 ∨ q = 1 ∨ q = 2 ∨ q = 4 := by omega
      all_goals rfl
  · rw [if_neg e] at hx
    rw [if_neg (by omega)]
    exact h j x hj hx q hq
set_option maxHeartbeats 8000000 in
theorem l71Early_any {B : Nat} {w : World} {g : Nat} {v : Value} {n : Nat} {p : Int} (h : Rd B w g v n p) (hp : 0 ≤ p) (hp' : p ≤ 600000) (most : Int) (hm0 : 0 ≤ most) (hm1 : most ≤ 10) :
    Calls Tryz.prog 26 #[.pointer (some ⟨g, 0, none⟩), .int .i64 most] w fun e w' => ∃ (o : Value) (l : List Rw), e = .returned o ∧ OwnR w' w.heap.size o l ∧ l.length ≤ 400 ∧ (∃ p' : Int, p ≤ p' ∧ p' ≤ p + 600 ∧ Rd B w' g v n p') ∧ Bx g w w' := by
  have hg := h.blk.lt
  have hh := h.here
  go_enter Tryz.func26, Tryz.ntmps26
  go_wp2_with fail
  refine (l71Rows_any h hp (by omega) most hm0 hm1).mono ?_
  rintro e w1 ⟨o, l, rfl, hl, -, hown, ⟨p1, hp1, hp2, hr1⟩, hx1⟩
  obtain ⟨a, c, rfl⟩ : ∃ a c, o = .slice a l.length c := by
    rcases ownK_open hown rowC_len with ⟨rfl, rfl⟩ | ⟨g, cap, c, rfl, _⟩
    · exact ⟨_, _, rfl⟩
    · exact ⟨_, _, rfl⟩
  have hl10 : l.length ≤ 10 := by omega
  generalize hN : l.length = N at *
  go_wp2_with fail
  go_loopw [6] (fun i wr => ∃ (k : Nat) (L : List Rw), k ≤ N ∧ i = .int .i64 k ∧ L.length = N ∧ OwnR wr w.heap.size (.slice a N c) L ∧ Rd B wr g v n p1 ∧ Bx g w wr) (fun i _ => N - (intOf i).toNat)
  case atStart => exact ⟨0, l, by omega, rfl, hN, hown, hr1, hx1⟩
  case round =>
    clear hown hr1 hx1
    obtain ⟨k, L, hk, rfl, hL, hown, hr1, hx1⟩ := hrel
    by_cases hlt : k < N
    · have ik : ((k : Int) < (N : Int)) := by omega
      rcases ownK_open hown rowC_len with ⟨e, rfl⟩ | ⟨g5, cap5, c5, e, hg5, hb5, hcs5, hc5, hm5, hf5⟩
      · simp at hL; omega
      cases e
      have HM : Hid (c ≤ maxLen) := hm5
      unfold maxLen at hm5
      obtain ⟨⟨⟨⟨K, V⟩, ⟨A', B'⟩⟩, D⟩, hrj⟩ : ∃ r, L[k]? = some r := ⟨_, List.getElem?_eq_getElem (by omega)⟩
      have hcj := hf5 k _ (by omega) hrj 3 (by omega)
      have q3 := hb5.cell hcj
      have f3 := hb5.free (k * 5 + 3)
      have bk6 := hb5.set (k * 5 + 3) (.int .i64 0)
      have HR : Hid (OwnR (wr.setCell ⟨g5, k * 5 + 3, none⟩ (.int .i64 0)) w.heap.size (.slice (some ⟨g5, 0, none⟩) L.length c) (L.set k (((K, V), (A', 0)), D))) := by
        have hF := FillK.early hf5 hrj (by omega) (by rw [hcs5]; omega) 0
        have := ownK_of_fill (B := w.heap.size) (l := L.set k (((K, V), (A', 0)), D)) bk6 (by rw [List.length_set]; exact hF) rowC_len (by simpa using hcs5) (by rw [List.length_set]; exact hc5) HM.out hg5
        rw [List.length_set] at this
        exact this
      have x6 : Bx g w (wr.setCell ⟨g5, k * 5 + 3, none⟩ (.int .i64 0)) := hx1.setNew (by simp; omega) _
      have hr6 := hr1.apart (q := ⟨g5, k * 5 + 3, none⟩) (by simp; omega) (by simp; have := hr1.size; omega) (.int .i64 0)
      have HL2 : Hid ((L.set k (((K, V), (A', 0)), D)).length = L.length) := by show _ = _; simp
      clear hcj hrj hf5 hown hL
      go_wp2_with fail
      go_roundw
      case rel => exact ⟨k + 1, _, by omega, by go_num, HL2.out, HR.out, hr6, x6⟩
      case measure => simp [intOf]; omega
    · obtain rfl : k = N := by omega
      have ik : ¬ ((k : Int) < (k : Int)) := by omega
      have R1 : Rs wr (.slice a k c) L := OwnR.rs hown (by omega)
      have hs1 := hx1.size
      clear hown
      go_wp2_with fail
      refine (specBatchOf_any _ L _ R1).mono ?_
      rintro e w2 ⟨o2, rfl, own2, hb2⟩
      have HO : Hid (OwnR w2 wr.heap.size o2 (batchL L)) := own2
      clear own2
      go_wp2_with fail
      go_ret
      exact ⟨_, _, rfl, own_less HO.out hs1, batch_len _, ⟨p1, hp1, by omega, hr1.keepb hb2⟩, hx1.trans (Bx.of_below hb2)⟩
set_option maxHeartbeats 8000000 in
theorem drawLoopFlow_any (a : Option Addr) (len cap : Nat) (w : World) (h : Src w (.slice a len cap) len) :
    Calls Tryz.prog 9 #[.slice a len cap] w fun e w' => ∃ (o1 o2 : Value) (l1 l2 : List Rw) (n : Int), e = .returned (.tuple #[o1, o2, .int .i64 n]) ∧ l1.length ≤ 400 ∧ l2.length ≤ 400 ∧ -1 ≤ n ∧ n ≤ 7 ∧ Rs w' o1 l1 ∧ Rs w' o2 l2 ∧ Below w.heap.size w w' := by
  go_enter Tryz.func9, Tryz.ntmps9
  go_wp2_with fail
  refine (l6Open_any _ _ _ _ h).mono ?_
  rintro e w1 ⟨rfl, ⟨v, m, hr1⟩, hb1⟩
  clear h
  have hs1 := hb1.size
  have hg := hr1.blk.lt
  go_wp2_with fail
  refine (pick_any hr1 (by omega) (by omega) _ (by omega) (by omega)).mono ?_
  rintro e w2 ⟨n, rfl, hn0, hn1, hr2, hx2⟩
  have iw : IntKind.i64.wrap (1 + n) = 1 + n := by rw [IntKind.wrap_i64]; omega
  go_wp2_with fail
  refine (pick_any hr2 (by omega) (by omega) _ (by omega) (by omega)).mono ?_
  rintro e w3 ⟨k, rfl, hk0, hk1, hr3, hx3⟩
  have hx13 := hx2.trans hx3
  clear hx2 hx3 hr2 hr1
  by_cases hk : k = 0
  · subst hk
    have hx4 : Bx w.heap.size w1 (w3.alloc (.cells #[.int .i64 (-1), .int .i64 0, .int .i64 7] 3)) := hx13.alloc _
    have hr4 := hr3.keepb (bAlloc (Below.refl _ _) (.cells #[.int .i64 (-1), .int .i64 0, .int .i64 7] 3))
    have bi : Bk (w3.alloc (.cells #[.int .i64 (-1), .int .i64 0, .int .i64 7] 3)) w3.heap.size #[.int .i64 (-1), .int .i64 0, .int .i64 7] 3 := Bk.new _ _ rfl
    have hne : w3.heap.size ≠ w.heap.size := by have := hr3.blk.lt; omega
    go_wp2_with fail
    refine (pick_any hr4 (by omega) (by omega) _ (by omega) (by omega)).mono ?_
    rintro e w5 ⟨j, rfl, hj0, hj1, hr5, hx5⟩
    have bi5 := bi.keepx hx5 hne
    obtain ⟨c0, c1, c2⟩ := bi5.three
    have hx15 := hx4.trans hx5
    have hg5 : w.heap.size < w5.heap.size := hr5.blk.lt
    clear hx4 hx5 hr4 bi hr3 hx13
    obtain rfl | rfl | rfl : j = 0 ∨ j = 1 ∨ j = 2 := by omega
    all_goals
      go_wp2_with fail
      refine (l71Early_any hr5 (by omega) (by omega) 8 (by omega) (by omega)).mono ?_
      rintro e w6 ⟨o1, l1, rfl, hown1, hl1, ⟨p6, hp6, hp6', hr6⟩, hx6⟩
      have HO1 : Hid (∀ W', Bx w.heap.size w6 W' → Rs W' o1 l1) := fun W' hW => OwnR.rs (own_keepx hown1 hW hg5) (by omega)
      have hx16 := hx15.trans hx6
      clear hown1 hx6 hx15
      go_wp2_with fail
      refine (l71Early_any hr6 (by omega) (by omega) 5 (by omega) (by omega)).mono ?_
      rintro e w7 ⟨o2, l2, rfl, hown2, hl2, -, hx7⟩
      have R2 : Hid (Rs w7 o2 l2) := OwnR.rs hown2 (by omega)
      have R1 : Hid (Rs w7 o1 l1) := HO1.out _ hx7
      have hbE := (hx16.trans hx7).below hb1 hs1 (Nat.le_refl _)
      clear hown2 HO1
      go_wp2_with fail
      refine bodyPost_ret (by simp [results, Tryz.results9, go_sem]; try rfl) rfl ?_
      exact ⟨o1, o2, l1, l2, _, rfl, hl1, hl2, by omega, by omega, R1.out, R2.out, hbE⟩
  have hkb : (k == 0) = false := by simpa using hk
  by_cases hk' : k = 1
  · subst hk'
    have hr5 := hr3
    have hx15 := hx13
    have hg5 : w.heap.size < w3.heap.size := hr3.blk.lt
    clear hr3 hx13
    go_wp2_with fail
    refine (l71Batch_any hr5 (by omega) (by omega) 4 (by omega) (by omega)).mono ?_
    rintro e w6 ⟨o1, l1, rfl, -, -, hown1, ⟨p6, hp6, hp6', hr6⟩, hx6⟩
    have HO1 : Hid (∀ W', Bx w.heap.size w6 W' → Rs W' o1 (batchL l1)) := fun W' hW => OwnR.rs (own_keepx hown1 hW hg5) (by have := batch_len l1; omega)
    have hx16 := hx15.trans hx6
    clear hown1 hx6 hx15
    go_wp2_with fail
    refine (l71Early_any hr6 (by omega) (by omega) 4 (by omega) (by omega)).mono ?_
    rintro e w7 ⟨o2, l2, rfl, hown2, hl2, -, hx7⟩
    have R2 : Hid (Rs w7 o2 l2) := OwnR.rs hown2 (by omega)
    have R1 : Hid (Rs w7 o1 (batchL l1)) := HO1.out _ hx7
    have hbE := (hx16.trans hx7).below hb1 hs1 (Nat.le_refl _)
    clear hown2 HO1
    go_wp2_with fail
    refine bodyPost_ret (by simp [results, Tryz.results9, go_sem]; try rfl) rfl ?_
    exact ⟨o1, o2, batchL l1, l2, _, rfl, batch_len l1, hl2, by omega, by omega, R1.out, R2.out, hbE⟩
  have hkb1 : (k == 1) = false := by simpa using hk'
  have hr5 := hr3
  have hx15 := hx13
  have hg5 : w.heap.size < w3.heap.size := hr3.blk.lt
  clear hr3 hx13
  go_wp2_with fail
  refine (l71Early_any hr5 (by omega) (by omega) 8 (by omega) (by omega)).mono ?_
  rintro e w6 ⟨o1, l1, rfl, hown1, hl1, ⟨p6, hp6, hp6', hr6⟩, hx6⟩
  have HO1 : Hid (∀ W', Bx w.heap.size w6 W' → Rs W' o1 l1) := fun W' hW => OwnR.rs (own_keepx hown1 hW hg5) (by omega)
  have hx16 := hx15.trans hx6
  clear hown1 hx6 hx15
  go_wp2_with fail
  refine (l71Early_any hr6 (by omega) (by omega) 5 (by omega) (by omega)).mono ?_
  rintro e w7 ⟨o2, l2, rfl, hown2, hl2, -, hx7⟩
  have R2 : Hid (Rs w7 o2 l2) := OwnR.rs hown2 (by omega)
  have R1 : Hid (Rs w7 o1 l1) := HO1.out _ hx7
  have hbE := (hx16.trans hx7).below hb1 hs1 (Nat.le_refl _)
  clear hown2 HO1
  go_wp2_with fail
  refine bodyPost_ret (by simp [results, Tryz.results9, go_sem]; try rfl) rfl ?_
  exact ⟨o1, o2, l1, l2, _, rfl, hl1, hl2, by omega, by omega, R1.out, R2.out, hbE⟩
/-! ### Contracts as the laws use them -/
theorem lflow_len (T F : List Rw) (n : Int) : (lflowL T F n).length ≤ 400 := by
  unfold lflowL
  split
  · rename_i h
    have h6 : n.toNat ≤ 6 := by
      unfold lokB at h
      simp only [Bool.and_eq_true] at h
      have := h.2
      simp [inB] at this
      omega
    unfold lflowS
    have h1 := sumL_len ltS (chV T F (tsP n.toNat 8))
    have h2 := chV_len T F (tsP n.toNat 8)
    rw [tsP_len] at h2
    omega
  · simp
theorem implLoopFlow_k {T F L : List Rw} {n : Int} {b : Bool} (e : lflowL T F n = L) (eb : lokB T F n = b) {v1 v2 : Value} {w : World} (hT : Rs w v1 T) (hF : Rs w v2 F) :
    Calls Tryz.prog 11 #[v1, v2, .int .i64 n] w fun e w' => ∃ o : Value, e = .returned (.tuple #[o, .bool b]) ∧ Rs w' o L ∧ Below w.heap.size w w' := by
  subst e eb
  refine (implLoopFlow_any v1 v2 T F n w hT hF).mono ?_
  rintro e w' ⟨o, rfl, ho, hb⟩
  exact ⟨o, rfl, OwnR.rs ho (by have := lflow_len T F n; omega), hb⟩
theorem specLoopFlow_k {T F L : List Rw} {n : Int} {b : Bool} (e : lflowL T F n = L) (eb : lokB T F n = b) {v1 v2 : Value} {w : World} (hT : Rs w v1 T) (hF : Rs w v2 F) :
    Calls Tryz.prog 10 #[v1, v2, .int .i64 n] w fun e w' => ∃ o : Value, e = .returned (.tuple #[o, .bool b]) ∧ Rs w' o L ∧ Below w.heap.size w w' := by
  subst e eb
  refine (specLoopFlow_any v1 v2 T F n w hT hF).mono ?_
  rintro e w' ⟨o, rfl, ho, hb⟩
  exact ⟨o, rfl, OwnR.rs ho (by have := lflow_len T F n; omega), hb⟩
end Go.Proofs.YtjlaeeccnbdghaaGreat
