/- Drawing for LoopFlow; its contracts as the laws use them. -/
import Derived.Test.YtjlaeeccnbdghaaLf1
import Derived.Test.YtjlaeeccnbdghaaLf2
import Derived.Test.YtjlaeeccnbdghaaGd3
import Derived.Test.YtjlaeeccnbdghaaLo1
namespace Go.Proofs.Ytjlaeeccnbdghaa
open Go.RowKit Go.Shelf

theorem FillK.early {c : Array Value} {L : List Rw} {n i : Nat} {s : Int × Int} {a b d : Int} (h : FillK rowC 5 c L n) (hi : L[i]? = some ((s, (a, b)), d)) (hin : i < n) (hs : i * 5 + 3 < c.size) (b' : Int) :
    FillK rowC 5 (c.setIfInBounds (i * 5 + 3) (.int .i64 b')) (L.set i ((s, (a, b')), d)) n := by
  intro j x hj hx q hq
  have hil := (List.getElem?_eq_some_iff.1 hi).1
  rw [List.getElem?_set] at hx
  rw [Array.getElem?_setIfInBounds]
  by_cases e : i = j
  · subst e
    rw [if_pos rfl, if_pos hil] at hx
    cases hx
    obtain rfl | hq2 : q = 3 ∨ q ≠ 3 := by omega
    · rw [if_pos rfl, if_pos (by omega)]; rfl
    · rw [if_neg (by omega), h i _ hin hi q hq]
      obtain rfl | rfl | rfl | rfl : q = 0 ∨ q = 1 ∨ q = 2 ∨ q = 4 := by omega
      all_goals rfl
  · rw [if_neg e] at hx
    rw [if_neg (by omega)]
    exact h j x hj hx q hq
set_option maxHeartbeats 8000000 in
theorem l71Early_any {B : Nat} {w : World} {g : Nat} {v : Value} {n : Nat} {p : Int} (h : Rd B w g v n p) (hp : 0 ≤ p) (hp' : p ≤ 600000) (most : Int) (hm0 : 0 ≤ most) (hm1 : most ≤ 10) :
    Calls Try.prog 56 #[.pointer (some ⟨g, 0, none⟩), .int .i64 most] w fun e w' => ∃ (o : Value) (l : List Rw), e = .returned o ∧ OwnR w' w.heap.size o l ∧ l.length ≤ 400 ∧ (∃ p' : Int, p ≤ p' ∧ p' ≤ p + 600 ∧ Rd B w' g v n p') ∧ Bx g w w' := by
  have hg := h.blk.lt
  have hh := h.here
  go_enter Try.func56, Try.ntmps56
  go_wp2_with fail
  refine (l71Rows_any h hp (by omega) most hm0 hm1).mono ?_
  rintro e w1 ⟨o, l, rfl, hl, -, hown, ⟨p1, hp1, hp2, hr1⟩, hx1⟩
  obtain ⟨a, c, rfl⟩ : ∃ a c, o = .slice a l.length c := by
    rcases ownK_open hown rowC_len with ⟨rfl, rfl⟩ | ⟨g, cap, c, rfl, _⟩
    · exact ⟨_, _, rfl⟩
    · exact ⟨_, _, rfl⟩
  have hl10 : l.length ≤ 10 := by omega
  generalize hN : l.length = N at *
  go_wp2_with fail
  go_loopw [6] (fun i wr => ∃ (k : Nat) (L : List Rw), k ≤ N ∧ i = .int .i64 k ∧ L.length = N ∧ OwnR wr w.heap.size (.slice a N c) L ∧ Rd B wr g v n p1 ∧ Bx g w wr) (fun i _ => N - (intOf i).toNat)
  case atStart => exact ⟨0, l, by omega, rfl, hN, hown, hr1, hx1⟩
  case round =>
    clear hown hr1 hx1
    obtain ⟨k, L, hk, rfl, hL, hown, hr1, hx1⟩ := hrel
    by_cases hlt : k < N
    · have ik : ((k : Int) < (N : Int)) := by omega
      rcases ownK_open hown rowC_len with ⟨e, rfl⟩ | ⟨g5, cap5, c5, e, hg5, hb5, hcs5, hc5, hm5, hf5⟩
      · simp at hL; omega
      cases e
      have HM : Hid (c ≤ maxLen) := hm5
      unfold maxLen at hm5
      obtain ⟨⟨⟨⟨K, V⟩, ⟨A', B'⟩⟩, D⟩, hrj⟩ : ∃ r, L[k]? = some r := ⟨_, List.getElem?_eq_getElem (by omega)⟩
      have hcj := hf5 k _ (by omega) hrj 3 (by omega)
      have q3 := hb5.cell hcj
      have f3 := hb5.free (k * 5 + 3)
      have bk6 := hb5.set (k * 5 + 3) (.int .i64 0)
      have HR : Hid (OwnR (wr.setCell ⟨g5, k * 5 + 3, none⟩ (.int .i64 0)) w.heap.size (.slice (some ⟨g5, 0, none⟩) L.length c) (L.set k (((K, V), (A', 0)), D))) := by
        have hF := FillK.early hf5 hrj (by omega) (by rw [hcs5]; omega) 0
        have := ownK_of_fill (B := w.heap.size) (l := L.set k (((K, V), (A', 0)), D)) bk6 (by rw [List.length_set]; exact hF) rowC_len (by simpa using hcs5) (by rw [List.length_set]; exact hc5) HM.out hg5
        rw [List.length_set] at this
        exact this
      have x6 : Bx g w (wr.setCell ⟨g5, k * 5 + 3, none⟩ (.int .i64 0)) := hx1.setNew (by simp; omega) _
      have hr6 := hr1.apart (q := ⟨g5, k * 5 + 3, none⟩) (by simp; omega) (by simp; have := hr1.size; omega) (.int .i64 0)
      have HL2 : Hid ((L.set k (((K, V), (A', 0)), D)).length = L.length) := by show _ = _; simp
      clear hcj hrj hf5 hown hL
      go_wp2_with fail
      go_roundw
      case rel => exact ⟨k + 1, _, by omega, by go_num, HL2.out, HR.out, hr6, x6⟩
      case measure => simp [intOf]; omega
    · obtain rfl : k = N := by omega
      have ik : ¬ ((k : Int) < (k : Int)) := by omega
      have R1 : Rs wr (.slice a k c) L := OwnR.rs hown (by omega)
      have hs1 := hx1.size
      clear hown
      go_wp2_with fail
      refine (specBatchOf_any _ L _ R1).mono ?_
      rintro e w2 ⟨o2, rfl, own2, hb2⟩
      have HO : Hid (OwnR w2 wr.heap.size o2 (batchL L)) := own2
      clear own2
      go_wp2_with fail
      go_ret
      exact ⟨_, _, rfl, own_less HO.out hs1, batch_len _, ⟨p1, hp1, by omega, hr1.keepb hb2⟩, hx1.trans (Bx.of_below hb2)⟩
/-! ### Contracts as the laws use them -/
theorem lflow_len (T F : List Rw) (n : Int) : (lflowL T F n).length ≤ 400 := by
  unfold lflowL
  split
  · rename_i h
    have h6 : n.toNat ≤ 6 := by
      unfold lokB at h
      simp only [Bool.and_eq_true] at h
      have := h.2
      simp [inB] at this
      omega
    unfold lflowS
    have h1 := sumL_len ltS (chV T F (tsP n.toNat 8))
    have h2 := chV_len T F (tsP n.toNat 8)
    rw [tsP_len] at h2
    omega
  · simp
theorem specLoopFlow_k {T F L : List Rw} {n : Int} {b : Bool} (e : lflowL T F n = L) (eb : lokB T F n = b) {v1 v2 : Value} {w : World} (hT : Rs w v1 T) (hF : Rs w v2 F) :
    Calls Try.prog 55 #[v1, v2, .int .i64 n] w fun e w' => ∃ o : Value, e = .returned (.tuple #[o, .bool b]) ∧ Rs w' o L ∧ Below w.heap.size w w' := by
  subst e eb
  refine (specLoopFlow_any v1 v2 T F n w hT hF).mono ?_
  rintro e w' ⟨o, rfl, ho, hb⟩
  exact ⟨o, rfl, OwnR.rs ho (by have := lflow_len T F n; omega), hb⟩
end Go.Proofs.Ytjlaeeccnbdghaa
