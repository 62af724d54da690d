import Derived.Test.YtldejkhemkjcgaaGreatDoorGpa
import Derived.Test.YtldejkhemkjcgaaGreatDoorGpm
namespace Go.Proofs.YtldejkhemkjcgaaGreatDoor
open Go.RowKit Go.Shelf
theorem first_kid {t : PT} {i : Nat} (h1 : t.k ≠ 1) (hi : i < t.len) (h : firstB (t.kid i) = false) : firstB t = false := by
  cases t with
  | n0 k n => simp [PT.len] at hi
  | n1 k n x => simp only [PT.k] at h1; simp only [PT.kid] at h; simp [firstB, h1, h]
  | n2 k n x y =>
    simp only [PT.k] at h1
    cases i with
    | zero => simp only [PT.kid] at h; simp [firstB, h1, h]
    | succ i => simp only [PT.kid] at h; simp [firstB, h1, h]
theorem first_all {t : PT} (h1 : t.k ≠ 1) (h : ∀ i, i < t.len → firstB (t.kid i) = true) : firstB t = true := by
  cases t with
  | n0 k n => simp only [PT.k] at h1; simp [firstB, h1]
  | n1 k n x => simp only [PT.k] at h1; have := h 0 (by simp [PT.len]); simp only [PT.kid] at this; simp [firstB, h1, this]
  | n2 k n x y =>
    simp only [PT.k] at h1
    have e0 := h 0 (by simp [PT.len])
    have e1 := h 1 (by simp [PT.len])
    simp only [PT.kid] at e0 e1
    simp [firstB, h1, e0, e1]
theorem first_in {t : PT} (h1 : t.k = 1) : firstB t = decide (t.n = 0) := by
  cases t <;> (simp only [PT.k] at h1; subst h1; rfl)
def FirstPost (t : PT) (w : World) (e : Ending) (w' : World) : Prop := e = .returned (.bool (firstB t)) ∧ Below w.heap.size w w'
set_option maxRecDepth 100000 in
set_option maxHeartbeats 8000000 in
theorem lwFirst_step {t : PT} {B : Nat} {s : Value} {w : World} (hs : KdS B w t s)
    (hrec : ∀ i, i < t.len → ∀ (W : World) (s' : Value), KdS B W (t.kid i) s' → Calls Tryz.prog 35 #[pl (t.kid i).k (t.kid i).n s'] W (FirstPost (t.kid i) W)) : Calls Tryz.prog 35 #[pl t.k t.n s] w (FirstPost t w) := by
  have bP : Bk (w.alloc (.cells #[.int .i64 t.k, .int .i64 t.n, s] 25)) w.heap.size #[.int .i64 t.k, .int .i64 t.n, s] 25 := Bk.new _ _ rfl
  have hb0 : Below w.heap.size w (w.alloc (.cells #[.int .i64 t.k, .int .i64 t.n, s] 25)) := bAlloc (Below.refl _ _) _
  obtain ⟨x0, x1, x2⟩ := bP.three'
  have HSL := (show Hid _ from hs.keep hb0)
  obtain ⟨a, c, rfl⟩ := hs.sl
  have HR := (show Hid _ from hrec)
  have htl := PT.len_le t
  clear hs hrec
  by_cases h1 : t.k = 1
  · have HX : Hid (firstB t = decide (t.n = 0)) := first_in h1
    by_cases h2 : t.n = 0
    · have HY : Hid (firstB t = true) := by show _ = _; rw [HX.out]; simp [h2]
      rw [h1] at x0
      rw [h2] at x1
      go_enter Tryz.func35, Tryz.ntmps35
      go_wp2_with fail
      go_ret
      exact ⟨by rw [HY.out]; try rfl, bAlloc (Below.refl _ _) _⟩
    · have HY : Hid (firstB t = false) := by show _ = _; rw [HX.out]; simp [h2]
      have n2 : (t.n == 0) = false := by simp [h2]
      rw [h1] at x0
      go_enter Tryz.func35, Tryz.ntmps35
      go_wp2_with fail
      go_ret
      exact ⟨by rw [HY.out]; try rfl, bAlloc (Below.refl _ _) _⟩
  · have n1 : (t.k == 1) = false := by simp [h1]
    have H1 := (show Hid (t.k ≠ 1) from h1)
    clear h1
    go_enter Tryz.func35, Tryz.ntmps35
    go_wp2_with fail
    generalize (w.alloc (.cells #[.int .i64 t.k, .int .i64 t.n, .slice a t.len c] 25)) = W0 at *
    clear x0 x1 x2
    go_loopw [3] (fun i wr => ∃ k : Nat, i = .int .i64 k ∧ k ≤ t.len ∧ (∀ j, j < k → firstB (t.kid j) = true) ∧ Below W0.heap.size W0 wr) (fun i _ => t.len - (intOf i).toNat)
    case atStart => exact ⟨0, rfl, Nat.zero_le _, fun j hj => absurd hj (by omega), Below.refl _ _⟩
    case round =>
      obtain ⟨k, rfl, hkl, hpok, hb⟩ := hrel
      have HPO := (show Hid _ from hpok)
      clear hpok
      have bP1 := bP.keep hb
      obtain ⟨x0, x1, x2⟩ := bP1.three'
      by_cases hlt2 : k < t.len
      · have ik : ((k : Int) < (t.len : Int)) := by omega
        obtain ⟨g, off, sx, rfl, hgl, c0, c1, c2, hkid, b2, m2, d2, rfl⟩ := (HSL.out.keep hb).at hlt2
        have HC := (show Hid _ from HR.out k hlt2 wr _ hkid)
        clear hkid
        go_wp2_with fail
        refine Calls.mono HC.out ?_
        rintro e w7 ⟨rfl, hb7⟩
        have hb8 := bStep hb hb7
        cases hp : firstB (t.kid k)
        · have HX : Hid (firstB t = false) := first_kid H1.out hlt2 hp
          go_wp2_with fail
          go_ret
          exact ⟨by rw [HX.out]; try rfl, bStep hb0 hb8⟩
        · have HN : Hid (∀ j, j < k + 1 → firstB (t.kid j) = true) := fun j hj => by
            rcases Nat.lt_or_ge j k with h | h
            · exact HPO.out j h
            · obtain rfl : j = k := by omega
              exact hp
          go_wp2_with fail
          go_roundw
          case rel => exact ⟨k + 1, by go_num, by omega, HN.out, hb8⟩
          case measure => simp [intOf]; omega
      · obtain rfl : k = t.len := by omega
        have ik : ¬ ((t.len : Int) < (t.len : Int)) := by omega
        have HX : Hid (firstB t = true) := first_all H1.out HPO.out
        go_wp2_with fail
        go_ret
        exact ⟨by rw [HX.out]; try rfl, bStep hb0 hb⟩
theorem lwFirst_any : ∀ (t : PT) {B : Nat} {s : Value} {w : World}, KdS B w t s → Calls Tryz.prog 35 #[pl t.k t.n s] w (FirstPost t w)
  | .n0 _ _, _, _, _, hs => lwFirst_step hs fun i hi => by simp [PT.len] at hi
  | .n1 _ _ x, _, _, _, hs => lwFirst_step hs fun i _ W s' h => lwFirst_any x h
  | .n2 _ _ x y, _, _, _, hs => lwFirst_step hs fun i _ W s' h => by
    cases i with
    | zero => exact lwFirst_any x h
    | succ i => exact lwFirst_any y h
theorem lwFirst_eq {t : PT} {b : Bool} (hf : firstB t = b) {B : Nat} {s : Value} {w : World} (hs : KdS B w t s) : Calls Tryz.prog 35 #[pl t.k t.n s] w fun e w' => e = .returned (.bool b) ∧ Below w.heap.size w w' := by
  rw [← hf]; exact lwFirst_any t hs
end Go.Proofs.YtldejkhemkjcgaaGreatDoor
