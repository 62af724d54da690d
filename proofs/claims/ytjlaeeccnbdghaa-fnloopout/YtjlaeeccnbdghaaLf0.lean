/- Changes of rounds: plain facts. -/
import Derived.Test.YtjlaeeccnbdghaaTp1
import Derived.Test.YtjlaeeccnbdghaaLk1
namespace Go.Proofs.Ytjlaeeccnbdghaa
open Go.RowKit

/-- What is come to at A, in so many rounds. -/
def vL (T F : List Rw) (a b : Int) : List It := setL (itemsL T a 0) (itemsL F a 0) b
/-- What changes at a time. -/
def dV (T F : List Rw) (t : Int × Int) : List It := sumL ltT (vL T F t.1 t.2 ++ negI (vL T F (t.1 - 1) t.2) ++ negI (vL T F t.1 (t.2 - 1)) ++ vL T F (t.1 - 1) (t.2 - 1))
def chV (T F : List Rw) (ts : List (Int × Int)) : List Rw := ts.flatMap fun t => stamp t (dV T F t)
def tsP (R A : Nat) : List (Int × Int) := (List.range A).flatMap fun a => gridRow a (R + 1)
def gridCol (n b : Nat) : List (Int × Int) := (List.range n).map fun a => (((a : Nat) : Int), (b : Int))
def tsM (B : Nat) : List (Int × Int) := (List.range B).flatMap fun b => gridCol 8 b
theorem rnd_nil : ∀ n, rndL [] [] n = []
  | 0 => rfl
  | n + 1 => by show stepL [] [] (rndL [] [] n) = []; rw [rnd_nil n]; decide
theorem setL_nil (n : Int) : setL [] [] n = [] := by
  unfold setL; split
  · exact rnd_nil _
  · rfl
theorem vL_out (T F : List Rw) {x y : Int} (h : okB x y = false) : vL T F x y = [] := by
  unfold vL
  by_cases h1 : okB x 0 = true
  · refine setL_no3 ?_
    simp [okB] at h h1
    simp [inB]; omega
  · rw [items_no2 (by simpa using h1), items_no2 (by simpa using h1)]; exact setL_nil _
theorem vL_zero (T F : List Rw) (x : Int) : vL T F x 0 = [] := by
  unfold vL setL; split <;> rfl
theorem vL_yes (T F : List Rw) (x : Int) {b : Nat} (hb : b ≤ 6) : vL T F x (b : Int) = rndL (itemsL T x 0) (itemsL F x 0) b := by
  unfold vL
  rw [setL_yes (items_sokF T x 0) (items_sokF F x 0) (by simp [inB]; omega)]; rfl
theorem vL_one {T F : List Rw} {x y : Int} {r : It} (h : r ∈ vL T F x y) : r.2 = 1 ∧ r.1.2 = 0 ∧ 0 ≤ r.1.1 ∧ r.1.1 ≤ 3 := by
  unfold vL setL at h
  split at h
  · exact rnd_one h
  · cases h
theorem vL_sok (T F : List Rw) (x y : Int) : sokB (vL T F x y) = true := by
  unfold vL setL; split
  · exact rnd_sok _ _ _
  · exact sok_nil
theorem vL_zv (T F : List Rw) (x y : Int) : zV (vL T F x y) := fun _ hr => ⟨(vL_one hr).2.2.1, (vL_one hr).2.2.2, (vL_one hr).2.1⟩
theorem vL_len (T F : List Rw) (x y : Int) : (vL T F x y).length ≤ 4 := zv_len (sok_srt (vL_sok T F x y)) (vL_zv T F x y)
theorem vL_abs (T F : List Rw) (x y : Int) : absum (vL T F x y) ≤ 4 := by
  have h1 := absum_le (l := vL T F x y) (c := 1) (fun r hr => by rw [(vL_one hr).1]; omega)
  have h2 := vL_len T F x y
  omega
theorem vL_tot (T F : List Rw) (x y : Int) (s : Int × Int) : 0 ≤ tot (vL T F x y) s ∧ tot (vL T F x y) s ≤ 1 := by
  by_cases h : ∃ r ∈ vL T F x y, r.1 = s
  · obtain ⟨r, hr, e⟩ := h
    have := srt_tot ltT_ord (sok_srt (vL_sok T F x y)) hr
    rw [e, (vL_one hr).1] at this
    omega
  · rw [tot_of_not (fun r hr e => h ⟨r, hr, e⟩)]; omega
theorem dV_tot (T F : List Rw) (t : Int × Int) (s : Int × Int) : tot (dV T F t) s = tot (vL T F t.1 t.2) s - tot (vL T F (t.1 - 1) t.2) s - tot (vL T F t.1 (t.2 - 1)) s + tot (vL T F (t.1 - 1) (t.2 - 1)) s := by
  unfold dV
  rw [sumL_tot ltT_ord, tot_append, tot_append, tot_append, neg_totI, neg_totI]; omega
theorem dV_zero (T F : List Rw) (a : Int) : dV T F (a, 0) = [] := by
  refine sum_none fun s => ?_
  have h := dV_tot T F (a, 0) s
  have h1 : tot (dV T F (a, 0)) s = 0 := by
    rw [h]
    simp only
    rw [vL_zero, vL_zero, vL_out T F (x := a) (y := 0 - 1) (by simp [okB]), vL_out T F (x := a - 1) (y := 0 - 1) (by simp [okB])]
    rfl
  unfold dV at h1
  rw [sumL_tot ltT_ord] at h1
  exact h1
theorem zv_neg {l : List It} (h : zV l) : zV (negI l) := fun r hr => by
  unfold negI at hr
  obtain ⟨q, hq, rfl⟩ := List.mem_map.1 hr
  exact h q hq
theorem dV_zv (T F : List Rw) (t : Int × Int) : zV (dV T F t) := zv_sum (zv_app (zv_app (zv_app (vL_zv _ _ _ _) (zv_neg (vL_zv _ _ _ _))) (zv_neg (vL_zv _ _ _ _))) (vL_zv _ _ _ _))
theorem dV_len (T F : List Rw) (t : Int × Int) : (dV T F t).length ≤ 4 := zv_len (sumL_srt ltT_ord _) (dV_zv T F t)
theorem dV_mem {T F : List Rw} {t : Int × Int} {r : It} (hr : r ∈ dV T F t) : -2 ≤ r.2 ∧ r.2 ≤ 2 ∧ itK r.1 := by
  have h1 : tot (dV T F t) r.1 = r.2 := srt_tot ltT_ord (sumL_srt ltT_ord _) hr
  have h2 := dV_tot T F t r.1
  rw [h1] at h2
  have b1 := vL_tot T F t.1 t.2 r.1
  have b2 := vL_tot T F (t.1 - 1) t.2 r.1
  have b3 := vL_tot T F t.1 (t.2 - 1) r.1
  have b4 := vL_tot T F (t.1 - 1) (t.2 - 1) r.1
  have hz := dV_zv T F t r hr
  exact ⟨by omega, by omega, hz.1, hz.2.1, by omega, by omega⟩
theorem chV_append (T F : List Rw) (ts us : List (Int × Int)) : chV T F (ts ++ us) = chV T F ts ++ chV T F us := by unfold chV; rw [List.flatMap_append]
theorem chV_snoc (T F : List Rw) (ts : List (Int × Int)) (t : Int × Int) : chV T F (ts ++ [t]) = chV T F ts ++ stamp t (dV T F t) := by rw [chV_append]; unfold chV; simp
theorem chV_len (T F : List Rw) (ts : List (Int × Int)) : (chV T F ts).length ≤ 4 * ts.length := by
  unfold chV
  refine flat_le (fun t => ?_) ts
  rw [stamp_len]; exact dV_len T F t
theorem chV_row {T F : List Rw} {ts : List (Int × Int)} (ht : ∀ t ∈ ts, okB t.1 t.2 = true) {r : Rw} (hr : r ∈ chV T F ts) : rwOkB r = true ∧ -2 ≤ r.2 ∧ r.2 ≤ 2 ∧ r.1.1.2 = 0 ∧ r.1.2 ∈ ts ∧ r.2 ≠ 0 := by
  unfold chV at hr
  obtain ⟨t, htm, hr⟩ := List.mem_flatMap.1 hr
  unfold stamp at hr
  obtain ⟨q, hq, rfl⟩ := List.mem_map.1 hr
  obtain ⟨d1, d2, d3⟩ := dV_mem hq
  obtain ⟨k1, k2, k3⟩ := key_ok (s := (q.1, t)) d3 (ht t htm)
  have k4 : inB q.2 (-99999) 99999 = true := by simp [inB]; omega
  refine ⟨?_, d1, d2, (dV_zv T F t q hq).2.2, htm, sumL_nz ltT _ q hq⟩
  simp only at k1 k2 k3
  simp only [rwOkB, k1, k2, k3, k4, Bool.and_self]
theorem chV_abs {T F : List Rw} {ts : List (Int × Int)} (ht : ∀ t ∈ ts, okB t.1 t.2 = true) : absum (chV T F ts) ≤ 8 * ts.length := by
  have h1 := absum_le (l := chV T F ts) (c := 2) (fun _ hr => ⟨(chV_row ht hr).2.1, (chV_row ht hr).2.2.1⟩)
  have h2 := chV_len T F ts
  omega
theorem at_app (l m : List Rw) (x y : Int) : atL (l ++ m) x y = atL l x y ++ atL m x y := by unfold atL; rw [List.filter_append, List.map_append]
theorem chV_at (T F : List Rw) (x y : Int) (s : Int × Int) : ∀ ts, tot (atL (chV T F ts) x y) s = sumT (fun t => if leB t.1 t.2 x y then tot (dV T F t) s else 0) ts
  | [] => by simp [chV, atL, tot, sumT]
  | t :: ts => by
    have e : chV T F (t :: ts) = stamp t (dV T F t) ++ chV T F ts := by unfold chV; rw [List.flatMap_cons]
    rw [e, at_app, tot_append, chV_at T F x y s ts]
    simp only [sumT]
    unfold stamp
    rw [at_same]
    by_cases h : leB t.1 t.2 x y = true
    · rw [if_pos h, if_pos h]
    · rw [if_neg h, if_neg h]; simp [tot]

/-! ### Sums over rows and columns of times -/
section
variable {E : Int → Int → Int} (h0 : ∀ x y, okB x y = false → E x y = 0) {X Y : Int} (hX : okB X Y = true)
include h0 hX
theorem tele_rows (R : Nat) (hR : R ≤ 6) (hY : Y ≤ R) (n : Nat) (hn : n ≤ 8) :
    sumT (fun t => if leB t.1 t.2 X Y then E t.1 t.2 - E (t.1 - 1) t.2 - E t.1 (t.2 - 1) + E (t.1 - 1) (t.2 - 1) else 0) (tsP R n) = E (min ((n : Int) - 1) X) Y := by
  have hX' := okB_iff.1 hX
  induction n with
  | zero =>
    have e : min (((0 : Nat) : Int) - 1) X = -1 := by omega
    rw [e, h0 (-1) _ (by simp [okB])]
    simp [tsP, sumT]
  | succ n ih =>
    have e : tsP R (n + 1) = tsP R n ++ gridRow n (R + 1) := by unfold tsP; rw [List.range_succ, List.flatMap_append]; simp
    rw [e, sumT_append, ih (by omega), tele_row h0 hX n (by omega) (R + 1) (by omega)]
    have e3 : min (((R + 1 : Nat) : Int) - 1) Y = Y := by omega
    rw [e3]
    by_cases h1 : (n : Int) ≤ X
    · have e1 : min ((n : Int) - 1) X = (n : Int) - 1 := by omega
      have e2 : min (((n + 1 : Nat) : Int) - 1) X = (n : Int) := by omega
      rw [e1, e2, if_pos h1]; omega
    · have e1 : min ((n : Int) - 1) X = X := by omega
      have e2 : min (((n + 1 : Nat) : Int) - 1) X = X := by omega
      rw [e1, e2, if_neg h1]; omega
theorem tele_col (b : Nat) (hb : b < 8) (m : Nat) (hm : m ≤ 8) :
    sumT (fun t => if leB t.1 t.2 X Y then E t.1 t.2 - E (t.1 - 1) t.2 - E t.1 (t.2 - 1) + E (t.1 - 1) (t.2 - 1) else 0) (gridCol m b) =
      if (b : Int) ≤ Y then E (min ((m : Int) - 1) X) b - E (min ((m : Int) - 1) X) (b - 1) else 0 := by
  rw [okB_iff] at hX
  induction m with
  | zero =>
    have e : min (((0 : Nat) : Int) - 1) X = -1 := by omega
    rw [e, h0 (-1) _ (by simp [okB]), h0 (-1) _ (by simp [okB])]
    simp [gridCol, sumT]
  | succ m ih =>
    have e : gridCol (m + 1) b = gridCol m b ++ [((m : Int), (b : Int))] := by unfold gridCol; rw [List.range_succ, List.map_append]; rfl
    rw [e, sumT_append, ih (by omega)]
    simp only [sumT]
    have hl : leB (m : Int) (b : Int) X Y = decide ((m : Int) ≤ X ∧ (b : Int) ≤ Y) := by
      rw [Bool.eq_iff_iff, leB_iff, okB_iff, okB_iff, decide_eq_true_eq]; omega
    rw [hl]
    by_cases h1 : (b : Int) ≤ Y
    · by_cases h2 : (m : Int) ≤ X
      · have e1 : min ((m : Int) - 1) X = (m : Int) - 1 := by omega
        have e2 : min (((m + 1 : Nat) : Int) - 1) X = (m : Int) := by omega
        rw [e1, e2]
        simp only [h1, h2, and_self, decide_true, if_true]
        omega
      · have e1 : min ((m : Int) - 1) X = X := by omega
        have e2 : min (((m + 1 : Nat) : Int) - 1) X = X := by omega
        rw [e1, e2]
        simp only [h1, h2, false_and, decide_false, if_true, Bool.false_eq_true, if_false]
        omega
    · simp only [h1, and_false, decide_false, Bool.false_eq_true, if_false]; omega
theorem tele_cols (n : Nat) (hn : n ≤ 8) :
    sumT (fun t => if leB t.1 t.2 X Y then E t.1 t.2 - E (t.1 - 1) t.2 - E t.1 (t.2 - 1) + E (t.1 - 1) (t.2 - 1) else 0) (tsM n) = E X (min ((n : Int) - 1) Y) := by
  have hX' := okB_iff.1 hX
  induction n with
  | zero =>
    have e : min (((0 : Nat) : Int) - 1) Y = -1 := by omega
    rw [e, h0 _ (-1) (by simp [okB])]
    simp [tsM, sumT]
  | succ n ih =>
    have e : tsM (n + 1) = tsM n ++ gridCol 8 n := by unfold tsM; rw [List.range_succ, List.flatMap_append]; simp
    rw [e, sumT_append, ih (by omega), tele_col h0 hX n (by omega) 8 (by omega)]
    have e3 : min (((8 : Nat) : Int) - 1) X = X := by omega
    rw [e3]
    by_cases h1 : (n : Int) ≤ Y
    · have e1 : min ((n : Int) - 1) Y = (n : Int) - 1 := by omega
      have e2 : min (((n + 1 : Nat) : Int) - 1) Y = (n : Int) := by omega
      rw [e1, e2, if_pos h1]; omega
    · have e1 : min ((n : Int) - 1) Y = Y := by omega
      have e2 : min (((n + 1 : Nat) : Int) - 1) Y = Y := by omega
      rw [e1, e2, if_neg h1]; omega
end
theorem dsum (T F : List Rw) (x y : Int) (s : Int × Int) (ts : List (Int × Int)) : tot (atL (chV T F ts) x y) s = sumT (fun t => if leB t.1 t.2 x y then (fun a b => tot (vL T F a b) s) t.1 t.2 - (fun a b => tot (vL T F a b) s) (t.1 - 1) t.2 - (fun a b => tot (vL T F a b) s) t.1 (t.2 - 1) + (fun a b => tot (vL T F a b) s) (t.1 - 1) (t.2 - 1) else 0) ts := by
  rw [chV_at]
  exact sumT_congr fun t _ => by simp only [dV_tot]
theorem vtot_out (T F : List Rw) (s : Int × Int) : ∀ x y, okB x y = false → (fun a b => tot (vL T F a b) s) x y = 0 := fun x y h => by simp only [vL_out T F h]; rfl
/-- What lacks, as the program goes: A by A. -/
theorem lack_P (T F : List Rw) {R A j : Nat} (hR : R ≤ 6) (hA : A < 8) (hj : j < R) : lackL (chV T F (tsP R A ++ gridRow A (j + 1))) A ((j : Int) + 1) (vL T F A ((j : Int) + 1)) = dV T F ((A : Int), (j : Int) + 1) := by
  unfold lackL
  unfold dV
  refine sumL_congr ltT_ord fun s => ?_
  have hX : okB (A : Int) ((j : Int) + 1) = true := by rw [okB_iff]; omega
  have h1 := tele_rows (vtot_out T F s) hX R hR (by omega) A (by omega)
  have h2 := tele_row (vtot_out T F s) hX A hA (j + 1) (by omega)
  rw [tot_append, negAt_tot, dsum, sumT_append, h1, h2, tot_append, tot_append, tot_append, neg_totI, neg_totI]
  have e1 : min ((A : Int) - 1) (A : Int) = (A : Int) - 1 := by omega
  have e2 : min (((j + 1 : Nat) : Int) - 1) ((j : Int) + 1) = (j : Int) := by omega
  rw [e1, e2, if_pos (Int.le_refl _)]
  have e3 : (j : Int) + 1 - 1 = (j : Int) := by omega
  simp only [e3]
  omega
/-- What lacks, as the model goes: round by round. -/
theorem lack_M (T F : List Rw) {B A : Nat} (hB : B < 7) (hA : A < 8) : lackL (chV T F (tsM (B + 1) ++ gridCol A (B + 1))) A ((B : Int) + 1) (vL T F A ((B : Int) + 1)) = dV T F ((A : Int), (B : Int) + 1) := by
  unfold lackL
  unfold dV
  refine sumL_congr ltT_ord fun s => ?_
  have hX : okB (A : Int) ((B : Int) + 1) = true := by rw [okB_iff]; omega
  have h1 := tele_cols (vtot_out T F s) hX (B + 1) (by omega)
  have h2 := tele_col (vtot_out T F s) hX (B + 1) (by omega) A (by omega)
  rw [tot_append, negAt_tot, dsum, sumT_append, h1, h2, tot_append, tot_append, tot_append, neg_totI, neg_totI]
  have e1 : min ((A : Int) - 1) (A : Int) = (A : Int) - 1 := by omega
  have e2 : min (((B + 1 : Nat) : Int) - 1) ((B : Int) + 1) = (B : Int) := by omega
  rw [e1, e2, if_pos (by omega)]
  have e3 : (B : Int) + 1 - 1 = (B : Int) := by omega
  have e4 : ((B + 1 : Nat) : Int) = (B : Int) + 1 := by omega
  simp only [e4, e3]
  omega
theorem tsP_ok {R A : Nat} (hR : R ≤ 6) (hA : A ≤ 8) : ∀ t ∈ tsP R A, okB t.1 t.2 = true := fun t ht => by
  unfold tsP gridRow at ht
  obtain ⟨a, ha, ht⟩ := List.mem_flatMap.1 ht
  obtain ⟨b, hb, rfl⟩ := List.mem_map.1 ht
  rw [List.mem_range] at ha hb
  rw [okB_iff]; simp only; omega
theorem row_ok {A m : Nat} (hA : A < 8) (hm : m ≤ 8) : ∀ t ∈ gridRow A m, okB t.1 t.2 = true := fun t ht => by
  unfold gridRow at ht
  obtain ⟨b, hb, rfl⟩ := List.mem_map.1 ht
  rw [List.mem_range] at hb
  rw [okB_iff]; simp only; omega
theorem col_ok {n b : Nat} (hn : n ≤ 8) (hb : b < 8) : ∀ t ∈ gridCol n b, okB t.1 t.2 = true := fun t ht => by
  unfold gridCol at ht
  obtain ⟨a, ha, rfl⟩ := List.mem_map.1 ht
  rw [List.mem_range] at ha
  rw [okB_iff]; simp only; omega
theorem tsM_ok {B : Nat} (hB : B ≤ 8) : ∀ t ∈ tsM B, okB t.1 t.2 = true := fun t ht => by
  unfold tsM at ht
  obtain ⟨b, hb, ht⟩ := List.mem_flatMap.1 ht
  rw [List.mem_range] at hb
  exact col_ok (Nat.le_refl _) (by omega) t ht
theorem ok_app {ts us : List (Int × Int)} (h : ∀ t ∈ ts, okB t.1 t.2 = true) (h' : ∀ t ∈ us, okB t.1 t.2 = true) : ∀ t ∈ ts ++ us, okB t.1 t.2 = true := fun t ht => (List.mem_append.1 ht).elim (h t) (h' t)
theorem rowT_len (A m : Nat) : (gridRow A m).length = m := by unfold gridRow; simp
theorem colT_len (n b : Nat) : (gridCol n b).length = n := by unfold gridCol; simp
theorem tsP_len (R A : Nat) : (tsP R A).length = A * (R + 1) := by
  unfold tsP
  induction A with
  | zero => simp
  | succ A ih => rw [List.range_succ, List.flatMap_append, List.length_append, ih]; simp [rowT_len, Nat.add_mul]
theorem tsM_len (B : Nat) : (tsM B).length = B * 8 := by
  unfold tsM
  induction B with
  | zero => simp
  | succ A ih => rw [List.range_succ, List.flatMap_append, List.length_append, ih]; simp [colT_len, Nat.add_mul]
theorem row_snoc (A m : Nat) : gridRow A (m + 1) = gridRow A m ++ [((A : Int), (m : Int))] := by unfold gridRow; rw [List.range_succ, List.map_append]; rfl
theorem col_snoc (n b : Nat) : gridCol (n + 1) b = gridCol n b ++ [((n : Int), (b : Int))] := by unfold gridCol; rw [List.range_succ, List.map_append]; rfl
theorem tsP_snoc (R A : Nat) : tsP R (A + 1) = tsP R A ++ gridRow A (R + 1) := by unfold tsP; rw [List.range_succ, List.flatMap_append]; simp
theorem tsM_snoc (B : Nat) : tsM (B + 1) = tsM B ++ gridCol 8 B := by unfold tsM; rw [List.range_succ, List.flatMap_append]; simp
theorem chV_row0 (T F : List Rw) (A : Nat) : chV T F (gridRow A 1) = [] := by
  rw [row_snoc]
  have : gridRow A 0 = [] := by simp [gridRow]
  rw [this, List.nil_append]
  unfold chV
  rw [List.flatMap_cons, show (((0 : Nat) : Int)) = 0 from rfl, dV_zero]
  rfl
theorem chV_col0 (T F : List Rw) (n : Nat) : chV T F (gridCol n 0) = [] := by
  unfold chV gridCol
  rw [List.flatMap_map]
  induction n with
  | zero => rfl
  | succ n ih => rw [List.range_succ, List.flatMap_append, ih]; simp [dV_zero, stamp]
set_option maxRecDepth 20000 in
theorem ts_perm : ∀ R : Nat, R < 7 → (tsP R 8).Perm (tsM (R + 1)) := by decide
/-- The changes of rounds. -/
def lflowS (T F : List Rw) (R : Nat) : List Rw := sumL ltS (chV T F (tsP R 8))
theorem lflow_M (T F : List Rw) {R : Nat} (hR : R ≤ 6) : sumL ltS (chV T F (tsM (R + 1))) = lflowS T F R := by
  refine sumL_congr ltS_ord fun s => ?_
  refine tot_perm ?_ s
  unfold chV
  exact ((ts_perm R (by omega)).flatMap_right _).symm
def aheadB (l : List Rw) : Bool := l.all fun r => decide (r.1.2.2 = 0)
def lokB (T F : List Rw) (n : Int) : Bool := bokB T && bokB F && aheadB T && aheadB F && inB n 1 6
def lflowL (T F : List Rw) (n : Int) : List Rw := if lokB T F n then lflowS T F n.toNat else []
end Go.Proofs.Ytjlaeeccnbdghaa
