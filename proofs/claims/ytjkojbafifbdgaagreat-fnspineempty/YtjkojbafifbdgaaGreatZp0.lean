/- Spines: plain facts. -/
import Derived.Test.YtjkojbafifbdgaaGreatGd3
namespace Go.Proofs.YtjkojbafifbdgaaGreat
open Go.RowKit

def spokB (L : List (List Rw)) (F : List (Int × Int)) : Bool := decide (L.length ≤ 6) && fokB F && L.all bokB && decide (L.flatten.length ≤ 400)
theorem spok_iff {L : List (List Rw)} {F : List (Int × Int)} : spokB L F = true ↔ L.length ≤ 6 ∧ fokB F = true ∧ (∀ l ∈ L, bokB l = true) ∧ L.flatten.length ≤ 400 := by
  unfold spokB
  simp only [Bool.and_eq_true, decide_eq_true_eq, List.all_eq_true]
  constructor
  · rintro ⟨⟨⟨h1, h2⟩, h3⟩, h4⟩; exact ⟨h1, h2, h3, h4⟩
  · rintro ⟨h1, h2, h3, h4⟩; exact ⟨⟨⟨h1, h2⟩, h3⟩, h4⟩
theorem spok_rok {L : List (List Rw)} {F : List (Int × Int)} (h : spokB L F = true) : rokB L.flatten = true := by
  obtain ⟨_, _, h3, h4⟩ := spok_iff.1 h
  refine rok_mk h4 fun r hr => ?_
  obtain ⟨l, hl, hr⟩ := List.mem_flatten.1 hr
  exact rok_at (bok_rok (h3 l hl)) hr
/-- Two layers made one. -/
def oneL (F : List (Int × Int)) (a b : List Rw) : List Rw := sumL ltS (moveL F (sumL ltS (a ++ b)))
def gl (L : List (List Rw)) (i : Nat) : List Rw := L.getD i []
def joinO (L : List (List Rw)) (F : List (Int × Int)) (i : Nat) : List (List Rw) := L.take i ++ [oneL F (gl L i) (gl L (i + 1))] ++ L.drop (i + 2)
theorem gl_at {L : List (List Rw)} {i : Nat} (h : i < L.length) : L[i]? = some (gl L i) := by
  unfold gl; rw [List.getD_eq_getElem?_getD, List.getElem?_eq_getElem h]; rfl
theorem gl_mem {L : List (List Rw)} {i : Nat} (h : i < L.length) : gl L i ∈ L := List.mem_of_getElem? (gl_at h)
theorem split2 {L : List (List Rw)} {i : Nat} (h : i + 2 ≤ L.length) : L = L.take i ++ gl L i :: gl L (i + 1) :: L.drop (i + 2) := by
  have h1 : L.drop i = gl L i :: L.drop (i + 1) := by
    have e := gl_at (L := L) (i := i) (by omega)
    rw [List.getElem?_eq_getElem (by omega)] at e
    rw [List.drop_eq_getElem_cons (by omega), Option.some.inj e]
  have h2 : L.drop (i + 1) = gl L (i + 1) :: L.drop (i + 2) := by
    have e := gl_at (L := L) (i := i + 1) (by omega)
    rw [List.getElem?_eq_getElem (by omega)] at e
    rw [List.drop_eq_getElem_cons (by omega), Option.some.inj e]
  rw [← h2, ← h1, List.take_append_drop]
theorem oneL_len (F : List (Int × Int)) (a b : List Rw) : (oneL F a b).length ≤ a.length + b.length := by
  unfold oneL
  have h1 := sumL_len ltS (moveL F (sumL ltS (a ++ b)))
  have h2 := sumL_len ltS (a ++ b)
  have h3 : (moveL F (sumL ltS (a ++ b))).length = (sumL ltS (a ++ b)).length := by unfold moveL; rw [List.length_map]
  rw [List.length_append] at h2
  omega
theorem join_len {L : List (List Rw)} {i : Nat} (F : List (Int × Int)) (h : i + 2 ≤ L.length) : (joinO L F i).length = L.length - 1 := by
  unfold joinO
  simp only [List.length_append, List.length_take, List.length_drop, List.length_cons, List.length_nil]
  omega
theorem flat_split {L : List (List Rw)} {i : Nat} (h : i + 2 ≤ L.length) : L.flatten = (L.take i).flatten ++ (gl L i ++ gl L (i + 1)) ++ (L.drop (i + 2)).flatten := by
  conv => lhs; rw [split2 h]
  simp
theorem join_flat (L : List (List Rw)) (F : List (Int × Int)) (i : Nat) : (joinO L F i).flatten = (L.take i).flatten ++ oneL F (gl L i) (gl L (i + 1)) ++ (L.drop (i + 2)).flatten := by
  unfold joinO; simp
theorem join_rows {L : List (List Rw)} {i : Nat} (F : List (Int × Int)) (h : i + 2 ≤ L.length) : (joinO L F i).flatten.length ≤ L.flatten.length := by
  rw [join_flat, flat_split h]
  have := oneL_len F (gl L i) (gl L (i + 1))
  simp only [List.length_append]; omega
theorem join_mem {L : List (List Rw)} {F : List (Int × Int)} {i : Nat} {l : List Rw} (h : l ∈ joinO L F i) : l = oneL F (gl L i) (gl L (i + 1)) ∨ l ∈ L := by
  unfold joinO at h
  simp only [List.mem_append, List.mem_singleton] at h
  rcases h with (h | h) | h
  · exact .inr (List.mem_of_mem_take h)
  · exact .inl h
  · exact .inr (List.mem_of_mem_drop h)
theorem spok_join {L : List (List Rw)} {F : List (Int × Int)} {i : Nat} (h : spokB L F = true) (hi : i + 2 ≤ L.length) : spokB (joinO L F i) F = bokB (oneL F (gl L i) (gl L (i + 1))) := by
  obtain ⟨h1, h2, h3, h4⟩ := spok_iff.1 h
  rw [Bool.eq_iff_iff, spok_iff, join_len F hi]
  constructor
  · rintro ⟨_, _, k3, _⟩
    exact k3 _ (by unfold joinO; simp)
  · intro k
    refine ⟨by omega, h2, fun l hl => ?_, by have := join_rows F hi; omega⟩
    rcases join_mem hl with rfl | hl
    · exact k
    · exact h3 l hl
/-- Moved rows say the same where they may be asked. -/
theorem move_at {F : List (Int × Int)} (hf : fokB F = true) {l : List Rw} (h : ∀ r ∈ l, okB r.1.2.1 r.1.2.2 = true) {X Y : Int} (hc : askedB F X Y = true) (s : Int × Int) : tot (atL (moveL F l) X Y) s = tot (atL l X Y) s := by
  rw [at_tot, at_tot, wsum_move]
  refine wsum_congr fun r hr => ?_
  have ht := h r hr
  have e : leB r.1.2.1 r.1.2.2 X Y = leB (moveV F r.1.2.1 r.1.2.2).1 (moveV F r.1.2.1 r.1.2.2).2 X Y := by
    by_cases h0 : F.length = 0
    · obtain ⟨e1, e2⟩ := move_empty hf ht (mv_pair F r.1.2.1 r.1.2.2) h0
      rw [e1, e2]
    · unfold askedB at hc
      simp only [Bool.or_eq_true, decide_eq_true_eq, Bool.and_eq_true] at hc
      rcases hc with hc | hc
      · exact absurd hc h0
      · exact move_same hf ht (mv_pair F r.1.2.1 r.1.2.2) hc.2
  simp only [e]
theorem at_sumS (l : List Rw) (X Y : Int) (s : Int × Int) : tot (atL (sumL ltS l) X Y) s = tot (atL l X Y) s := by
  rw [at_tot, at_tot, sumL_wsum ltS_ord]
theorem at_app (l m : List Rw) (X Y : Int) (s : Int × Int) : tot (atL (l ++ m) X Y) s = tot (atL l X Y) s + tot (atL m X Y) s := by
  rw [at_tot, at_tot, at_tot, wsum_append]
theorem one_at {F : List (Int × Int)} (hf : fokB F = true) {a b : List Rw} (ha : ∀ r ∈ a, okB r.1.2.1 r.1.2.2 = true) (hb : ∀ r ∈ b, okB r.1.2.1 r.1.2.2 = true) {X Y : Int} (hc : askedB F X Y = true) (s : Int × Int) : tot (atL (oneL F a b) X Y) s = tot (atL (a ++ b) X Y) s := by
  unfold oneL
  rw [at_sumS, move_at hf (fun r hr => ?_) hc, at_sumS]
  obtain ⟨q, hq, e⟩ := sumL_key hr
  rw [← e]
  rcases List.mem_append.1 hq with hq | hq
  · exact ha q hq
  · exact hb q hq
theorem join_at {L : List (List Rw)} {F : List (Int × Int)} {i : Nat} (h : spokB L F = true) (hi : i + 2 ≤ L.length) {X Y : Int} (hc : askedB F X Y = true) (s : Int × Int) : tot (atL (joinO L F i).flatten X Y) s = tot (atL L.flatten X Y) s := by
  obtain ⟨h1, h2, h3, h4⟩ := spok_iff.1 h
  have ht : ∀ j, j < L.length → ∀ r ∈ gl L j, okB r.1.2.1 r.1.2.2 = true := fun j hj r hr => rw_time (rok_at (bok_rok (h3 _ (gl_mem hj))) hr)
  rw [join_flat, flat_split hi, at_app, at_app, at_app, at_app, one_at h2 (ht i (by omega)) (ht (i + 1) (by omega)) hc]
/-- P50. -/
theorem join_items {L : List (List Rw)} {F : List (Int × Int)} {i : Nat} (h : spokB L F = true) (hi : i + 2 ≤ L.length) (hk : spokB (joinO L F i) F = true) {X Y : Int} (hc : askedB F X Y = true) : itemsL (joinO L F i).flatten X Y = itemsL L.flatten X Y := by
  cases hX : okB X Y
  · rw [items_no2 hX, items_no2 hX]
  · rw [items_yes (spok_rok hk) hX, items_yes (spok_rok h) hX]
    exact sumL_congr ltT_ord fun s => join_at h hi hc s
/-! ### What comes in -/
def prN (L : List (List Rw)) (i : Nat) : Nat := (gl L i).length + (gl L (i + 1)).length
def bestTo (L : List (List Rw)) : Nat → Nat
  | 0 => 0
  | k + 1 => if prN L (k + 1) < prN L (bestTo L k) then k + 1 else bestTo L k
theorem best_le (L : List (List Rw)) (k : Nat) : bestTo L k ≤ k := by
  induction k with
  | zero => exact Nat.le_refl _
  | succ k ih => unfold bestTo; split <;> omega
def bestL (L : List (List Rw)) : Nat := bestTo L (L.length - 2)
theorem best_lt {L : List (List Rw)} (h : 2 ≤ L.length) : bestL L + 2 ≤ L.length := by
  have := best_le L (L.length - 2)
  unfold bestL; omega
def roomL (L : List (List Rw)) (F : List (Int × Int)) : List (List Rw) := if 6 ≤ L.length then joinO L F (bestL L) else L
def inL (L : List (List Rw)) (F : List (Int × Int)) (b : List Rw) : List (List Rw) := roomL L F ++ [b]
def asked (F : List (Int × Int)) (b : List Rw) : Bool := b.all fun r => askedB F r.1.2.1 r.1.2.2
def inB1 (L : List (List Rw)) (F : List (Int × Int)) (b : List Rw) : Bool := spokB L F && bokB b && asked F b && spokB (inL L F b) F
theorem room_spok {L : List (List Rw)} {F : List (Int × Int)} {b : List Rw} (h : spokB (inL L F b) F = true) : ∀ l ∈ roomL L F, bokB l = true := fun l hl => by
  obtain ⟨_, _, h3, _⟩ := spok_iff.1 h
  exact h3 l (by unfold inL; simp [hl])
theorem in_len {L : List (List Rw)} (F : List (Int × Int)) (b : List Rw) (h : L.length ≤ 6) : (inL L F b).length = min (L.length + 1) 6 := by
  unfold inL roomL
  split
  · have := join_len F (best_lt (L := L) (by omega))
    rw [List.length_append, this]; simp only [List.length_cons, List.length_nil]; omega
  · rw [List.length_append]; simp only [List.length_cons, List.length_nil]; omega
theorem room_at {L : List (List Rw)} {F : List (Int × Int)} (h : spokB L F = true) {X Y : Int} (hc : askedB F X Y = true) (s : Int × Int) : tot (atL (roomL L F).flatten X Y) s = tot (atL L.flatten X Y) s := by
  unfold roomL
  split
  · exact join_at h (best_lt (by omega)) hc s
  · rfl
/-- P49. -/
theorem in_items {L : List (List Rw)} {F : List (Int × Int)} {b : List Rw} (h : spokB L F = true) (hb : bokB b = true) (hk : spokB (inL L F b) F = true) {X Y : Int} (hX : okB X Y = true) (hc : askedB F X Y = true) : itemsL (inL L F b).flatten X Y = sumL ltT (itemsL L.flatten X Y ++ itemsL b X Y) := by
  rw [items_yes (spok_rok hk) hX, items_yes (spok_rok h) hX, items_yes (bok_rok hb) hX]
  refine sumL_congr ltT_ord fun s => ?_
  have e : (inL L F b).flatten = (roomL L F).flatten ++ b := by unfold inL; simp
  rw [e, at_app, tot_append, sumL_tot ltT_ord, sumL_tot ltT_ord, room_at h hc]
end Go.Proofs.YtjkojbafifbdgaaGreat
