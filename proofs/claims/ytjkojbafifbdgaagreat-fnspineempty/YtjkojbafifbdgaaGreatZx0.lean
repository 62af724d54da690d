/- Spines as they are drawn: plain facts, and what is kept of a spine of a call's own. -/
import Derived.Test.YtjkojbafifbdgaaGreatZd1
import Derived.Test.YtjkojbafifbdgaaGreatGd3
namespace Go.Proofs.YtjkojbafifbdgaaGreat
open Go.RowKit Go.Shelf

theorem one_abs (F : List (Int × Int)) (a b : List Rw) : absum (oneL F a b) ≤ absum a + absum b := by
  unfold oneL
  have h1 := sum_absR (moveL F (sumL ltS (a ++ b)))
  rw [move_abs] at h1
  have h2 := sum_absR (a ++ b)
  rw [absum_append] at h2
  omega
theorem join_abs {L : List (List Rw)} {i : Nat} (F : List (Int × Int)) (h : i + 2 ≤ L.length) : absum (joinO L F i).flatten ≤ absum L.flatten := by
  rw [join_flat, flat_split h]
  simp only [absum_append]
  have := one_abs F (gl L i) (gl L (i + 1))
  omega
theorem room_abs {L : List (List Rw)} (F : List (Int × Int)) : absum (roomL L F).flatten ≤ absum L.flatten := by
  unfold roomL; split
  · exact join_abs F (best_lt (by omega))
  · exact Int.le_refl _
theorem in_abs {L : List (List Rw)} (F : List (Int × Int)) (b : List Rw) : absum (inL L F b).flatten ≤ absum L.flatten + absum b := by
  unfold inL
  rw [List.flatten_append, absum_append]
  have := room_abs (L := L) F
  simp only [List.flatten_cons, List.flatten_nil, List.append_nil]
  omega
theorem batch_abs (l : List Rw) : absum (batchL l) ≤ absum l := by
  unfold batchL; split
  · exact sumF_absR l
  · exact absum_pos l
theorem sm_abs {l : List Rw} {n : Int} (hn : (l.length : Int) ≤ n) (h : ∀ r ∈ l, smR r) : absum l ≤ 3 * n := by
  have h1 := absum_le (l := l) (c := 3) fun r hr => (h r hr).2
  omega
/-- A spine as it is drawn. -/
def DSp (c : Int) (L : List (List Rw)) (F : List (Int × Int)) : Prop := L.length ≤ 7 ∧ F.length ≤ 9 ∧ absum L.flatten ≤ c
theorem DSp.mono {c c' : Int} {L : List (List Rw)} {F : List (Int × Int)} (h : DSp c L F) (hc : c ≤ c') : DSp c' L F := ⟨h.1, h.2.1, Int.le_trans h.2.2 hc⟩
theorem DSp.ok {c : Int} {L : List (List Rw)} {F : List (Int × Int)} (h : spokB L F = true) (ha : absum L.flatten ≤ c) : DSp c L F := by
  obtain ⟨h1, h2, -, -⟩ := spok_iff.1 h
  have := fok_len h2
  exact ⟨by omega, by omega, ha⟩
theorem spok_none : spokB [] [] = true := by decide
theorem EachO.keepx {g : Nat} {w w1 : World} {B : Nat} {vs : List Value} {L : List (List Rw)} (h : EachO w B vs L) (hx : Bx g w w1) (hg : g < B) : EachO w1 B vs L :=
  ⟨h.len, fun i u l h1 h2 => own_keepx (h.own i u l h1 h2) hx hg, h.few, h.nd⟩
theorem SpO.keepx {g : Nat} {w w1 : World} {B : Nat} {lv fv : Value} {L : List (List Rw)} {F : List (Int × Int)} (h : SpO w B lv fv L F) (hx : Bx g w w1) (hg : g < B) : SpO w1 B lv fv L F := by
  obtain ⟨vs, h1, h2, h3⟩ := h
  exact ⟨vs, own_keepx h1 hx hg, h2.keepx hx hg, own_keepx h3 hx hg⟩
end Go.Proofs.YtjkojbafifbdgaaGreat
