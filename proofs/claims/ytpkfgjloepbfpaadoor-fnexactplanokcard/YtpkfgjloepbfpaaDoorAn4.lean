/- A plan as one that is ok, whatever its parts: how it lies in memory. -/
import Derived.Test.YtpkfgjloepbfpaaDoorAn3
namespace Go.Proofs.YtpkfgjloepbfpaaDoor
open Go.RowKit Go.Shelf
namespace An
theorem kind_of {k : Int} (h : inB k 1 6 = true) : ∃ F, KindIs k (kT k) F := by
  have h2 : 1 ≤ k ∧ k ≤ 6 := by simpa [inB] using h
  have : k = 1 ∨ k = 2 ∨ k = 3 ∨ k = 4 ∨ k = 5 ∨ k = 6 := by omega
  rcases this with rfl | rfl | rfl | rfl | rfl | rfl
  · exact ⟨_, kind_in⟩
  · exact ⟨_, kind_each⟩
  · exact ⟨_, kind_both⟩
  · exact ⟨_, kind_less⟩
  · exact ⟨_, kind_join⟩
  · exact ⟨_, kind_sum⟩
abbrev kiV (t : PT) : Value := .iface (kT t.k) (.int .i64 t.n)
/-- The slice of the parts of a plan that is ok, in blocks that p lets by. -/
def OkS (p : Nat → Prop) (w : World) : PT → Value → Prop
  | .n0 _ _, s => ∃ a c, s = .slice a 0 c
  | .n1 _ _ x, s => ∃ g c sx, s = .slice (some ⟨g, 0, none⟩) 1 c ∧ p g ∧ w.cell? ⟨g, 0, none⟩ = some (kiV x) ∧ w.cell? ⟨g, 1, none⟩ = some sx ∧ OkS p w x sx
  | .n2 _ _ x y, s => ∃ g c sx sy, s = .slice (some ⟨g, 0, none⟩) 2 c ∧ p g ∧ w.cell? ⟨g, 0, none⟩ = some (kiV x) ∧ w.cell? ⟨g, 1, none⟩ = some sx ∧ w.cell? ⟨g, 2, none⟩ = some (kiV y) ∧ w.cell? ⟨g, 3, none⟩ = some sy ∧ OkS p w x sx ∧ OkS p w y sy
  | .nm _ _ m, s => ∃ a c, s = .slice a (m + 3) c
theorem OkS.sl {p : Nat → Prop} {w : World} {t : PT} {s : Value} (h : OkS p w t s) : ∃ a c, s = .slice a t.len c := by
  cases t with
  | n0 k n => obtain ⟨a, c, rfl⟩ := h; exact ⟨_, _, rfl⟩
  | n1 k n x => obtain ⟨g, c, sx, rfl, _⟩ := h; exact ⟨_, _, rfl⟩
  | n2 k n x y => obtain ⟨g, c, sx, sy, rfl, _⟩ := h; exact ⟨_, _, rfl⟩
  | nm k n m => obtain ⟨a, c, rfl⟩ := h; exact ⟨_, _, rfl⟩
theorem OkS.move {p q : Nat → Prop} {w w' : World} (H : ∀ g, p g → g < w.heap.size → q g ∧ w'.heap[g]? = w.heap[g]?) : ∀ {t : PT} {s : Value}, OkS p w t s → OkS q w' t s
  | .n0 _ _, _, h => h
  | .nm _ _ _, _, h => h
  | .n1 _ _ _, _, ⟨g, c, sx, e, hp, h1, h2, h3⟩ => ⟨g, c, sx, e, (H g hp (lt_of_cell h1)).1, cell_at (H g hp (lt_of_cell h1)).2 h1, cell_at (H g hp (lt_of_cell h1)).2 h2, OkS.move H h3⟩
  | .n2 _ _ _ _, _, ⟨g, c, sx, sy, e, hp, h1, h2, h3, h4, h5, h6⟩ => ⟨g, c, sx, sy, e, (H g hp (lt_of_cell h1)).1, cell_at (H g hp (lt_of_cell h1)).2 h1, cell_at (H g hp (lt_of_cell h1)).2 h2, cell_at (H g hp (lt_of_cell h1)).2 h3, cell_at (H g hp (lt_of_cell h1)).2 h4, OkS.move H h5, OkS.move H h6⟩
theorem okS_of {p q : Nat → Prop} {w : World} {B : Nat} {t : PT} {sl : Value} {ps : List (Value × Value)} (ho : w.ownsRow B 43 2 sl t.len (psC ps)) (hl : ps.length = t.len)
    (hk : ∀ j a s, ps[j]? = some (a, s) → a = kiV (t.kid j) ∧ OkS p w (t.kid j) s) (hq : ∀ g, B ≤ g → q g) (hpq : ∀ g, p g → q g) : OkS q w t sl := by
  have hm : ∀ {x : PT} {s : Value}, OkS p w x s → OkS q w x s := OkS.move fun g h _ => ⟨hpq g h, rfl⟩
  have hh := ho
  obtain ⟨_, ⟨rfl, h0⟩ | ⟨g, cap, cur, rfl, hg, _⟩⟩ := ho
  · cases t with
    | n0 k n => exact ⟨_, _, rfl⟩
    | n1 k n x => simp [PT.len] at h0
    | n2 k n x y => simp [PT.len] at h0
    | nm k n m => simp [PT.len] at h0
  · have ha := fun i (hi : i < t.len * 2) => hh.cellAt i hi
    cases t with
    | n0 k n => exact ⟨_, _, rfl⟩
    | n1 k n x =>
      obtain ⟨⟨a, s⟩, rfl⟩ : ∃ z, ps = [z] := by
        match ps, hl with
        | [z], _ => exact ⟨z, rfl⟩
      obtain ⟨e, ok⟩ := hk 0 a s rfl
      refine ⟨g, cap, s, rfl, hq g hg, ?_, ?_, hm ok⟩
      · rw [ha 0 (by simp [PT.len])]; simp [e, PT.kid]
      · rw [ha 1 (by simp [PT.len])]; simp
    | n2 k n x y =>
      obtain ⟨⟨a, s⟩, ⟨b, s'⟩, rfl⟩ : ∃ z z', ps = [z, z'] := by
        match ps, hl with
        | [z, z'], _ => exact ⟨z, z', rfl⟩
      obtain ⟨e, ok⟩ := hk 0 a s rfl
      obtain ⟨e', ok'⟩ := hk 1 b s' rfl
      refine ⟨g, cap, s, s', rfl, hq g hg, ?_, ?_, ?_, ?_, hm ok, hm ok'⟩
      · rw [ha 0 (by simp [PT.len])]; simp [e, PT.kid]
      · rw [ha 1 (by simp [PT.len])]; simp
      · rw [ha 2 (by simp [PT.len])]; simp [e', PT.kid]
      · rw [ha 3 (by simp [PT.len])]; simp
    | nm k n m => exact ⟨_, _, rfl⟩
end An
end Go.Proofs.YtpkfgjloepbfpaaDoor
