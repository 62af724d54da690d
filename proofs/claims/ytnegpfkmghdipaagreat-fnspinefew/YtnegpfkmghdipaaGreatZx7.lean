/- SpineIn of the program and of the model in the form in which the laws use them; plain facts of the laws of SpineIn. -/
import Derived.Test.YtnegpfkmghdipaaGreatZx4
import Derived.Test.YtnegpfkmghdipaaGreatZk6
namespace Go.Proofs.YtnegpfkmghdipaaGreat
open Go.RowKit Go.Shelf

section
variable {L L' : List (List Rw)} {F F' : List (Int × Int)} {r : Bool} {lv fv : Value} {w : World}
theorem implIn_k {b : List Rw} (e1 : inB1 L F b = r) (e2 : inLL L F b = L') (e3 : inF L F b = F') {bv : Value} (h : Spn w lv fv L F) (hv : Rs w bv b) : Calls Tryz.prog 12 #[spv lv fv, bv] w fun e w' => ∃ lv' fv' : Value, e = .returned (.tuple #[spv lv' fv', .bool r]) ∧ Spn w' lv' fv' L' F' ∧ Below w.heap.size w w' :=
  ofSpO e1 e2 e3 (in_lens L F b).1 (in_lens L F b).2 (implSpineIn_any lv fv bv L F b w h hv)
theorem specIn_k {b : List Rw} (e1 : inB1 L F b = r) (e2 : inLL L F b = L') (e3 : inF L F b = F') {bv : Value} (h : Spn w lv fv L F) (hv : Rs w bv b) : Calls Tryz.prog 11 #[spv lv fv, bv] w fun e w' => ∃ lv' fv' : Value, e = .returned (.tuple #[spv lv' fv', .bool r]) ∧ Spn w' lv' fv' L' F' ∧ Below w.heap.size w w' :=
  ofSpO e1 e2 e3 (in_lens L F b).1 (in_lens L F b).2 (specSpineIn_any lv fv bv L F b w h hv)
end
theorem in_parts {L : List (List Rw)} {F : List (Int × Int)} {b : List Rw} (h : inB1 L F b = true) : spokB L F = true ∧ bokB b = true ∧ spokB (inL L F b) F = true ∧ inLL L F b = inL L F b ∧ inF L F b = F := by
  have e1 : inLL L F b = inL L F b := by simp [inLL, h]
  have e2 : inF L F b = F := by simp [inF, h]
  simp only [inB1, Bool.and_eq_true] at h
  exact ⟨h.1.1.1, h.1.1.2, h.2, e1, e2⟩
theorem in_sat {L : List (List Rw)} {F : List (Int × Int)} {b : List Rw} (h : inB1 L F b = true) {X Y : Int} (hX : okB X Y = true) :
    satB (inLL L F b) (inF L F b) X Y = satB L F X Y ∧ (satB L F X Y = true → satL (inLL L F b) (inF L F b) X Y = sumL ltT (satL L F X Y ++ itemsL b X Y)) := by
  obtain ⟨h1, h2, h3, h4, h5⟩ := in_parts h
  rw [h4, h5]
  have hs : satB (inL L F b) F X Y = satB L F X Y := by unfold satB; rw [h3, h1]
  refine ⟨hs, fun hy => ?_⟩
  have hc : askedB F X Y = true := by simp only [satB, Bool.and_eq_true] at hy; exact hy.2
  unfold satL
  rw [hs, if_pos hy, if_pos hy]
  exact in_items h1 h2 h3 hX hc
theorem in_few {L : List (List Rw)} {F : List (Int × Int)} {b : List Rw} (h : inB1 L F b = true) : (inLL L F b).length = min (L.length + 1) 6 ∧ gl (inLL L F b) (min (L.length + 1) 6 - 1) = b ∧ inF L F b = F ∧ L.length ≤ 6 := by
  obtain ⟨h1, h2, h3, h4, h5⟩ := in_parts h
  have h6 := (spok_iff.1 h1).1
  rw [h4]
  have hl := in_len F b h6
  refine ⟨hl, ?_, h5, h6⟩
  rw [← hl]
  unfold inL gl
  rw [List.getD_eq_getElem?_getD, List.length_append]
  simp
end Go.Proofs.YtnegpfkmghdipaaGreat
