/- A range over such a map, in a walk: the laws at its operations; and what is collected out of a map and sorted. -/
import Derived.Test.YtbmdfmboabfceaaMk
namespace Go.Proofs.Ytbmdfmboabfceaa
open Go.RowKit
open Go.ChangeMaps (setBlock)

theorem below_setBlock {B : Nat} {w W : World} {b : Nat} {o : Obj} (h : Below B w W) (hb : B ≤ b) : Below B w (setBlock W b o) := by
  refine ⟨h.os, h.tape, h.output, by simp [setBlock, h.size], fun k hk => ?_⟩
  simp only [setBlock, Array.getElem?_setIfInBounds]
  rw [if_neg (by omega)]; exact h.block k hk
theorem size_setBlock (W : World) (b : Nat) (o : Obj) : (setBlock W b o).heap.size = W.heap.size := by simp [setBlock]
/-- How many entries are still to come. -/
def leftN (w : World) (b r : Nat) : Nat :=
  match w.heap[b]?, w.heap[r]? with
  | some (.map es _), some (.mapIter _ _ seen _) => (leftOf es seen).size
  | _, _ => 0
section
variable {κ : Type} {ek : κ → Value} {ok : κ → Prop} {w : World} {b r : Nat} {M left : List (κ × Int)}
theorem Ranging.count (h : Ranging ek ok w b r M left) : leftN w b r = left.length := by
  obtain ⟨es, clock, seen, h1, h2, _, _, _, hl, _⟩ := h
  unfold leftN
  rw [h1, h2]
  have := congrArg List.length hl
  simpa using this
theorem Ranging.nodup (h : Ranging ek ok w b r M left) : (M.map Prod.fst).Nodup := by
  obtain ⟨es, clock, seen, _, _, hs, hm, _⟩ := h
  exact mapIs_nodup hs hm
variable {ops : Array Oper} {rest : List Oper} {o : Oper} {a : Act} {Q : Exit → Act → World → Prop}
theorem wp_range (w : World) (hg : o.guard = none) (m : Operand) (t : TypeId) (hop : o.op = Op.range t m) (k e : TypeId) (ht : Try.prog.underlying t = some (.map k e)) (b : Nat) (M : List (κ × Int)) (hm : a.eval m = .map (some b)) (h : MapIs ek ok w b M)
    (hK : ∀ w', Ranging ek ok w' b w.heap.size M M → Below w.heap.size w w' → w'.heap.size = w.heap.size + 1 → wpList Try.prog ops Q rest (a.put o.dst (.pointer (some ⟨w.heap.size, 0, none⟩))) w') : wpList Try.prog ops Q (o :: rest) a w := by
  refine wpList_plain hg fun K' hK' => ?_
  obtain ⟨w', hrun, r1, r2, r3⟩ := Ranging.start h ht
  unfold Oper.wp
  simp [execOp, hop, hm, hrun, Result.andThen]
  exact hK' _ _ (hK w' r1 r2 r3)
theorem wp_next (w : World) (hg : o.guard = none) (it : Operand) (hop : o.op = Op.next it false) (b r : Nat) (M left : List (κ × Int)) (hit : a.eval it = .pointer (some ⟨r, 0, none⟩)) (h : Ranging ek ok w b r M left)
    (hDone : left = [] → wpList Try.prog ops Q rest (a.put o.dst (.tuple #[.bool false])) w)
    (hMore : ∀ (p : κ × Int) (left' : List (κ × Int)) (w' : World), left.Perm (p :: left') → Ranging ek ok w' b r M left' → (Instr.entry (.pointer (some ⟨r, 0, none⟩))).run Try.prog w' = .ok (.tuple #[ek p.1, .int .i64 p.2]) w' → Bx r w w' → w'.heap.size = w.heap.size → left'.length + 1 = left.length →
      wpList Try.prog ops Q rest (a.put o.dst (.tuple #[.bool true, ek p.1, .int .i64 p.2])) w') : wpList Try.prog ops Q (o :: rest) a w := by
  refine wpList_plain hg fun K' hK' => ?_
  unfold Oper.wp
  rcases h.next o.type with ⟨h0, hrun⟩ | ⟨p, left', w', hp, hrun, hr, hen, hx, hs, hl⟩
  · simp [execOp, hop, hit, hrun, Result.andThen]
    exact hK' _ _ (hDone h0)
  · simp [execOp, hop, hit, hrun, Result.andThen]
    exact hK' _ _ (hMore p left' w' hp hr hen hx hs hl)
end
section
variable {K : Type} {lt : K → K → Bool}
/-- What is collected out of a map, none of nothing, and sorted, is what was summed up. -/
theorem collected [DecidableEq K] (O : Ord lt) {l M L l' : List (K × Int)} (hn : (M.map Prod.fst).Nodup) (ht : ∀ s, tot M s = tot l s) (hL : L.Perm (M.filter fun r => decide (r.2 ≠ 0))) (hp : l'.Perm L) (hs : l'.Pairwise (fun p q => lt q.1 p.1 = false)) : l' = sumL lt l := by
  have hp' := hp.trans hL
  have hnod : (l'.map Prod.fst).Nodup := (hp'.map Prod.fst).nodup_iff.2 (hn.sublist ((List.filter_sublist (l := M)).map _))
  refine sumL_uniq O ?_ ?_ fun s => ?_
  · have h1 : l'.Pairwise fun p q => p.1 ≠ q.1 := List.pairwise_map.1 hnod
    refine (List.Pairwise.and hs h1).imp fun {a b} ⟨h2, h3⟩ => ?_
    cases e : lt a.1 b.1
    · exact absurd (O.tri _ _ e h2) h3
    · rfl
  · intro r hr
    have := (List.mem_filter.1 (hp'.mem_iff.1 hr)).2
    simpa using this
  · rw [tot_perm hp', filter_nz_tot, ht]
theorem collect_yes {M done left left' L : List (K × Int)} {p : K × Int} (h : M.Perm (done ++ left)) (hp : left.Perm (p :: left')) (hL : L.Perm (done.filter fun r => decide (r.2 ≠ 0))) (h0 : p.2 ≠ 0) :
    M.Perm ((done ++ [p]) ++ left') ∧ (L ++ [p]).Perm ((done ++ [p]).filter fun r => decide (r.2 ≠ 0)) := by
  constructor
  · rw [List.append_assoc]
    exact h.trans (hp.append_left done)
  · rw [List.filter_append]
    have : [p].filter (fun r => decide (r.2 ≠ 0)) = [p] := by simp [h0]
    rw [this]
    exact hL.append_right _
theorem collect_no {M done left left' L : List (K × Int)} {p : K × Int} (h : M.Perm (done ++ left)) (hp : left.Perm (p :: left')) (hL : L.Perm (done.filter fun r => decide (r.2 ≠ 0))) (h0 : p.2 = 0) :
    M.Perm ((done ++ [p]) ++ left') ∧ L.Perm ((done ++ [p]).filter fun r => decide (r.2 ≠ 0)) := by
  constructor
  · rw [List.append_assoc]
    exact h.trans (hp.append_left done)
  · rw [List.filter_append]
    have : [p].filter (fun r => decide (r.2 ≠ 0)) = [] := by simp [h0]
    rw [this, List.append_nil]
    exact hL
end
end Go.Proofs.Ytbmdfmboabfceaa
