/- A range over such a map: each entry comes once, in whatever order. -/
import Derived.Test.YtbmdfmboabfceaaMp
import Derived.Maps.RangeWalk
namespace Go.Proofs.Ytbmdfmboabfceaa
open Go.RowKit
open Go.ChangeMaps (setBlock)

theorem strike_idx {L : List MapEntry} (hn : (L.map (·.born)).Nodup) {j : Nat} {e : MapEntry} (h : L[j]? = some e) : L.filter (fun x => !(x.born == e.born)) = L.eraseIdx j := by
  induction L generalizing j with
  | nil => simp at h
  | cons a l ih =>
    simp only [List.map_cons, List.nodup_cons] at hn
    cases j with
    | zero =>
      simp at h; subst h
      rw [List.filter_cons]
      simp only [beq_self_eq_true, Bool.not_true, Bool.false_eq_true, if_false, List.eraseIdx_cons_zero]
      refine List.filter_eq_self.2 fun x hx => ?_
      have : x.born ≠ a.born := fun e1 => hn.1 (List.mem_map.2 ⟨x, hx, e1⟩)
      simpa using this
    | succ j =>
      have h' : l[j]? = some e := by simpa using h
      have hne : a.born ≠ e.born := fun e1 => hn.1 (List.mem_map.2 ⟨e, List.mem_of_getElem? h', e1.symm⟩)
      rw [List.filter_cons, if_pos (by simpa using hne), ih hn.2 h', List.eraseIdx_cons_succ]
theorem erase_perm {α : Type} {l : List α} {j : Nat} {x : α} (h : l[j]? = some x) : l.Perm (x :: l.eraseIdx j) := by
  induction l generalizing j with
  | nil => simp at h
  | cons a l ih =>
    cases j with
    | zero => simp at h; subst h; simp
    | succ j =>
      rw [List.eraseIdx_cons_succ]
      exact ((ih (by simpa using h)).cons a).trans (List.Perm.swap x a _)
theorem left_strike (es : Array MapEntry) (seen : Array Nat) (b : Nat) : (leftOf es (seen.push b)).toList = (leftOf es seen).toList.filter (fun x => !(x.born == b)) := by
  unfold leftOf
  rw [Array.toList_filter, Array.toList_filter, List.filter_filter]
  congr 1
  funext x
  rw [Array.contains_push]
  cases seen.contains x.born <;> cases (x.born == b) <;> rfl
/-- A range over the map b, its place kept in r; what is still to come. -/
def Ranging {κ : Type} (ek : κ → Value) (ok : κ → Prop) (w : World) (b r : Nat) (M rest : List (κ × Int)) : Prop :=
  ∃ es clock seen, w.heap[b]? = some (.map es clock) ∧ w.heap[r]? = some (.mapIter (some b) clock seen clock) ∧ MapKept.Stamped es clock ∧ es.toList.map (fun x => (x.key, x.val)) = M.map (fun p => (ek p.1, Value.int .i64 p.2)) ∧
    (∀ p ∈ M, ok p.1) ∧ (leftOf es seen).toList.map (fun x => (x.key, x.val)) = rest.map (fun p => (ek p.1, Value.int .i64 p.2)) ∧ b ≠ r
section
variable {κ : Type} {ek : κ → Value} {ok : κ → Prop} {w : World} {b r : Nat} {M rest : List (κ × Int)}
theorem Ranging.move {w1 : World} (h : Ranging ek ok w b r M rest) (hb : w1.heap[b]? = w.heap[b]?) (hr : w1.heap[r]? = w.heap[r]?) : Ranging ek ok w1 b r M rest := by
  obtain ⟨es, clock, seen, h1, h2, h3⟩ := h
  exact ⟨es, clock, seen, by rw [hb]; exact h1, by rw [hr]; exact h2, h3⟩
theorem Ranging.lt (h : Ranging ek ok w b r M rest) : b < w.heap.size ∧ r < w.heap.size := by
  obtain ⟨es, clock, seen, h1, h2, _⟩ := h
  exact ⟨lt_of_block h1, lt_of_block h2⟩
theorem Ranging.keep {w1 : World} (h : Ranging ek ok w b r M rest) (hb : Below w.heap.size w w1) : Ranging ek ok w1 b r M rest := h.move (hb.block b h.lt.1) (hb.block r h.lt.2)
theorem Ranging.grew {w1 : World} {row : Option Nat} (h : Ranging ek ok w b r M rest) (hg : w.grownBy w1 row) (hr : ∀ k, row = some k → b ≠ k ∧ r ≠ k) : Ranging ek ok w1 b r M rest :=
  h.move (hg.block b h.lt.1 (fun e => (hr _ e.symm).1 rfl)) (hg.block r h.lt.2 (fun e => (hr _ e.symm).2 rfl))
theorem Ranging.start {t k e : TypeId} (h : MapIs ek ok w b M) (ht : Try.prog.underlying t = some (.map k e)) : ∃ w', (Instr.range t (.map (some b))).run Try.prog w = .ok (.pointer (some ⟨w.heap.size, 0, none⟩)) w' ∧ Ranging ek ok w' b w.heap.size M M ∧ Below w.heap.size w w' ∧ w'.heap.size = w.heap.size + 1 := by
  have hlt := h.lt
  obtain ⟨es, clock, hb, hs, hm, ho⟩ := h
  refine ⟨w.alloc (.mapIter (some b) clock #[] clock), ?_, ⟨es, clock, #[], ?_, heap_alloc_new w _, hs, hm, ho, ?_, by omega⟩, bAlloc (Below.refl _ _) _, by simp⟩
  · simp [Instr.range, run_underlying ht, MapKept.run_getObj_map hb, Result.andThen, newObj, Sem.run]
  · rw [Below.heap_alloc _ _ _ hlt]; exact hb
  · have : (leftOf es #[]).toList = es.toList := by unfold leftOf; simp
    rw [this]; exact hm
/-- The step: nothing is left, or one of what is left has come. -/
theorem Ranging.next (h : Ranging ek ok w b r M rest) (ty : TypeId) :
    (rest = [] ∧ (Instr.next (.pointer (some ⟨r, 0, none⟩)) false ty).run Try.prog w = .ok (.tuple #[.bool false]) w) ∨
    ∃ (p : κ × Int) (rest' : List (κ × Int)) (w' : World), rest.Perm (p :: rest') ∧ (Instr.next (.pointer (some ⟨r, 0, none⟩)) false ty).run Try.prog w = .ok (.tuple #[.bool true, ek p.1, .int .i64 p.2]) w' ∧ Ranging ek ok w' b r M rest' ∧
      (Instr.entry (.pointer (some ⟨r, 0, none⟩))).run Try.prog w' = .ok (.tuple #[ek p.1, .int .i64 p.2]) w' ∧ Bx r w w' ∧ w'.heap.size = w.heap.size ∧ rest'.length + 1 = rest.length := by
  obtain ⟨es, clock, seen, h1, h2, hs, hm, ho, hl, hbr⟩ := h
  rcases run_next_at (P := Try.prog) w ty r b clock clock seen es clock h2 h1 hs.1 (Nat.le_refl _) with ⟨h0, hrun⟩ | ⟨x, hx, w1, hw1, hrun⟩
  · left
    refine ⟨?_, hrun⟩
    have : (leftOf es seen).toList = [] := List.eq_nil_of_length_eq_zero (by simpa using h0)
    rw [this] at hl
    exact List.map_eq_nil_iff.1 hl.symm
  · right
    obtain ⟨j, hj⟩ := List.mem_iff_getElem?.1 hx
    obtain ⟨p, hp, e1, e2⟩ : ∃ p, rest[j]? = some p ∧ x.key = ek p.1 ∧ x.val = .int .i64 p.2 := by
      have h' := congrArg (fun l => l[j]?) hl
      simp only [List.getElem?_map, hj, Option.map_some] at h'
      cases hp : rest[j]? with
      | none => rw [hp] at h'; cases h'
      | some p =>
        rw [hp] at h'
        simp only [Option.map_some, Option.some.injEq, Prod.mk.injEq] at h'
        exact ⟨p, rfl, h'.1, h'.2⟩
    have hxe : x ∈ es.toList := by
      unfold leftOf at hx
      rw [Array.toList_filter] at hx
      exact (List.mem_filter.1 hx).1
    have hjl := (List.getElem?_eq_some_iff.1 hp)
    obtain ⟨hjl1, _⟩ := hjl
    have hnl : ((leftOf es seen).toList.map (·.born)).Nodup := by
      unfold leftOf
      rw [Array.toList_filter]
      exact hs.2.1.sublist ((List.filter_sublist (l := es.toList)).map _)
    rw [e1, e2] at hrun
    have hw : Bx r w w1 ∧ w1.heap = w.heap := by
      rcases hw1 with rfl | rfl
      · exact ⟨Bx.refl _ _, rfl⟩
      · exact ⟨(Bx.refl _ _).drew, rfl⟩
    have hr1 : r < w1.heap.size := by rw [hw.2]; exact lt_of_block h2
    have hB : Bx r w (setBlock w1 r (.mapIter (some b) clock (seen.push x.born) clock)) := by
      refine ⟨hw.1.os, hw.1.tape, hw.1.output, by simp [setBlock, hw.2], fun k hk hne => ?_⟩
      simp only [setBlock, Array.getElem?_setIfInBounds]
      rw [if_neg (fun e => hne e.symm), hw.2]
    have hat : (setBlock w1 r (.mapIter (some b) clock (seen.push x.born) clock)).heap[r]? = some (.mapIter (some b) clock (seen.push x.born) clock) := by simp [setBlock, hr1]
    have hmb : (setBlock w1 r (.mapIter (some b) clock (seen.push x.born) clock)).heap[b]? = some (.map es clock) := by rw [hB.block b (lt_of_block h1) hbr]; exact h1
    refine ⟨p, rest.eraseIdx j, _, ?_, hrun, ⟨es, clock, seen.push x.born, hmb, hat, hs, hm, ho, ?_, hbr⟩, ?_, hB, by simp [setBlock, hw.2], ?_⟩
    · exact erase_perm hp
    · rw [left_strike, strike_idx hnl hj, Go.ChangeMaps.map_eraseIdx, Go.ChangeMaps.map_eraseIdx, hl]
    · have := run_entry_at (P := Try.prog) _ r b clock seen es clock x hat hmb hxe hs.2.1
      rw [e1, e2] at this
      exact this
    · rw [List.length_eraseIdx_of_lt hjl1]; omega
end
end Go.Proofs.Ytbmdfmboabfceaa
