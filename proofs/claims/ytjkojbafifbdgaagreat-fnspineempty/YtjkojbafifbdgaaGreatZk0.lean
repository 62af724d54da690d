/- A layer taken out of a linked list, and another put in its place: facts. -/
import Derived.Test.YtjkojbafifbdgaaGreatZl4
namespace Go.Proofs.YtjkojbafifbdgaaGreat
open Go.RowKit Go.Shelf

theorem LLs.cut {w w1 : World} {v' : Value} : ∀ {gs : List Nat} {b : Nat} {p : Value} {vs : List Value} {k g : Nat}, LLs w b p gs vs → k + 1 < gs.length → gs[k]? = some g → Bk w1 g #[v', nxt gs (k + 2)] 108 →
    (∀ x ∈ gs, x ≠ g → w1.heap[x]? = w.heap[x]?) → LLs w1 b p (gs.take (k + 1) ++ gs.drop (k + 2)) (vs.take k ++ v' :: vs.drop (k + 2))
  | [], _, _, _, _, _, _, hk, _, _, _ => by simp at hk
  | g0 :: gs, b, p, vs, 0, g, h, hk, hg, hb, hx => by
    have hasc := h.asc
    obtain ⟨v, r, q, rfl, h2, h3, h4, h5⟩ := h
    simp at hg; subst hg
    cases gs with
    | nil => simp at hk
    | cons g1 gs =>
      obtain ⟨v1, r1, q1, rfl, e2, e3, e4, e5⟩ := h5
      obtain ⟨e6, -⟩ := e5.look
      refine ⟨v', r1, nxt gs 0, rfl, h2, h3, hb, ?_⟩
      rw [← e6]
      refine (e5.less (show g0 + 1 ≤ g1 + 1 by omega)).mono fun x hxm => hx x (by simp [hxm]) ?_
      have := (List.pairwise_cons.1 hasc).1 x (by simp [hxm])
      omega
  | g0 :: gs, b, p, vs, k + 1, g, h, hk, hg, hb, hx => by
    have hasc := h.asc
    obtain ⟨v, r, q, rfl, h2, h3, h4, h5⟩ := h
    have hg' : gs[k]? = some g := by simpa using hg
    have hlt : g0 < g := (List.pairwise_cons.1 hasc).1 g (List.mem_of_getElem? hg')
    have ih := LLs.cut (w1 := w1) (v' := v') h5 (by simpa using hk) hg' hb fun x hxm hne => hx x (by simp [hxm]) hne
    refine ⟨v, _, q, rfl, h2, h3, ?_, ih⟩
    unfold Bk
    rw [hx g0 (by simp) (by omega)]
    exact h4
theorem EachO.put {w : World} {B : Nat} {vs : List Value} {L : List (List Rw)} {v : Value} {m : List Rw} {k : Nat} (h : EachO w B vs L) (hv : OwnR w B v m) (hm : m.length ≤ 1000) (hn : ∀ q, v.ownBlock = some q → q ∉ vs.filterMap Value.ownBlock) (hk : k + 2 ≤ L.length) :
    EachO w B (vs.take k ++ v :: vs.drop (k + 2)) (L.take k ++ [m] ++ L.drop (k + 2)) := by
  have hl := h.len
  refine ⟨by simp; omega, fun i u l h1 h2 => ?_, fun l hl' => ?_, ?_⟩
  · rw [List.append_assoc, List.singleton_append] at h2
    by_cases hi : i < k
    · rw [List.getElem?_append_left (by simp; omega), List.getElem?_take_of_lt hi] at h1 h2
      exact h.own i u l h1 h2
    · rw [List.getElem?_append_right (by simp; omega)] at h1 h2
      rw [List.length_take, Nat.min_eq_left (by omega)] at h1 h2
      cases hd : i - k with
      | zero => rw [hd] at h1 h2; simp at h1 h2; subst h1 h2; exact hv
      | succ j =>
        rw [hd] at h1 h2
        simp only [List.getElem?_cons_succ, List.getElem?_drop] at h1 h2
        exact h.own _ u l h1 h2
  · simp only [List.mem_append, List.mem_singleton] at hl'
    rcases hl' with (h1 | h1) | h1
    · exact h.few l (List.mem_of_mem_take h1)
    · rw [h1]; exact hm
    · exact h.few l (List.mem_of_mem_drop h1)
  · have hsub : List.Sublist (vs.take k ++ vs.drop (k + 2)) vs := by
      conv => rhs; rw [← List.take_append_drop k vs]
      refine List.Sublist.append (List.Sublist.refl _) ?_
      rw [← List.drop_drop]
      exact List.drop_sublist _ _
    have hnd := h.nd.sublist (hsub.filterMap Value.ownBlock)
    refine ((List.perm_middle (a := v) (l₁ := vs.take k) (l₂ := vs.drop (k + 2))).filterMap Value.ownBlock).nodup_iff.2 ?_
    rw [List.filterMap_cons]
    split
    · exact hnd
    · rename_i q e
      exact List.nodup_cons.2 ⟨fun hq => hn q e ((hsub.filterMap Value.ownBlock).subset hq), hnd⟩
theorem move_sp2 {l : List Rw} {f : List (Int × Int)} (h : ∀ r ∈ l, spOk r.1 ∧ okB r.1.2.1 r.1.2.2 = true) (hf : fokB f = true) : ∀ r ∈ moveL f l, spOk r.1 := fun r hr => by
  obtain ⟨q, hq, rfl⟩ := List.mem_map.1 hr
  obtain ⟨h1, h2⟩ := h q hq
  have h3 := move_ok hf h2 (m1 := (moveV f q.1.2.1 q.1.2.2).1) (m2 := (moveV f q.1.2.1 q.1.2.2).2) rfl
  rw [okB_iff] at h3
  obtain ⟨s1, s2, _, _⟩ := h1
  exact ⟨s1, s2, by unfold fit63; simp only [mvR]; omega, by unfold fit63; simp only [mvR]; omega⟩
theorem sum_keys {a b : List Rw} (ha : bokB a = true) (hb : bokB b = true) : ∀ r ∈ sumL ltS (a ++ b), spOk r.1 ∧ okB r.1.2.1 r.1.2.2 = true := fun r hr => by
  obtain ⟨q, hq, e⟩ := sumL_key hr
  rw [← e]
  rcases List.mem_append.1 hq with hq | hq
  · exact ⟨rw_sp (rok_at (bok_rok ha) hq), rw_time (rok_at (bok_rok ha) hq)⟩
  · exact ⟨rw_sp (rok_at (bok_rok hb) hq), rw_time (rok_at (bok_rok hb) hq)⟩
end Go.Proofs.YtjkojbafifbdgaaGreat
