/- Rows of a slice appended to a slice of a call's own; Grow, Concat and Clone of rows; BatchBoth of the program and of its model: contracts. -/
import Derived.Test.YtbmdfmboabfceaaSb
import Derived.Test.YtbmdfmboabfceaaGrw
import Derived.Deep.AppendSrc
namespace Go.Proofs.Ytbmdfmboabfceaa
open Go.RowKit Go.Shelf

theorem rs_src {w : World} {v : Value} {l : List Rw} (h : Rs w v l) : ∃ (ad : Option Addr) (cap : Nat), v = .slice ad l.length cap ∧ (l ≠ [] → ∃ g off, ad = some ⟨g, off, none⟩ ∧ ∀ j u, (l.flatMap rowC)[j]? = some u → w.cell? ((⟨g, off, none⟩ : Addr).add j) = some u) := by
  obtain ⟨a, cap, rfl, hc, hm, hn, h4⟩ := h
  refine ⟨a, cap, rfl, fun hne => ?_⟩
  have h0 : 0 < l.length := List.length_pos_iff.2 hne
  obtain ⟨g, off, rfl, hg, _⟩ := h4 0 l[0] (List.getElem?_eq_getElem h0)
  refine ⟨g, off, rfl, fun j u hj => ?_⟩
  have hlt : j < l.length * 5 := by
    have := (List.getElem?_eq_some_iff.1 hj).1
    rwa [flat_len rowC_len] at this
  have hq : j / 5 < l.length := by omega
  obtain ⟨g', off', e, _, c⟩ := h4 (j / 5) l[j / 5] (List.getElem?_eq_getElem hq)
  simp only [Option.some.injEq, Addr.mk.injEq] at e
  obtain ⟨rfl, rfl, _⟩ := e
  have hc2 := c (j % 5) (Nat.mod_lt _ (by omega))
  have e2 := flat_get rowC_len l (List.getElem?_eq_getElem hq) (j := j % 5) (Nat.mod_lt _ (by omega))
  have e3 : j / 5 * 5 + j % 5 = j := by omega
  rw [e3] at e2
  rw [Nat.add_assoc, e3] at hc2
  rw [Go.WideShapes.add_plain]
  rw [hc2, ← e2, hj]
theorem onesRs (l : List Rw) : ∀ u ∈ l.flatMap rowC, u.oneCell' = true := by
  intro u hu
  obtain ⟨r, _, hr⟩ := List.mem_flatMap.1 hu
  exact onesR r u hr
theorem src_zero {w : World} (ad : Option Addr) (c : Nat) : _root_.Go.Src Try.prog 5 23 (.slice ad 0 c) 0 [] w := by
  cases ad with
  | none => exact _root_.Go.Src.ofNil w Try.underlying23 c
  | some a => exact _root_.Go.Src.ofSlice w Try.underlying23 a 0 c [] rfl (by simp) (by simp)
theorem app_zero {w : World} {B : Nat} {v : Value} {l : List Rw} (h : OwnR w B v l) (ad : Option Addr) (c : Nat) (ty : TypeId) : (Builtin.append_ #[23, 23] ty #[v, .slice ad 0 c]).run Try.prog w = .ok v w := by
  obtain ⟨i0, hi, hz0, hz1, hz2⟩ := info_parts infoR
  have hs : _root_.Go.Src Try.prog i0.size 23 (.slice ad 0 c) 0 [] w := by rw [hz1]; exact src_zero ad c
  rcases ownK_open h rowC_len with ⟨rfl, rfl⟩ | ⟨g, cap, cs, rfl, hg, hb, hss, hcc, hm, _⟩
  · simp [Builtin.append_, run_underlying Try.underlying23, sizeOf, typeInfo, hi, hs.len, hs.cells]
  · have := run_append_room_src (P := Try.prog) w 23 23 ty 33 i0 Try.underlying23 hi g 0 l.length cap _ 0 [] hs (by omega) (by simp) (by simp)
    exact this
section
variable {ops : Array Oper} {rest : List Oper} {o : Oper} {a : Act} {Q : Exit → Act → World → Prop}
/-- 'append(v, v2...)'. -/
theorem appRs (w : World) (hgd : o.guard = none) (s x : Operand) (ho : o.op = .call { callee := .builtin .append, args := #[s, x], argTypes := #[23, 23] })
    (base : Nat) (v : Value) (l : List Rw) (hs : a.eval s = v) (hown : OwnR w base v l) (v2 : Value) (m : List Rw) (hx : a.eval x = v2) (hR : Rs w v2 m) (hl : l.length + m.length ≤ 2000000) (hbase : base ≤ w.heap.size)
    (h : ∀ v' w', OwnR w' base v' (l ++ m) → w.grownBy w' v.ownBlock → wpList Try.prog ops Q rest (a.put o.dst v') w') :
    wpList Try.prog ops Q (o :: rest) a w := by
  obtain ⟨i0, hi, hz0, hz1, hz2⟩ := info_parts infoR
  obtain ⟨ad, cap, rfl, hsrc⟩ := rs_src hR
  by_cases hm0 : m = []
  · subst hm0
    refine wpList_plain hgd fun K' hK' => ?_
    have hrun := app_zero hown ad cap o.type
    unfold Oper.wp
    simp [execOp, ho, resolve, invoke, builtin, hs, hx, hrun, Result.andThen]
    exact hK' _ _ (h v w (by simpa using hown) ⟨rfl, rfl, rfl, Nat.le_refl _, fun _ _ _ => rfl⟩)
  · obtain ⟨g, off, rfl, hnews⟩ := hsrc hm0
    have hpos : 0 < m.length := List.length_pos_iff.2 hm0
    refine wpList_append_lies w hgd s x 23 ho base 33 i0 _ 5 40 Try.underlying23 hi hz0 hz1 hz2 rfl (by decide) v l.length (l.flatMap rowC) hs hown ⟨g, off, none⟩ m.length cap (m.flatMap rowC) hx (flat_len rowC_len m) hnews (onesRs m) hpos (by unfold maxLen; omega) (by omega) hbase w.heap.size rfl ?_
    intro g' cap' w' h1 h2 _ _
    refine h _ w' ?_ h2
    show w'.ownsRow _ _ _ _ _ _
    rw [List.flatMap_append, List.length_append]; exact h1
end
theorem growR_any (n : Nat) (hn : n ≤ 2000000) (w : World) :
    Calls Try.prog 158 #[.slice none 0 0, .int .i64 n] w fun e w' => ∃ v : Value, e = .returned v ∧ OwnR w' w.heap.size v [] ∧ Below w.heap.size w w' := by
  obtain ⟨i0, hi, hz0, hz1, hz2⟩ := info_parts infoR
  by_cases h0 : n = 0
  · subst h0
    refine (Any8.slices_Grow_room growR none 0 0 0 w (by omega) (by omega) (by omega) (by omega)).mono ?_
    rintro e w' ⟨rfl, rfl⟩
    exact ⟨_, rfl, ownK_nil _ _ _ _ _, Below.refl _ _⟩
  · refine (Any8.slices_Grow_grow growR i0 _ hi hz0 (by omega) none 0 0 n [] w (by omega) (by omega) (by rw [hz2]; omega) (by omega) (by simp) (fun _ => rfl) (fun a ha => by cases ha)).mono ?_
    rintro e w' ⟨rfl, rfl⟩
    have hge := grownCap_ge w (0 + n) 0 (growR_ren.t 25)
    have hle := grownCap_le_maxLen w (0 + n) 0 (growR_ren.t 25) (by unfold maxLen; omega)
    generalize grownCap w (0 + n) 0 (growR_ren.t 25) = G at hge hle ⊢
    have e1 : (Value.agg #[.int .i64 0, .int .i64 0, .int .i64 0, .int .i64 0, .int .i64 0]).cells.size = 5 := by simp [Value.cells]
    refine ⟨_, rfl, ⟨by simp, .inr ⟨w.heap.size, G, _, rfl, Nat.le_refl _, heap_alloc_new w.drew _, Nat.zero_le _, hle, ?_, by simp⟩⟩, bAlloc (Below.refl _ w).drew _⟩
    simp only [Array.size_append, Builtin.zeroCells, Array.size_map, Array.size_range, e1]
    simp
    omega
end Go.Proofs.Ytbmdfmboabfceaa
