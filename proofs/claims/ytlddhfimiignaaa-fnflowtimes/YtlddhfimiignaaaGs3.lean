/- Rows of a slice appended to a slice of a call's own; Grow, Concat and Clone of rows; BatchBoth of the program and of its model: contracts. -/
import Derived.Test.YtlddhfimiignaaaGs2
import Derived.Test.YtlddhfimiignaaaGrw
import Derived.Deep.AppendSrc
/-! Rows of a slice appended to a slice of a call's own; Grow, Concat and Clone of rows; BatchBoth of the program and of its model: contracts. -/
namespace Go.Proofs.Ytlddhfimiignaaa
open Go.RowKit Go.Shelf

theorem rs_src {w : World} {v : Value} {l : List Rw} (h : Rs w v l) : ∃ (ad : Option Addr) (cap : Nat), v = .slice ad l.length cap ∧ (l ≠ [] → ∃ g off, ad = some ⟨g, off, none⟩ ∧ ∀ j u, (l.flatMap rowC)[j]? = some u → w.cell? ((⟨g, off, none⟩ : Addr).add j) = some u) := by
  obtain ⟨a, cap, rfl, hc, hm, hn, h4⟩ := h
  refine ⟨a, cap, rfl, fun hne => ?_⟩
  have h0 : 0 < l.length := List.length_pos_iff.2 hne
  obtain ⟨g, off, rfl, hg, _⟩ := h4 0 l[0] (List.getElem?_eq_getElem h0)
  refine ⟨g, off, rfl, fun j u hj => ?_⟩
  have hlt : j < l.length * 5 := by
    have := (List.getElem?_eq_some_iff.1 hj).1
    rwa [flat_len rowC_len] at this
  have hq : j / 5 < l.length := by omega
  obtain ⟨g', off', e, _, c⟩ := h4 (j / 5) l[j / 5] (List.getElem?_eq_getElem hq)
  simp only [Option.some.injEq, Addr.mk.injEq] at e
  obtain ⟨rfl, rfl, _⟩ := e
  have hc2 := c (j % 5) (Nat.mod_lt _ (by omega))
  have e2 := flat_get rowC_len l (List.getElem?_eq_getElem hq) (j := j % 5) (Nat.mod_lt _ (by omega))
  have e3 : j / 5 * 5 + j % 5 = j := by omega
  rw [e3] at e2
  rw [Nat.add_assoc, e3] at hc2
  rw [Go.WideShapes.add_plain]
  rw [hc2, ← e2, hj]
theorem onesRs (l : List Rw) : ∀ u ∈ l.flatMap rowC, u.oneCell' = true := by
  intro u hu
  obtain ⟨r, _, hr⟩ := List.mem_flatMap.1 hu
  exact onesR r u hr
theorem src_zero {w : World} (ad : Option Addr) (c : Nat) : _root_.Go.Src Try.prog 5 35 (.slice ad 0 c) 0 [] w := by
  cases ad with
  | none => exact _root_.Go.Src.ofNil w Try.underlying35 c
  | some a => exact _root_.Go.Src.ofSlice w Try.underlying35 a 0 c [] rfl (by simp) (by simp)
theorem app_zero {w : World} {B : Nat} {v : Value} {l : List Rw} (h : OwnR w B v l) (ad : Option Addr) (c : Nat) (ty : TypeId) : (Builtin.append_ #[35, 35] ty #[v, .slice ad 0 c]).run Try.prog w = .ok v w := by
  obtain ⟨i0, hi, hz0, hz1, hz2⟩ := info_parts infoR
  have hs : _root_.Go.Src Try.prog i0.size 35 (.slice ad 0 c) 0 [] w := by rw [hz1]; exact src_zero ad c
  rcases ownK_open h rowC_len with ⟨rfl, rfl⟩ | ⟨g, cap, cs, rfl, hg, hb, hss, hcc, hm, _⟩
  · simp [Builtin.append_, run_underlying Try.underlying35, sizeOf, typeInfo, hi, hs.len, hs.cells]
  · have := run_append_room_src (P := Try.prog) w 35 35 ty 55 i0 Try.underlying35 hi g 0 l.length cap _ 0 [] hs (by omega) (by simp) (by simp)
    exact this
section
variable {ops : Array Oper} {rest : List Oper} {o : Oper} {a : Act} {Q : Exit → Act → World → Prop}
/-- 'append(v, v2...)'. -/
theorem appRs (w : World) (hgd : o.guard = none) (s x : Operand) (ho : o.op = .call { callee := .builtin .append, args := #[s, x], argTypes := #[35, 35] })
    (base : Nat) (v : Value) (l : List Rw) (hs : a.eval s = v) (hown : OwnR w base v l) (v2 : Value) (m : List Rw) (hx : a.eval x = v2) (hR : Rs w v2 m) (hl : l.length + m.length ≤ 2000000) (hbase : base ≤ w.heap.size)
    (h : ∀ v' w', OwnR w' base v' (l ++ m) → w.grownBy w' v.ownBlock → wpList Try.prog ops Q rest (a.put o.dst v') w') :
    wpList Try.prog ops Q (o :: rest) a w := by
  obtain ⟨i0, hi, hz0, hz1, hz2⟩ := info_parts infoR
  obtain ⟨ad, cap, rfl, hsrc⟩ := rs_src hR
  by_cases hm0 : m = []
  · subst hm0
    refine wpList_plain hgd fun K' hK' => ?_
    have hrun := app_zero hown ad cap o.type
    unfold Oper.wp
    simp [execOp, ho, resolve, invoke, builtin, hs, hx, hrun, Result.andThen]
    exact hK' _ _ (h v w (by simpa using hown) ⟨rfl, rfl, rfl, Nat.le_refl _, fun _ _ _ => rfl⟩)
  · obtain ⟨g, off, rfl, hnews⟩ := hsrc hm0
    have hpos : 0 < m.length := List.length_pos_iff.2 hm0
    refine wpList_append_lies w hgd s x 35 ho base 55 i0 _ 5 40 Try.underlying35 hi hz0 hz1 hz2 rfl (by decide) v l.length (l.flatMap rowC) hs hown ⟨g, off, none⟩ m.length cap (m.flatMap rowC) hx (flat_len rowC_len m) hnews (onesRs m) hpos (by unfold maxLen; omega) (by omega) hbase w.heap.size rfl ?_
    intro g' cap' w' h1 h2 _ _
    refine h _ w' ?_ h2
    show w'.ownsRow _ _ _ _ _ _
    rw [List.flatMap_append, List.length_append]; exact h1
end
theorem growR_any (n : Nat) (hn : n ≤ 2000000) (w : World) :
    Calls Try.prog 123 #[.slice none 0 0, .int .i64 n] w fun e w' => ∃ v : Value, e = .returned v ∧ OwnR w' w.heap.size v [] ∧ Below w.heap.size w w' := by
  obtain ⟨i0, hi, hz0, hz1, hz2⟩ := info_parts infoR
  by_cases h0 : n = 0
  · subst h0
    refine (Any8.slices_Grow_room growR none 0 0 0 w (by omega) (by omega) (by omega) (by omega)).mono ?_
    rintro e w' ⟨rfl, rfl⟩
    exact ⟨_, rfl, ownK_nil _ _ _ _ _, Below.refl _ _⟩
  · refine (Any8.slices_Grow_grow growR i0 _ hi hz0 (by omega) none 0 0 n [] w (by omega) (by omega) (by rw [hz2]; omega) (by omega) (by simp) (fun _ => rfl) (fun a ha => by cases ha)).mono ?_
    rintro e w' ⟨rfl, rfl⟩
    have hge := grownCap_ge w (0 + n) 0 (growR_ren.t 25)
    have hle := grownCap_le_maxLen w (0 + n) 0 (growR_ren.t 25) (by unfold maxLen; omega)
    generalize grownCap w (0 + n) 0 (growR_ren.t 25) = G at hge hle ⊢
    have e1 : (Value.agg #[.int .i64 0, .int .i64 0, .int .i64 0, .int .i64 0, .int .i64 0]).cells.size = 5 := by simp [Value.cells]
    refine ⟨_, rfl, ⟨by simp, .inr ⟨w.heap.size, G, _, rfl, Nat.le_refl _, heap_alloc_new w.drew _, Nat.zero_le _, hle, ?_, by simp⟩⟩, bAlloc (Below.refl _ w).drew _⟩
    simp only [Array.size_append, Builtin.zeroCells, Array.size_map, Array.size_range, e1]
    simp
    omega
end Go.Proofs.Ytlddhfimiignaaa

/-! What Concat of two lists of rows, and BatchBoth of the program and of its model, answer: contracts. -/
namespace Go.Proofs.Ytlddhfimiignaaa
open Go.RowKit

theorem growR_eq {k : Int} {n : Nat} (h : k = (n : Int)) (hn : n ≤ 2000000) (w : World) :
    Calls Try.prog 123 #[.slice none 0 0, .int .i64 k] w fun e w' => ∃ v : Value, e = .returned v ∧ OwnR w' w.heap.size v [] ∧ Below w.heap.size w w' := by
  subst h; exact growR_any n hn w
set_option maxHeartbeats 4000000 in
theorem concat_any (g0 : Nat) (v1 v2 : Value) (l1 l2 : List Rw) (w : World) (hb : Bk w g0 #[v1, v2] 35) (h1 : Rs w v1 l1) (h2 : Rs w v2 l2) (hl : l1.length + l2.length ≤ 2000000) :
    Calls Try.prog 85 #[.slice (some ⟨g0, 0, none⟩) 2 2] w fun e w' => ∃ o : Value, e = .returned o ∧ OwnR w' w.heap.size o (l1 ++ l2) ∧ Below w.heap.size w w' := by
  have H1 : Hid (Rs w v1 l1) := h1
  have H2 : Hid (Rs w v2 l2) := h2
  obtain ⟨a1, cap1, rfl, _, _, _, _⟩ := h1
  obtain ⟨a2, cap2, rfl, _, _, _, _⟩ := h2
  obtain ⟨c0, c1, _, _⟩ := hb.two
  go_enter Try.func85, Try.ntmps85
  generalize hn1 : l1.length = n1 at *
  generalize hn2 : l2.length = n2 at *
  have q1 : (0 : Int) ≤ (n1 : Int) := by omega
  have q2 : (n1 : Int) ≤ 2000000 := by omega
  have q3 : (0 : Int) ≤ (n1 : Int) + (n2 : Int) := by omega
  have q4 : (n1 : Int) + (n2 : Int) ≤ 2000000 := by omega
  have q5 : ¬ ((n1 : Int) < 0) := by omega
  have q6 : ¬ ((n1 : Int) + (n2 : Int) < 0) := by omega
  have E1 : Hid (l1.length = n1) := hn1
  have E2 : Hid (l2.length = n2) := hn2
  clear hn1 hn2
  go_wp2_with fail
  refine wp_loop_rounds 3 ?_
  rw [rounds_succ]
  go_wp2_with fail
  rw [rounds_succ]
  go_wp2_with fail
  rw [rounds_succ]
  go_wp2_with fail
  refine (growR_eq (n := n1 + n2) (by omega) (by omega) _).mono ?_
  rintro e w1 ⟨o1, rfl, own1, hb1⟩
  have hbk := hb.keep hb1
  have R1 := H1.out.keep hb1
  obtain ⟨d0, d1, _, _⟩ := hbk.two
  have hs1 := hb1.size
  have O1 : Hid (OwnR w1 w.heap.size o1 []) := own1
  clear own1 H1 c0 c1
  go_wp2_with fail
  refine wp_loop_rounds 3 ?_
  rw [rounds_succ]
  go_wp2_with (at_builtin; refine appRs _ rfl _ _ rfl w.heap.size _ [] rfl O1.out _ l1 rfl R1 (by have := E1.out; simp; omega) (by omega) ?_; intro v3 w3 own3 hg3)
  have hb3 : Below w.heap.size w w3 := Below.grew hb1 hg3 (by omega) (ownK_base O1.out)
  have hs3 := hb3.size
  have R2 := H2.out.keep hb3
  have O3 : Hid (OwnR w3 w.heap.size v3 l1) := by show OwnR _ _ _ _; simpa using own3
  obtain ⟨f0, f1, _, _⟩ := (hb.keep hb3).two
  clear own3 hg3 hbk d0 d1 R1 O1 hb1 H2 hb
  rw [rounds_succ]
  go_wp2_with (at_builtin; refine appRs _ rfl _ _ rfl w.heap.size _ l1 rfl O3.out _ l2 rfl R2 (by have := E1.out; have := E2.out; omega) (by omega) ?_; intro v5 w5 own5 hg5)
  have hb5 : Below w.heap.size w w5 := Below.grew hb3 hg5 (by omega) (ownK_base O3.out)
  have O5 : Hid (OwnR w5 w.heap.size v5 (l1 ++ l2)) := own5
  clear own5 hg5 f0 f1 R2 O3 hb3
  rw [rounds_succ]
  go_wp2_with fail
  go_returns
  exact ⟨_, rfl, O5.out, hb5⟩
theorem bothB_no1 {a b : List Rw} (h : rokB a = false) : bothB a b = [] := by simp [bothB, h]
theorem bothB_no2 {a b : List Rw} (h : rokB b = false) : bothB a b = [] := by simp [bothB, h]
theorem bothB_yes {a b : List Rw} (h : rokB a = true) (h' : rokB b = true) : bothB a b = sumF (a ++ b) := by simp [bothB, h, h']
theorem bothB_len (a b : List Rw) : (bothB a b).length ≤ 400 := by
  unfold bothB; split
  · exact sumF_len4 _
  · simp
theorem both_abs {a b : List Rw} (h : rokB a = true) (h' : rokB b = true) : absum (a ++ b) ≤ 79999200 := by
  rw [absum_append]; have := rok_abs h; have := rok_abs h'; omega
theorem both_sp {a b : List Rw} (h : rokB a = true) (h' : rokB b = true) : ∀ r ∈ a ++ b, spOk r.1 := fun r hr => by
  rcases List.mem_append.1 hr with hr | hr
  · exact rw_sp (rok_at h hr)
  · exact rw_sp (rok_at h' hr)
set_option maxHeartbeats 4000000 in
theorem implBothB_any (v v' : Value) (l l' : List Rw) (w : World) (h : Rs w v l) (h' : Rs w v' l') :
    Calls Try.prog 40 #[v, v'] w fun e w' => ∃ o : Value, e = .returned o ∧ OwnR w' w.heap.size o (bothB l l') ∧ Below w.heap.size w w' := by
  cases hk : rokB l
  · have HF : Hid (bothB l l' = []) := bothB_no1 hk
    go_enter Try.func40, Try.ntmps40
    go_wp2_with fail
    refine (implRowsOk_eq hk h).mono ?_
    rintro e w1 ⟨rfl, hb1⟩
    go_wp2_with fail
    go_ret
    refine ⟨_, rfl, ?_, hb1⟩
    rw [HF.out]
    exact ownK_nil _ _ _ _ _
  cases hk' : rokB l'
  · have HF : Hid (bothB l l' = []) := bothB_no2 hk'
    go_enter Try.func40, Try.ntmps40
    go_wp2_with fail
    refine (implRowsOk_eq hk h).mono ?_
    rintro e w1 ⟨rfl, hb1⟩
    have h1' := h'.keep hb1
    go_wp2_with fail
    refine (implRowsOk_eq hk' h1').mono ?_
    rintro e w2 ⟨rfl, hb2⟩
    go_wp2_with fail
    go_ret
    refine ⟨_, rfl, ?_, bStep hb1 hb2⟩
    rw [HF.out]
    exact ownK_nil _ _ _ _ _
  have HF : Hid (bothB l l' = sumF (l ++ l')) := bothB_yes hk hk'
  have ha := both_abs hk hk'
  have hsp : Hid (∀ r ∈ l ++ l', spOk r.1) := both_sp hk hk'
  have hl := rok_len hk
  have hl' := rok_len hk'
  have HH : Hid (Rs w v l) := h
  have HH' : Hid (Rs w v' l') := h'
  obtain ⟨a1, cap1, rfl, -, -, -, -⟩ := h
  obtain ⟨a2, cap2, rfl, -, -, -, -⟩ := h'
  go_enter Try.func40, Try.ntmps40
  go_wp2_with fail
  refine (implRowsOk_eq hk HH.out).mono ?_
  rintro e w1 ⟨rfl, hb1⟩
  have h1 := HH.out.keep hb1
  have h1' := HH'.out.keep hb1
  clear HH HH'
  go_wp2_with fail
  refine (implRowsOk_eq hk' h1').mono ?_
  rintro e w2 ⟨rfl, hb2⟩
  have hbw2 := bStep hb1 hb2
  have hb3 : Below w2.heap.size w2 (w2.alloc (.cells #[.slice a1 l.length cap1, .slice a2 l'.length cap2] 35)) := bAlloc (Below.refl _ _) _
  have h3 := (h1.keep hb2).keep hb3
  have h3' := (h1'.keep hb2).keep hb3
  have hbk := Bk.new (w := w2) #[.slice a1 l.length cap1, .slice a2 l'.length cap2] 35 rfl
  have hs2 := hbw2.size
  clear h1 h1' hb1 hb2
  go_wp2_with fail
  refine (concat_any _ _ _ l l' _ hbk h3 h3' (by omega)).mono ?_
  rintro e w4 ⟨o4, rfl, own4, hb4⟩
  have hbw4 := bStep (bStep hbw2 hb3) hb4
  have R4 := OwnR.rs own4 (by simp; omega)
  have hs4 := hbw4.size
  clear own4 hb4 hbk h3 h3' hb3
  go_wp2_with fail
  refine (batchOf_any _ (l ++ l') _ R4 (by simp; omega) (by omega) hsp.out).mono ?_
  rintro e w5 ⟨o5, rfl, own5, hb5⟩
  have O5 : Hid (OwnR w5 w4.heap.size o5 (sumF (l ++ l'))) := own5
  have hbw5 := bStep hbw4 hb5
  clear own5
  go_wp2_with fail
  go_ret
  refine ⟨_, rfl, ?_, hbw5⟩
  rw [HF.out]
  exact own_less O5.out hs4
end Go.Proofs.Ytlddhfimiignaaa
