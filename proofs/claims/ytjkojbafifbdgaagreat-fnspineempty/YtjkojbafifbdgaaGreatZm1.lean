/- Slices appended to slices, of whatever elements; slices of rows and times among them: the laws. -/
import Derived.Test.YtjkojbafifbdgaaGreatZl0
import Derived.Test.YtjkojbafifbdgaaGreatGs7
import Derived.Deep.AppendSrc
namespace Go.Proofs.YtjkojbafifbdgaaGreat
open Go.RowKit Go.Shelf

section
variable {α : Type} {enc : α → List Value} {k : Nat}
theorem slk_src (hk0 : 0 < k) (hk : ∀ x, (enc x).length = k) {w : World} {v : Value} {l : List α} (h : SlK enc k w v l) : ∃ (ad : Option Addr) (cap : Nat), v = .slice ad l.length cap ∧ (l ≠ [] → ∃ g off, ad = some ⟨g, off, none⟩ ∧ ∀ j u, (l.flatMap enc)[j]? = some u → w.cell? ((⟨g, off, none⟩ : Addr).add j) = some u) := by
  obtain ⟨a, cap, rfl, hc, hm, hn, h4⟩ := h
  refine ⟨a, cap, rfl, fun hne => ?_⟩
  have h0 : 0 < l.length := List.length_pos_iff.2 hne
  obtain ⟨g, off, rfl, hg, _⟩ := h4 0 l[0] (List.getElem?_eq_getElem h0)
  refine ⟨g, off, rfl, fun j u hj => ?_⟩
  have hlt : j < l.length * k := by
    have := (List.getElem?_eq_some_iff.1 hj).1
    rwa [flat_len hk] at this
  have hq : j / k < l.length := Nat.div_lt_of_lt_mul (by rw [Nat.mul_comm]; exact hlt)
  have hr : j % k < k := Nat.mod_lt _ hk0
  obtain ⟨g', off', e, _, c⟩ := h4 (j / k) l[j / k] (List.getElem?_eq_getElem hq)
  simp only [Option.some.injEq, Addr.mk.injEq] at e
  obtain ⟨rfl, rfl, _⟩ := e
  have hc2 := c (j % k) hr
  have e2 := flat_get hk l (List.getElem?_eq_getElem hq) (j := j % k) hr
  have e3 : j / k * k + j % k = j := by rw [Nat.mul_comm]; exact Nat.div_add_mod j k
  rw [e3] at e2
  rw [Nat.add_assoc, e3] at hc2
  rw [Go.WideShapes.add_plain]
  rw [hc2, ← e2, hj]
theorem app_zeroK {tS tE : TypeId} {z : Value} {bt : Nat} (hu : Tryz.prog.underlying tS = some (.slice tE)) (hinfo : (Tryz.prog.info? tE).map (fun i => (i.zero, i.size, i.bytes)) = some (some z, k, bt)) (hk : ∀ x, (enc x).length = k)
    {w : World} {B : Nat} {v : Value} {l : List α} (h : OwnK enc k tE w B v l) (ad : Option Addr) (c : Nat) (ty : TypeId) : (Builtin.append_ #[tS, tS] ty #[v, .slice ad 0 c]).run Tryz.prog w = .ok v w := by
  obtain ⟨i0, hi, hz0, hz1, hz2⟩ := info_parts hinfo
  have hs : _root_.Go.Src Tryz.prog i0.size tS (.slice ad 0 c) 0 [] w := by
    cases ad with
    | none => exact _root_.Go.Src.ofNil w hu c
    | some a => exact _root_.Go.Src.ofSlice w hu a 0 c [] (by simp) (by simp) (by simp)
  rcases ownK_open h hk with ⟨rfl, rfl⟩ | ⟨g, cap, cs, rfl, hg, hb, hss, hcc, hm, _⟩
  · simp [Builtin.append_, run_underlying hu, sizeOf, typeInfo, hi, hs.len, hs.cells]
  · have := run_append_room_src (P := Tryz.prog) w tS tS ty tE i0 hu hi g 0 l.length cap _ 0 [] hs (by omega) (by simp) (by simp)
    exact this
/-- 'append(v, v2...)', one operation. -/
theorem wpKs {o : Oper} {a : Act} {Kk : Act → World → Prop} {Q : Exit → Act → World → Prop} {tS tE : TypeId} {z : Value} {bt : Nat} (hu : Tryz.prog.underlying tS = some (.slice tE)) (hinfo : (Tryz.prog.info? tE).map (fun i => (i.zero, i.size, i.bytes)) = some (some z, k, bt)) (hk0 : 0 < k) (hbt : bt ≤ 1000) (hzc : z.cells.size = k) (hk : ∀ x, (enc x).length = k) (h1c : ∀ x, ∀ u ∈ enc x, u.oneCell' = true)
    (w : World) (s x : Operand) (ho : o.op = .call { callee := .builtin .append, args := #[s, x], argTypes := #[tS, tS] })
    (base : Nat) (v : Value) (l : List α) (hs : a.eval s = v) (hown : OwnK enc k tE w base v l) (v2 : Value) (m : List α) (hx : a.eval x = v2) (hR : SlK enc k w v2 m) (hl : l.length + m.length ≤ 2000000) (hbase : base ≤ w.heap.size)
    (h : ∀ v' w', OwnK enc k tE w' base v' (l ++ m) → w.grownBy w' v.ownBlock → Kk (a.put o.dst v') w') : Oper.wp Tryz.prog o a w Kk Q := by
  obtain ⟨i0, hi, hz0, hz1, hz2⟩ := info_parts hinfo
  obtain ⟨ad, cap, rfl, hsrc⟩ := slk_src hk0 hk hR
  by_cases hm0 : m = []
  · subst hm0
    have hrun := app_zeroK hu hinfo hk hown ad cap o.type
    unfold Oper.wp
    simp [execOp, ho, resolve, invoke, builtin, hs, hx, hrun, Result.andThen]
    exact h v w (by simpa using hown) ⟨rfl, rfl, rfl, Nat.le_refl _, fun _ _ _ => rfl⟩
  · obtain ⟨g, off, rfl, hnews⟩ := hsrc hm0
    have hpos : 0 < m.length := List.length_pos_iff.2 hm0
    have hbb : (l.length + m.length) * bt ≤ 140737488355328 := by
      have := Nat.mul_le_mul hl hbt
      omega
    refine wp_append_lies w s x tS ho base tE i0 z k bt hu hi hz0 hz1 hz2 hzc hk0 v l.length (l.flatMap enc) hs hown ⟨g, off, none⟩ m.length cap (m.flatMap enc) hx (flat_len hk m) hnews (fun u hu => by obtain ⟨x, _, hx⟩ := List.mem_flatMap.1 hu; exact h1c x u hx) hpos (by unfold maxLen; omega) hbb hbase w.heap.size rfl ?_
    intro g' cap' w' h1 h2 _ _
    refine h _ w' ?_ h2
    show w'.ownsRow _ _ _ _ _ _
    rw [List.flatMap_append, List.length_append]; exact h1
end
abbrev timC (p : Int × Int) : List Value := [.int .i64 p.1, .int .i64 p.2]
theorem timC_len (p : Int × Int) : (timC p).length = 2 := rfl
theorem ts_slk {w : World} {v : Value} {l : List (Int × Int)} (h : Ts w v l) : SlK timC 2 w v l := by
  obtain ⟨a, cap, rfl, h1, h2, h3, h4⟩ := h
  refine ⟨a, cap, rfl, h1, h2, h3, fun i x hi => ?_⟩
  obtain ⟨hlt, e⟩ := List.getElem?_eq_some_iff.1 hi
  obtain ⟨g, off, ha, hg, c0, c1⟩ := h4 i hlt
  refine ⟨g, off, ha, hg, fun j hj => ?_⟩
  have e0 : tA l i = x.1 := by simp [tA, hi]
  have e1 : tB l i = x.2 := by simp [tB, hi]
  obtain rfl | rfl : j = 0 ∨ j = 1 := by omega
  · rw [Nat.add_zero, c0, e0]; rfl
  · rw [c1, e1]; rfl
section
variable {ops : Array Oper} {rest : List Oper} {o : Oper} {a : Act} {Kk : Act → World → Prop} {Q : Exit → Act → World → Prop} {E : Prop}
/-- 'append(v, v2...)' of times. -/
theorem appTs (w : World) (hgd : o.guard = none) (s x : Operand) (ho : o.op = .call { callee := .builtin .append, args := #[s, x], argTypes := #[24, 24] })
    (base : Nat) (v : Value) (l : List (Int × Int)) (hs : a.eval s = v) (hown : Own w base v l) (v2 : Value) (m : List (Int × Int)) (hx : a.eval x = v2) (hR : Ts w v2 m) (hl : l.length + m.length ≤ 2000000) (hbase : base ≤ w.heap.size)
    (h : ∀ v' w', Own w' base v' (l ++ m) → w.grownBy w' v.ownBlock → wpList Tryz.prog ops Q rest (a.put o.dst v') w') : wpList Tryz.prog ops Q (o :: rest) a w :=
  wpList_plain hgd fun _ hK => wpKs (enc := timC) Tryz.underlying24 infoT (by omega) (by omega) rfl timC_len (fun p => ones2 _ _) w s x ho base v l hs hown v2 m hx (ts_slk hR) hl hbase fun v' w' h1 h2 => hK _ _ (h v' w' h1 h2)
theorem stepTs (w : World) (hgd : o.guard = none) (s x : Operand) (ho : o.op = .call { callee := .builtin .append, args := #[s, x], argTypes := #[24, 24] })
    (base : Nat) (v : Value) (l : List (Int × Int)) (hs : a.eval s = v) (hown : Own w base v l) (v2 : Value) (m : List (Int × Int)) (hx : a.eval x = v2) (hR : Ts w v2 m) (hl : l.length + m.length ≤ 2000000) (hbase : base ≤ w.heap.size)
    (h : ∀ v' w', Own w' base v' (l ++ m) → w.grownBy w' v.ownBlock → Kk (a.put o.dst v') w') : if Region.wanted o (yielded ops a.tmps) = true then Oper.wp Tryz.prog o a w Kk Q else E := by
  rw [if_pos (by simp [Region.wanted, hgd])]
  exact wpKs (enc := timC) Tryz.underlying24 infoT (by omega) (by omega) rfl timC_len (fun p => ones2 _ _) w s x ho base v l hs hown v2 m hx (ts_slk hR) hl hbase h
/-- 'append(v, v2...)' of slices of rows. -/
theorem wpVs (w : World) (s x : Operand) (ho : o.op = .call { callee := .builtin .append, args := #[s, x], argTypes := #[23, 23] })
    (base : Nat) (v : Value) (l : List Value) (hs : a.eval s = v) (hown : OwnV w base v l) (v2 : Value) (m : List Value) (hx : a.eval x = v2) (hR : Vs w v2 m) (h1 : ∀ u ∈ m, u.oneCell' = true) (hl : l.length + m.length ≤ 2000000) (hbase : base ≤ w.heap.size)
    (h : ∀ v' w', OwnV w' base v' (l ++ m) → w.grownBy w' v.ownBlock → Kk (a.put o.dst v') w') : Oper.wp Tryz.prog o a w Kk Q := by
  obtain ⟨i0, hi, hz0, hz1, hz2⟩ := info_parts infoV
  obtain ⟨ad, cap, rfl, hsrc⟩ := slk_src (by omega) valC_len hR
  by_cases hm0 : m = []
  · subst hm0
    have hrun := app_zeroK Tryz.underlying23 infoV valC_len hown ad cap o.type
    unfold Oper.wp
    simp [execOp, ho, resolve, invoke, builtin, hs, hx, hrun, Result.andThen]
    exact h v w (by simpa using hown) ⟨rfl, rfl, rfl, Nat.le_refl _, fun _ _ _ => rfl⟩
  · obtain ⟨g, off, rfl, hnews⟩ := hsrc hm0
    have hpos : 0 < m.length := List.length_pos_iff.2 hm0
    refine wp_append_lies w s x 23 ho base 33 i0 _ 1 24 Tryz.underlying23 hi hz0 hz1 hz2 rfl (by decide) v l.length (l.flatMap valC) hs hown ⟨g, off, none⟩ m.length cap (m.flatMap valC) hx (flat_len valC_len m) hnews (fun u hu => by obtain ⟨x, hx, hx2⟩ := List.mem_flatMap.1 hu; rw [List.mem_singleton.1 hx2]; exact h1 x hx) hpos (by unfold maxLen; omega) (by omega) hbase w.heap.size rfl ?_
    intro g' cap' w' e1 e2 _ _
    refine h _ w' ?_ e2
    show w'.ownsRow _ _ _ _ _ _
    rw [List.flatMap_append, List.length_append]; exact e1
theorem stepVs (w : World) (hgd : o.guard = none) (s x : Operand) (ho : o.op = .call { callee := .builtin .append, args := #[s, x], argTypes := #[23, 23] })
    (base : Nat) (v : Value) (l : List Value) (hs : a.eval s = v) (hown : OwnV w base v l) (v2 : Value) (m : List Value) (hx : a.eval x = v2) (hR : Vs w v2 m) (h1 : ∀ u ∈ m, u.oneCell' = true) (hl : l.length + m.length ≤ 2000000) (hbase : base ≤ w.heap.size)
    (h : ∀ v' w', OwnV w' base v' (l ++ m) → w.grownBy w' v.ownBlock → Kk (a.put o.dst v') w') : if Region.wanted o (yielded ops a.tmps) = true then Oper.wp Tryz.prog o a w Kk Q else E := by
  rw [if_pos (by simp [Region.wanted, hgd])]
  exact wpVs w s x ho base v l hs hown v2 m hx hR h1 hl hbase h
theorem stepV (w : World) (hgd : o.guard = none) (s x : Operand) (ho : o.op = .call { callee := .builtin .append, args := #[s, x], argTypes := #[23, 23] })
    (base : Nat) (v : Value) (l : List Value) (hs : a.eval s = v) (hown : OwnV w base v l) (g0 : Nat) (ad : Option Addr) (n c : Nat) (hx : a.eval x = .slice (some ⟨g0, 0, none⟩) 1 1)
    (hc : Bk w g0 #[.slice ad n c] 33) (hl : l.length ≤ 2000000) (hbase : base ≤ w.heap.size)
    (h : ∀ g cap w', OwnV w' base (.slice (some ⟨g, 0, none⟩) (l.length + 1) cap) (l ++ [.slice ad n c]) → w.grownBy w' v.ownBlock → g < w'.heap.size → Kk (a.put o.dst (.slice (some ⟨g, 0, none⟩) (l.length + 1) cap)) w') :
    if Region.wanted o (yielded ops a.tmps) = true then Oper.wp Tryz.prog o a w Kk Q else E := by
  obtain ⟨i0, hi, hz0, hz1, hz2⟩ := info_parts infoV
  refine step_append_lies w hgd s x 23 ho base 33 i0 _ 1 24 Tryz.underlying23 hi hz0 hz1 hz2 rfl (by decide) v l.length (l.flatMap valC) hs hown ⟨g0, 0, none⟩ 1 1 (valC (.slice ad n c)) hx rfl (newsL hc) (fun u hu => by simp at hu; subst hu; rfl) (by omega) (by unfold maxLen; omega) (by omega) hbase w.heap.size rfl ?_
  intro g cap w' h1 h2 _ h4
  refine h g cap w' ?_ h2 h4
  show w'.ownsRow _ _ _ _ _ _
  rw [List.flatMap_append]; simpa using h1
end
/-- A spine of a call's own. -/
def SpO (w : World) (B : Nat) (lv fv : Value) (L : List (List Rw)) (F : List (Int × Int)) : Prop := ∃ vs : List Value, OwnV w B lv vs ∧ EachO w B vs L ∧ Own w B fv F
theorem SpO.keep {w w1 : World} {B : Nat} {lv fv : Value} {L : List (List Rw)} {F : List (Int × Int)} (h : SpO w B lv fv L F) (hb : Below w.heap.size w w1) : SpO w1 B lv fv L F := by
  obtain ⟨vs, h1, h2, h3⟩ := h
  exact ⟨vs, own_keep h1 hb, h2.keep hb, own_keep h3 hb⟩
theorem SpO.less {w : World} {B B' : Nat} {lv fv : Value} {L : List (List Rw)} {F : List (Int × Int)} (h : SpO w B lv fv L F) (hB : B' ≤ B) : SpO w B' lv fv L F := by
  obtain ⟨vs, h1, h2, h3⟩ := h
  exact ⟨vs, own_less h1 hB, h2.less hB, own_less h3 hB⟩
theorem SpO.spn {w : World} {B : Nat} {lv fv : Value} {L : List (List Rw)} {F : List (Int × Int)} (h : SpO w B lv fv L F) (hl : L.length ≤ 2000000) (hf : F.length ≤ 2000000) : Spn w lv fv L F := by
  obtain ⟨vs, h1, h2, h3⟩ := h
  exact ⟨OwnV.ly h1 (by rw [h2.len]; omega) h2.each, Own.ts h3 (by omega)⟩
theorem SpO.nil (w : World) (B : Nat) : SpO w B (.slice none 0 0) (.slice none 0 0) [] [] := ⟨[], ownK_nil _ _ _ _ _, EachO.nil _ _, ownK_nil timC _ _ _ _⟩
end Go.Proofs.YtjkojbafifbdgaaGreat
