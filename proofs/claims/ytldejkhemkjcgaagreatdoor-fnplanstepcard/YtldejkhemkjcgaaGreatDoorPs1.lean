import Derived.Test.YtldejkhemkjcgaaGreatDoorGmr
import Derived.Test.YtldejkhemkjcgaaGreatDoorOpl
namespace Go.Proofs.YtldejkhemkjcgaaGreatDoor
open Go.RowKit Go.Shelf
abbrev nilS : Value := .slice none 0 0
def inK (k : Nat) : List (Int × Int × Value) := (List.range k).map fun i : Nat => ((1 : Int), (i : Int), nilS)
theorem inK_len (k : Nat) : (inK k).length = k := by simp [inK]
theorem inK_succ (k : Nat) : inK (k + 1) = inK k ++ [(1, (k : Int), nilS)] := by simp [inK, List.range_succ]
theorem inK_at {k j : Nat} (h : j < k) : (inK k)[j]? = some (1, (j : Int), nilS) := by simp [inK, h]
def stepT : PT → PT
  | .n0 k n => .n0 k n
  | .n1 k n _ => .n1 k n (.n0 1 0)
  | .n2 k n _ _ => .n2 k n (.n0 1 0) (.n0 1 1)
theorem stepT_k (t : PT) : (stepT t).k = t.k := by cases t <;> rfl
theorem stepT_n (t : PT) : (stepT t).n = t.n := by cases t <;> rfl
theorem stepT_len (t : PT) : (stepT t).len = t.len := by cases t <;> rfl
theorem stepT_sm {t : PT} (h : t.sm) : (stepT t).sm := by
  cases t with
  | n0 k n => exact h
  | n1 k n x => exact ⟨h.1, by decide, by decide⟩
  | n2 k n x y => exact ⟨h.1, ⟨by decide, by decide⟩, by decide, by decide⟩
theorem stepT_pok {t : PT} {d : Nat} (h : pokB t (d + 2) = true) : pokB (stepT t) (d + 2) = true := by
  have hh := (pok_parts h).1
  refine pok_yes (by unfold hereB at hh ⊢; rw [stepT_k, stepT_n, stepT_len]; exact hh) fun i hi => ?_
  cases t with
  | n0 k n => simp [stepT, PT.len] at hi
  | n1 k n x => exact pok_yes (t := .n0 1 0) (by decide) fun i hi => by simp [PT.len] at hi
  | n2 k n x y =>
    cases i with
    | zero => exact pok_yes (t := .n0 1 0) (by decide) fun i hi => by simp [PT.len] at hi
    | succ i => exact pok_yes (t := .n0 1 1) (by decide) fun i hi => by simp [PT.len] at hi
theorem flow_kid {t : PT} {K : List (List Rw)} {r : List Rw} (h : flowR t K = some r) {i : Nat} (hi : i < t.len) : ∃ y, flowR (t.kid i) K = some y := by
  obtain ⟨a, b, rfl, hp, ha, hb, hr⟩ := flowR_some h
  rw [flowR_two (pok_more ((pok_parts hp).2 i hi)) ha hb]
  cases hk : planR a b (t.kid i) with
  | none => rw [planR_none hi hk] at hr; cases hr
  | some y => exact ⟨y, rfl⟩
theorem flow_step {t : PT} {K ys : List (List Rw)} {r : List Rw} {m : Nat} (h : flowR t K = some r) (hl : ys.length = t.len) (h0 : t.len ≠ 0) (hm : t.len + m = 2) (hy : ∀ j l, ys[j]? = some l → flowR (t.kid j) K = some l) : flowR (stepT t) (ys ++ List.replicate m []) = some r := by
  obtain ⟨a, b, rfl, hp, ha, hb, hr⟩ := flowR_some h
  have hy2 : ∀ j l, j < t.len → ys[j]? = some l → planR a b (t.kid j) = some l := fun j l hj e => by
    have := hy j l e
    rwa [flowR_two (pok_more ((pok_parts hp).2 j hj)) ha hb] at this
  cases t with
  | n0 k n => simp [PT.len] at h0
  | n1 k n x =>
    match ys, hl with
    | [l], _ =>
      obtain rfl : m = 1 := by simp [PT.len] at hm; omega
      have e1 := hy2 0 l (by simp [PT.len]) rfl
      simp only [PT.kid] at e1
      show flowR _ [l, []] = _
      rw [flowR_two (stepT_pok hp) (planR_bok e1) bok_nil]
      exact plan_step1 hr e1
  | n2 k n x y =>
    match ys, hl with
    | [l, l'], _ =>
      obtain rfl : m = 0 := by simp [PT.len] at hm; omega
      have e1 := hy2 0 l (by simp [PT.len]) rfl
      have e2 := hy2 1 l' (by simp [PT.len]) rfl
      simp only [PT.kid] at e1 e2
      show flowR _ [l, l'] = _
      rw [flowR_two (stepT_pok hp) (planR_bok e1) (planR_bok e2)]
      exact plan_step2 hr e1 e2
theorem kd_step {t : PT} {w : World} {B : Nat} {sl : Value} (h : OwnPl w B sl (inK t.len)) (h0 : t.len ≠ 0) : KdS 0 w (stepT t) sl := by
  rcases ownK_open h plC_len with ⟨_, h1⟩ | ⟨g, cap, c, rfl, -⟩
  · have := inK_len t.len; rw [h1] at this; simp at this; omega
  · cases t with
    | n0 k n => simp [PT.len] at h0
    | n1 k n x =>
      obtain ⟨_, c0, c1, c2⟩ := OwnPl.at h (inK_at (show 0 < (PT.n1 k n x).len by simp [PT.len]))
      refine ⟨g, 0, cap, _, by rw [inK_len]; rfl, Nat.zero_le _, by simpa [PT.k] using c0, by simpa [PT.n] using c1, by simpa using c2, none, 0, rfl⟩
    | n2 k n x y =>
      obtain ⟨_, c0, c1, c2⟩ := OwnPl.at h (inK_at (show 0 < (PT.n2 k n x y).len by simp [PT.len]))
      obtain ⟨_, d0, d1, d2⟩ := OwnPl.at h (inK_at (show 1 < (PT.n2 k n x y).len by simp [PT.len]))
      refine ⟨g, 0, cap, _, _, by rw [inK_len]; rfl, Nat.zero_le _, by simpa [PT.k] using c0, by simpa [PT.n] using c1, by simpa using c2, by simpa [PT.k] using d0, by simpa [PT.n] using d1, by simpa using d2, ⟨none, 0, rfl⟩, none, 0, rfl⟩
theorem implFlow_top (ea : Addr) {t : PT} {s iv : Value} {K : List (List Rw)} {w : World} {r : List Rw} (hf : flowR (stepT t) K = some r) (hsm : t.sm) (hs : KdS 0 w (stepT t) s) (hi : LyR w iv K) (hg : w.cell? ⟨0, 0, none⟩ = some (erV ea)) :
    Calls Tryz.prog 15 #[pl t.k t.n s, iv] w fun e w' => ∃ o : Value, e = .returned (.tuple #[o, .bool true]) ∧ Rs w' o r ∧ Below w.heap.size w w' := by
  have := implFlow_yes ea hf (stepT_sm hsm) hs hi hg
  rwa [stepT_k, stepT_n] at this
theorem implFlow_own (ea : Addr) {t : PT} {B : Nat} {s iv : Value} {K : List (List Rw)} {w : World} {r : List Rw} (hf : flowR t K = some r) (hsm : t.sm) (hs : KdS B w t s) (hi : LyR w iv K) (hg : w.cell? ⟨0, 0, none⟩ = some (erV ea)) :
    Calls Tryz.prog 15 #[pl t.k t.n s, iv] w fun e w' => ∃ (a : Option Addr) (c : Nat), e = .returned (.tuple #[.slice a r.length c, .bool true]) ∧ OwnR w' w.heap.size (.slice a r.length c) r ∧ Below w.heap.size w w' := by
  refine (implPlanFlow_any ea hsm hs hi hg (fun _ _ _ _ _ _ => trivial)).mono ?_
  rintro e w1 ⟨o, rfl, own, hb⟩
  rw [hf] at own ⊢
  have hl := flowR_len hf
  obtain ⟨a, c, e, -⟩ := Rs.open (OwnR.rs own (by simp; omega))
  simp only [Option.getD_some] at e own
  subst e
  exact ⟨a, c, rfl, own, hb⟩
theorem ownPl_cells {w : World} {B : Nat} {v : Value} {l : List (Int × Int × Value)} (h : OwnPl w B v l) {q : Nat} (e : v.ownBlock = some q) : ∃ c : Array Value, Bk w q c 25 := by
  rcases ownK_open h plC_len with ⟨rfl, _⟩ | ⟨g, cap, c, rfl, _, hb, _⟩
  · cases e
  · have : g = q := by simpa [Value.ownBlock] using e
    subst this; exact ⟨c, hb⟩
structure StepI (t : PT) (K : List (List Rw)) (w : World) (b1 k : Nat) (o : Value) (wr : World) : Prop where
  le : k ≤ t.len
  nx : ∃ vs ys, OwnVR wr w.heap.size o vs ∧ EoR wr w.heap.size vs ys ∧ ys.length = k ∧ ∀ j l, ys[j]? = some l → flowR (t.kid j) K = some l
  tp : ∃ sl, Bk wr b1 #[.int .i64 t.k, .int .i64 t.n, sl] 25 ∧ OwnPl wr (b1 + 1) sl (inK k)
  ord : w.heap.size ≤ b1
  bel : Below w.heap.size w wr
theorem stepI_next {t : PT} {K ys : List (List Rw)} {w w9 w11 : World} {b1 k : Nat} {o' sl sl' u : Value} {vs : List Value} {y : List Rw} (hlt : k < t.len) (hy : ys.length = k) (hk : ∀ j l, ys[j]? = some l → flowR (t.kid j) K = some l) (hyk : flowR (t.kid k) K = some y) (hord : w.heap.size ≤ b1)
    (hb9 : Below w.heap.size w w9) (ov9 : OwnVR w9 w.heap.size o' (vs ++ [u])) (eo9 : EoR w9 w.heap.size (vs ++ [u]) (ys ++ [y])) (tb9 : Bk w9 b1 #[.int .i64 t.k, .int .i64 t.n, sl] 25) (op9 : OwnPl w9 (b1 + 1) sl (inK k))
    (hg : (w9.alloc (.cells #[.int .i64 1, .int .i64 k, nilS] 25)).grownBy w11 sl.ownBlock) (op11 : OwnPl w11 (b1 + 1) sl' (inK k ++ [(1, (k : Int), nilS)])) :
    StepI t K w b1 (k + 1) o' (w11.setCell ⟨b1, 2, none⟩ sl') := by
  have hb10 : Below w9.heap.size w9 (w9.alloc (.cells #[.int .i64 1, .int .i64 k, nilS] 25)) := bAlloc (Below.refl _ _) _
  have op10 := own_keep op9 hb10
  have tb10 := tb9.keep hb10
  have hne : ∀ q, sl.ownBlock = some q → b1 ≠ q := fun q e => by have := ownK_base op9 q e; omega
  have tb11 := tb10.grew hg hne
  have hset : ∀ x, x ≠ b1 → (w11.setCell ⟨b1, 2, none⟩ sl').heap[x]? = w11.heap[x]? := fun x hx => Below.heap_setCell _ _ _ _ (by show _ ≠ _; first | exact hx | exact fun e => hx e.symm)
  have hfar : ∀ q, q < w9.heap.size → b1 ≠ q → sl.ownBlock ≠ some q → (w11.setCell ⟨b1, 2, none⟩ sl').heap[q]? = w9.heap[q]? := fun q hq h1 h2 => by
    rw [hset q (fun e => h1 e.symm), hg.block q (by have := hb10.size; omega) (fun e => h2 e.symm)]; exact hb10.block q hq
  refine ⟨by omega, ⟨vs ++ [u], ys ++ [y], ?_, ⟨eo9.1, fun i v l h1 h2 => ?_, eo9.2.2⟩, by simp [hy], fun j l hj => ?_⟩, ⟨sl', tb11.set 2 _, ?_⟩, hord, ?_⟩
  · refine ownK_at ov9 fun q e => ?_
    obtain ⟨c, hc⟩ := ownVR_cells ov9 e
    exact hfar q hc.lt (fun e' => by subst e'; exact bk_other hc tb9 (by decide) rfl) (fun e' => by
      obtain ⟨d, hd⟩ := ownPl_cells op9 e'
      exact bk_other hc hd (by decide) rfl)
  · have ho := eo9.2.1 i v l h1 h2
    refine ownK_at ho fun q e => ?_
    obtain ⟨c, hc⟩ := ownR_cells ho e
    exact hfar q hc.lt (fun e' => by subst e'; exact bk_other hc tb9 (by decide) rfl) (fun e' => by
      obtain ⟨d, hd⟩ := ownPl_cells op9 e'
      exact bk_other hc hd (by decide) rfl)
  · rcases Nat.lt_or_ge j k with h | h
    · rw [List.getElem?_append_left (by omega)] at hj
      exact hk j l hj
    · have hj2 : j = k := by
        have := (List.getElem?_eq_some_iff.1 hj).1
        simp [hy] at this; omega
      subst hj2
      rw [List.getElem?_append_right (by omega), hy, Nat.sub_self] at hj
      cases hj
      exact hyk
  · rw [inK_succ]
    exact ownK_at op11 fun q e => hset q (by have := ownK_base op11 q e; omega)
  · have h1 : Below w.heap.size w w11 := Below.grew (bStep hb9 hb10) hg (by have := hb9.size; have := hb10.size; omega) (fun q e => by have := ownK_base op9 q e; omega)
    exact h1.setCell (by show _ ≤ b1; omega) _
end Go.Proofs.YtldejkhemkjcgaaGreatDoor
