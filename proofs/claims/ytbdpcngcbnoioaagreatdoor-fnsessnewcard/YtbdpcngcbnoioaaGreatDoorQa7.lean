import Derived.Test.YtbdpcngcbnoioaaGreatDoorGqb
import Derived.Test.YtbdpcngcbnoioaaGreatDoorGa1
import Derived.Test.YtbdpcngcbnoioaaGreatDoorGd4
import Derived.Test.YtbdpcngcbnoioaaGreatDoorGd1
namespace Go.Proofs.YtbdpcngcbnoioaaGreatDoor
open Go.RowKit Go.Shelf
attribute [local go_sem ↓] Go.wp_at_zero Go.wp_at_succ
section
variable {o : Oper} {a : Act} {Kk : Act → World → Prop} {Q : Exit → Act → World → Prop}
end
theorem KdP.noc {p : Nat → Prop} {q : Nat} {w w' : World} {ty : TypeId} (hb : Bk w q #[] ty) (hx : ∀ x, x < w.heap.size → x ≠ q → w'.heap[x]? = w.heap[x]?) : ∀ {t : PT} {s : Value}, KdP p w t s → KdP p w' t s
  | .n0 _ _, _, h => h
  | .n1 _ _ _, _, ⟨g, c, sx, e, hp, h1, h2, h3, h4⟩ =>
    have H2 := hx g (lt_of_cell h1) (no_cell hb h1)
    ⟨g, c, sx, e, hp, cell_at H2 h1, cell_at H2 h2, cell_at H2 h3, KdP.noc hb hx h4⟩
  | .n2 _ _ _ _, _, ⟨g, c, sx, sy, e, hp, h1, h2, h3, h4, h5, h6, h7, h8⟩ =>
    have H2 := hx g (lt_of_cell h1) (no_cell hb h1)
    ⟨g, c, sx, sy, e, hp, cell_at H2 h1, cell_at H2 h2, cell_at H2 h3, cell_at H2 h4, cell_at H2 h5, cell_at H2 h6, KdP.noc hb hx h7, KdP.noc hb hx h8⟩
where
  no_cell {w : World} {g q i : Nat} {v : Value} {ty : TypeId} (hb : Bk w q #[] ty) (h : w.cell? ⟨g, i, none⟩ = some v) : g ≠ q := fun e => by
    subst e
    unfold Bk at hb
    simp [World.cell?, hb] at h
theorem KdP.wk {p q : Nat → Prop} {w : World} {t : PT} {s : Value} (h : KdP p w t s) (H : ∀ g, p g → q g) : KdP q w t s := h.move fun g hp _ => ⟨H g hp, rfl⟩
structure CopS (s : SS) (A N : Nat) (a0 a2 a3 : Option Addr) (c0 c2 c3 : Nat) (L : Array Bool) (W : World) (t3 t5 t6 t7 t8 t9 t10 t11 t12 t13 t14 t15 t16 : Value) : Prop where
  s0 : L.getD 0 false = true → t5 = .pointer (some ⟨A, 0, none⟩)
  s1 : L.getD 1 false = true → t6 = pl s.t.k s.t.n (.slice a0 s.t.len c0)
  s2 : L.getD 2 false = true → ∃ ak ck, t7 = pl s.t.k s.t.n (.slice ak s.t.len ck) ∧ KdP (fun g => N ≤ g ∧ (L.getD 12 false = true → t3 ≠ .pointer (some ⟨g, 0, none⟩))) W s.t (.slice ak s.t.len ck)
  s3 : L.getD 3 false = true → L.getD 6 true = false → ∃ q, t8 = .slice (some ⟨q, 0, none⟩) 0 0 ∧ N ≤ q ∧ Bk W q #[] 32
  s4 : L.getD 4 false = true → t9 = .pointer (some ⟨A, 4, none⟩)
  s5 : L.getD 5 false = true → t10 = .slice a2 s.f.length c2
  s6 : L.getD 6 false = true → ∃ a c, t11 = .slice a s.f.length c ∧ Own W N (.slice a s.f.length c) s.f
  s7 : L.getD 7 false = true → L.getD 10 true = false → ∃ q, t12 = .slice (some ⟨q, 0, none⟩) 0 0 ∧ N ≤ q ∧ Bk W q #[] 55
  s8 : L.getD 8 false = true → t13 = .pointer (some ⟨A, 5, none⟩)
  s9 : L.getD 9 false = true → t14 = .slice a3 s.d.length c3
  s10 : L.getD 10 false = true → ∃ a c, t15 = .slice a s.d.length c ∧ OwnR W N (.slice a s.d.length c) s.d
  s11 : L.getD 11 false = true → ∃ ak ck a c a' c', t16 = sv s.t.k s.t.n (.slice ak s.t.len ck) nilV (.slice a s.f.length c) (.slice a' s.d.length c') ∧ t7 = pl s.t.k s.t.n (.slice ak s.t.len ck) ∧ t11 = .slice a s.f.length c ∧ t15 = .slice a' s.d.length c'
  s12 : L.getD 12 false = true → L.getD 13 true = false → ∃ q, t3 = .pointer (some ⟨q, 0, none⟩) ∧ N ≤ q ∧ Bk W q #[.int .i64 0, .int .i64 0, .slice none 0 0, .slice none 0 0, .slice none 0 0, .slice none 0 0] 30
  s13 : L.getD 13 false = true → ∃ q ak ck a c a' c', t3 = .pointer (some ⟨q, 0, none⟩) ∧ N ≤ q ∧ Bk W q #[.int .i64 s.t.k, .int .i64 s.t.n, .slice ak s.t.len ck, nilV, .slice a s.f.length c, .slice a' s.d.length c'] 30 ∧ t7 = pl s.t.k s.t.n (.slice ak s.t.len ck) ∧ t11 = .slice a s.f.length c ∧ t15 = .slice a' s.d.length c'
  c11 : L.getD 11 false = true → L.getD 2 false = true ∧ L.getD 6 false = true ∧ L.getD 10 false = true
  c13 : L.getD 13 false = true → L.getD 11 false = true ∧ L.getD 12 false = true
variable {s : SS} {A N : Nat} {a0 a2 a3 : Option Addr} {c0 c2 c3 : Nat} {L : Array Bool} {W W' : World} {t3 t5 t6 t7 t8 t9 t10 t11 t12 t13 t14 t15 t16 : Value}
theorem CopS.keep (h : CopS s A N a0 a2 a3 c0 c2 c3 L W t3 t5 t6 t7 t8 t9 t10 t11 t12 t13 t14 t15 t16) (hb : Below W.heap.size W W') : CopS s A N a0 a2 a3 c0 c2 c3 L W' t3 t5 t6 t7 t8 t9 t10 t11 t12 t13 t14 t15 t16 where
  s0 := h.s0
  s1 := h.s1
  s2 := fun e => by obtain ⟨ak, ck, h1, h2⟩ := h.s2 e; exact ⟨ak, ck, h1, h2.keep hb⟩
  s3 := fun e e2 => by obtain ⟨q, h1, h2, h3⟩ := h.s3 e e2; exact ⟨q, h1, h2, h3.keep hb⟩
  s4 := h.s4
  s5 := h.s5
  s6 := fun e => by obtain ⟨x, y, h1, h2⟩ := h.s6 e; exact ⟨x, y, h1, own_keep h2 hb⟩
  s7 := fun e e2 => by obtain ⟨q, h1, h2, h3⟩ := h.s7 e e2; exact ⟨q, h1, h2, h3.keep hb⟩
  s8 := h.s8
  s9 := h.s9
  s10 := fun e => by obtain ⟨x, y, h1, h2⟩ := h.s10 e; exact ⟨x, y, h1, own_keep h2 hb⟩
  s11 := h.s11
  s12 := fun e e2 => by obtain ⟨q, h1, h2, h3⟩ := h.s12 e e2; exact ⟨q, h1, h2, h3.keep hb⟩
  s13 := fun e => by obtain ⟨q, ak, ck, x, y, x', y', h1, h2, h3, h4⟩ := h.s13 e; exact ⟨q, ak, ck, x, y, x', y', h1, h2, h3.keep hb, h4⟩
  c11 := h.c11
  c13 := h.c13
theorem getD_up {L : Array Bool} {i j : Nat} (h : L.getD j false = true) : (L.setIfInBounds i true).getD j false = true := by
  simp only [Array.getD_eq_getD_getElem?, Array.getElem?_setIfInBounds] at h ⊢
  by_cases e : i = j
  · subst e
    by_cases hl : i < L.size
    · simp [hl]
    · simp [Array.getElem?_eq_none (show L.size ≤ i by omega)] at h
  · rw [if_neg e]; exact h
theorem getD_no {L : Array Bool} {j : Nat} (h : L.getD j false = true) (h' : L.getD j true = false) : False := by
  simp only [Array.getD_eq_getD_getElem?] at h h'
  cases e : L[j]? <;> simp [e] at h h'
  rw [h] at h'; cases h'
theorem ptr_ne {q g : Nat} (h : q ≠ g) (e : Value.pointer (some ⟨q, 0, none⟩) = .pointer (some ⟨g, 0, none⟩)) : False := h (congrArg Addr.block (Option.some.inj (Value.pointer.inj e)))
theorem getD_here {L : Array Bool} {i : Nat} {b : Bool} (h : i < L.size) : (L.setIfInBounds i true).getD i b = true := by
  simp [Array.getD_eq_getD_getElem?, h]
theorem CopS.put0 {u : Value} (h : CopS s A N a0 a2 a3 c0 c2 c3 L W t3 t5 t6 t7 t8 t9 t10 t11 t12 t13 t14 t15 t16) (hu : u = .pointer (some ⟨A, 0, none⟩)) : CopS s A N a0 a2 a3 c0 c2 c3 (L.setIfInBounds 0 true) W t3 u t6 t7 t8 t9 t10 t11 t12 t13 t14 t15 t16 where
  s0 := fun _ => hu
  s1 := fun e => h.s1 (getD_set (by decide) e)
  s2 := fun e => by obtain ⟨ak, ck, h1, h2⟩ := h.s2 (getD_set (by decide) e); exact ⟨ak, ck, h1, h2.wk fun g hg => ⟨hg.1, fun e3 => hg.2 (getD_set (by decide) e3)⟩⟩
  s3 := fun e e2 => h.s3 (getD_set (by decide) e) (getD_setT (by decide) e2)
  s4 := fun e => h.s4 (getD_set (by decide) e)
  s5 := fun e => h.s5 (getD_set (by decide) e)
  s6 := fun e => h.s6 (getD_set (by decide) e)
  s7 := fun e e2 => h.s7 (getD_set (by decide) e) (getD_setT (by decide) e2)
  s8 := fun e => h.s8 (getD_set (by decide) e)
  s9 := fun e => h.s9 (getD_set (by decide) e)
  s10 := fun e => h.s10 (getD_set (by decide) e)
  s11 := fun e => h.s11 (getD_set (by decide) e)
  s12 := fun e e2 => h.s12 (getD_set (by decide) e) (getD_setT (by decide) e2)
  s13 := fun e => h.s13 (getD_set (by decide) e)
  c11 := fun e => by obtain ⟨x1, x2, x3⟩ := h.c11 (getD_set (by decide) e); exact ⟨getD_up x1, getD_up x2, getD_up x3⟩
  c13 := fun e => by obtain ⟨x1, x2⟩ := h.c13 (getD_set (by decide) e); exact ⟨getD_up x1, getD_up x2⟩
theorem CopS.put1 {u : Value} (h : CopS s A N a0 a2 a3 c0 c2 c3 L W t3 t5 t6 t7 t8 t9 t10 t11 t12 t13 t14 t15 t16) (hu : u = pl s.t.k s.t.n (.slice a0 s.t.len c0)) : CopS s A N a0 a2 a3 c0 c2 c3 (L.setIfInBounds 1 true) W t3 t5 u t7 t8 t9 t10 t11 t12 t13 t14 t15 t16 where
  s0 := fun e => h.s0 (getD_set (by decide) e)
  s1 := fun _ => hu
  s2 := fun e => by obtain ⟨ak, ck, h1, h2⟩ := h.s2 (getD_set (by decide) e); exact ⟨ak, ck, h1, h2.wk fun g hg => ⟨hg.1, fun e3 => hg.2 (getD_set (by decide) e3)⟩⟩
  s3 := fun e e2 => h.s3 (getD_set (by decide) e) (getD_setT (by decide) e2)
  s4 := fun e => h.s4 (getD_set (by decide) e)
  s5 := fun e => h.s5 (getD_set (by decide) e)
  s6 := fun e => h.s6 (getD_set (by decide) e)
  s7 := fun e e2 => h.s7 (getD_set (by decide) e) (getD_setT (by decide) e2)
  s8 := fun e => h.s8 (getD_set (by decide) e)
  s9 := fun e => h.s9 (getD_set (by decide) e)
  s10 := fun e => h.s10 (getD_set (by decide) e)
  s11 := fun e => h.s11 (getD_set (by decide) e)
  s12 := fun e e2 => h.s12 (getD_set (by decide) e) (getD_setT (by decide) e2)
  s13 := fun e => h.s13 (getD_set (by decide) e)
  c11 := fun e => by obtain ⟨x1, x2, x3⟩ := h.c11 (getD_set (by decide) e); exact ⟨getD_up x1, getD_up x2, getD_up x3⟩
  c13 := fun e => by obtain ⟨x1, x2⟩ := h.c13 (getD_set (by decide) e); exact ⟨getD_up x1, getD_up x2⟩
theorem CopS.put4 {u : Value} (h : CopS s A N a0 a2 a3 c0 c2 c3 L W t3 t5 t6 t7 t8 t9 t10 t11 t12 t13 t14 t15 t16) (hu : u = .pointer (some ⟨A, 4, none⟩)) : CopS s A N a0 a2 a3 c0 c2 c3 (L.setIfInBounds 4 true) W t3 t5 t6 t7 t8 u t10 t11 t12 t13 t14 t15 t16 where
  s0 := fun e => h.s0 (getD_set (by decide) e)
  s1 := fun e => h.s1 (getD_set (by decide) e)
  s2 := fun e => by obtain ⟨ak, ck, h1, h2⟩ := h.s2 (getD_set (by decide) e); exact ⟨ak, ck, h1, h2.wk fun g hg => ⟨hg.1, fun e3 => hg.2 (getD_set (by decide) e3)⟩⟩
  s3 := fun e e2 => h.s3 (getD_set (by decide) e) (getD_setT (by decide) e2)
  s4 := fun _ => hu
  s5 := fun e => h.s5 (getD_set (by decide) e)
  s6 := fun e => h.s6 (getD_set (by decide) e)
  s7 := fun e e2 => h.s7 (getD_set (by decide) e) (getD_setT (by decide) e2)
  s8 := fun e => h.s8 (getD_set (by decide) e)
  s9 := fun e => h.s9 (getD_set (by decide) e)
  s10 := fun e => h.s10 (getD_set (by decide) e)
  s11 := fun e => h.s11 (getD_set (by decide) e)
  s12 := fun e e2 => h.s12 (getD_set (by decide) e) (getD_setT (by decide) e2)
  s13 := fun e => h.s13 (getD_set (by decide) e)
  c11 := fun e => by obtain ⟨x1, x2, x3⟩ := h.c11 (getD_set (by decide) e); exact ⟨getD_up x1, getD_up x2, getD_up x3⟩
  c13 := fun e => by obtain ⟨x1, x2⟩ := h.c13 (getD_set (by decide) e); exact ⟨getD_up x1, getD_up x2⟩
theorem CopS.put5 {u : Value} (h : CopS s A N a0 a2 a3 c0 c2 c3 L W t3 t5 t6 t7 t8 t9 t10 t11 t12 t13 t14 t15 t16) (hu : u = .slice a2 s.f.length c2) : CopS s A N a0 a2 a3 c0 c2 c3 (L.setIfInBounds 5 true) W t3 t5 t6 t7 t8 t9 u t11 t12 t13 t14 t15 t16 where
  s0 := fun e => h.s0 (getD_set (by decide) e)
  s1 := fun e => h.s1 (getD_set (by decide) e)
  s2 := fun e => by obtain ⟨ak, ck, h1, h2⟩ := h.s2 (getD_set (by decide) e); exact ⟨ak, ck, h1, h2.wk fun g hg => ⟨hg.1, fun e3 => hg.2 (getD_set (by decide) e3)⟩⟩
  s3 := fun e e2 => h.s3 (getD_set (by decide) e) (getD_setT (by decide) e2)
  s4 := fun e => h.s4 (getD_set (by decide) e)
  s5 := fun _ => hu
  s6 := fun e => h.s6 (getD_set (by decide) e)
  s7 := fun e e2 => h.s7 (getD_set (by decide) e) (getD_setT (by decide) e2)
  s8 := fun e => h.s8 (getD_set (by decide) e)
  s9 := fun e => h.s9 (getD_set (by decide) e)
  s10 := fun e => h.s10 (getD_set (by decide) e)
  s11 := fun e => h.s11 (getD_set (by decide) e)
  s12 := fun e e2 => h.s12 (getD_set (by decide) e) (getD_setT (by decide) e2)
  s13 := fun e => h.s13 (getD_set (by decide) e)
  c11 := fun e => by obtain ⟨x1, x2, x3⟩ := h.c11 (getD_set (by decide) e); exact ⟨getD_up x1, getD_up x2, getD_up x3⟩
  c13 := fun e => by obtain ⟨x1, x2⟩ := h.c13 (getD_set (by decide) e); exact ⟨getD_up x1, getD_up x2⟩
theorem CopS.put8 {u : Value} (h : CopS s A N a0 a2 a3 c0 c2 c3 L W t3 t5 t6 t7 t8 t9 t10 t11 t12 t13 t14 t15 t16) (hu : u = .pointer (some ⟨A, 5, none⟩)) : CopS s A N a0 a2 a3 c0 c2 c3 (L.setIfInBounds 8 true) W t3 t5 t6 t7 t8 t9 t10 t11 t12 u t14 t15 t16 where
  s0 := fun e => h.s0 (getD_set (by decide) e)
  s1 := fun e => h.s1 (getD_set (by decide) e)
  s2 := fun e => by obtain ⟨ak, ck, h1, h2⟩ := h.s2 (getD_set (by decide) e); exact ⟨ak, ck, h1, h2.wk fun g hg => ⟨hg.1, fun e3 => hg.2 (getD_set (by decide) e3)⟩⟩
  s3 := fun e e2 => h.s3 (getD_set (by decide) e) (getD_setT (by decide) e2)
  s4 := fun e => h.s4 (getD_set (by decide) e)
  s5 := fun e => h.s5 (getD_set (by decide) e)
  s6 := fun e => h.s6 (getD_set (by decide) e)
  s7 := fun e e2 => h.s7 (getD_set (by decide) e) (getD_setT (by decide) e2)
  s8 := fun _ => hu
  s9 := fun e => h.s9 (getD_set (by decide) e)
  s10 := fun e => h.s10 (getD_set (by decide) e)
  s11 := fun e => h.s11 (getD_set (by decide) e)
  s12 := fun e e2 => h.s12 (getD_set (by decide) e) (getD_setT (by decide) e2)
  s13 := fun e => h.s13 (getD_set (by decide) e)
  c11 := fun e => by obtain ⟨x1, x2, x3⟩ := h.c11 (getD_set (by decide) e); exact ⟨getD_up x1, getD_up x2, getD_up x3⟩
  c13 := fun e => by obtain ⟨x1, x2⟩ := h.c13 (getD_set (by decide) e); exact ⟨getD_up x1, getD_up x2⟩
theorem CopS.put9 {u : Value} (h : CopS s A N a0 a2 a3 c0 c2 c3 L W t3 t5 t6 t7 t8 t9 t10 t11 t12 t13 t14 t15 t16) (hu : u = .slice a3 s.d.length c3) : CopS s A N a0 a2 a3 c0 c2 c3 (L.setIfInBounds 9 true) W t3 t5 t6 t7 t8 t9 t10 t11 t12 t13 u t15 t16 where
  s0 := fun e => h.s0 (getD_set (by decide) e)
  s1 := fun e => h.s1 (getD_set (by decide) e)
  s2 := fun e => by obtain ⟨ak, ck, h1, h2⟩ := h.s2 (getD_set (by decide) e); exact ⟨ak, ck, h1, h2.wk fun g hg => ⟨hg.1, fun e3 => hg.2 (getD_set (by decide) e3)⟩⟩
  s3 := fun e e2 => h.s3 (getD_set (by decide) e) (getD_setT (by decide) e2)
  s4 := fun e => h.s4 (getD_set (by decide) e)
  s5 := fun e => h.s5 (getD_set (by decide) e)
  s6 := fun e => h.s6 (getD_set (by decide) e)
  s7 := fun e e2 => h.s7 (getD_set (by decide) e) (getD_setT (by decide) e2)
  s8 := fun e => h.s8 (getD_set (by decide) e)
  s9 := fun _ => hu
  s10 := fun e => h.s10 (getD_set (by decide) e)
  s11 := fun e => h.s11 (getD_set (by decide) e)
  s12 := fun e e2 => h.s12 (getD_set (by decide) e) (getD_setT (by decide) e2)
  s13 := fun e => h.s13 (getD_set (by decide) e)
  c11 := fun e => by obtain ⟨x1, x2, x3⟩ := h.c11 (getD_set (by decide) e); exact ⟨getD_up x1, getD_up x2, getD_up x3⟩
  c13 := fun e => by obtain ⟨x1, x2⟩ := h.c13 (getD_set (by decide) e); exact ⟨getD_up x1, getD_up x2⟩
theorem CopS.put2 {u : Value} (hL : L.getD 11 false = true → False) (hL3 : L.getD 13 false = true → False) (h : CopS s A N a0 a2 a3 c0 c2 c3 L W t3 t5 t6 t7 t8 t9 t10 t11 t12 t13 t14 t15 t16) (hu : ∃ ak ck, u = pl s.t.k s.t.n (.slice ak s.t.len ck) ∧ KdP (fun g => N ≤ g ∧ (L.getD 12 false = true → t3 ≠ .pointer (some ⟨g, 0, none⟩))) W s.t (.slice ak s.t.len ck)) : CopS s A N a0 a2 a3 c0 c2 c3 (L.setIfInBounds 2 true) W t3 t5 t6 u t8 t9 t10 t11 t12 t13 t14 t15 t16 where
  s0 := fun e => h.s0 (getD_set (by decide) e)
  s1 := fun e => h.s1 (getD_set (by decide) e)
  s2 := fun _ => by obtain ⟨ak, ck, h1, h2⟩ := hu; exact ⟨ak, ck, h1, h2.wk fun g hg => ⟨hg.1, fun e3 => hg.2 (getD_set (by decide) e3)⟩⟩
  s3 := fun e e2 => h.s3 (getD_set (by decide) e) (getD_setT (by decide) e2)
  s4 := fun e => h.s4 (getD_set (by decide) e)
  s5 := fun e => h.s5 (getD_set (by decide) e)
  s6 := fun e => h.s6 (getD_set (by decide) e)
  s7 := fun e e2 => h.s7 (getD_set (by decide) e) (getD_setT (by decide) e2)
  s8 := fun e => h.s8 (getD_set (by decide) e)
  s9 := fun e => h.s9 (getD_set (by decide) e)
  s10 := fun e => h.s10 (getD_set (by decide) e)
  s11 := fun e => (hL (getD_set (by decide) e)).elim
  s12 := fun e e2 => h.s12 (getD_set (by decide) e) (getD_setT (by decide) e2)
  s13 := fun e => (hL3 (getD_set (by decide) e)).elim
  c11 := fun e => by obtain ⟨x1, x2, x3⟩ := h.c11 (getD_set (by decide) e); exact ⟨getD_up x1, getD_up x2, getD_up x3⟩
  c13 := fun e => by obtain ⟨x1, x2⟩ := h.c13 (getD_set (by decide) e); exact ⟨getD_up x1, getD_up x2⟩
theorem CopS.put3 {q : Nat} (h : CopS s A N a0 a2 a3 c0 c2 c3 L W t3 t5 t6 t7 t8 t9 t10 t11 t12 t13 t14 t15 t16) (hq : N ≤ q) (hb : Bk W q #[] 32) : CopS s A N a0 a2 a3 c0 c2 c3 (L.setIfInBounds 3 true) W t3 t5 t6 t7 (.slice (some ⟨q, 0, none⟩) 0 0) t9 t10 t11 t12 t13 t14 t15 t16 where
  s0 := fun e => h.s0 (getD_set (by decide) e)
  s1 := fun e => h.s1 (getD_set (by decide) e)
  s2 := fun e => by obtain ⟨ak, ck, h1, h2⟩ := h.s2 (getD_set (by decide) e); exact ⟨ak, ck, h1, h2.wk fun g hg => ⟨hg.1, fun e3 => hg.2 (getD_set (by decide) e3)⟩⟩
  s3 := fun _ _ => ⟨q, rfl, hq, hb⟩
  s4 := fun e => h.s4 (getD_set (by decide) e)
  s5 := fun e => h.s5 (getD_set (by decide) e)
  s6 := fun e => h.s6 (getD_set (by decide) e)
  s7 := fun e e2 => h.s7 (getD_set (by decide) e) (getD_setT (by decide) e2)
  s8 := fun e => h.s8 (getD_set (by decide) e)
  s9 := fun e => h.s9 (getD_set (by decide) e)
  s10 := fun e => h.s10 (getD_set (by decide) e)
  s11 := fun e => h.s11 (getD_set (by decide) e)
  s12 := fun e e2 => h.s12 (getD_set (by decide) e) (getD_setT (by decide) e2)
  s13 := fun e => h.s13 (getD_set (by decide) e)
  c11 := fun e => by obtain ⟨x1, x2, x3⟩ := h.c11 (getD_set (by decide) e); exact ⟨getD_up x1, getD_up x2, getD_up x3⟩
  c13 := fun e => by obtain ⟨x1, x2⟩ := h.c13 (getD_set (by decide) e); exact ⟨getD_up x1, getD_up x2⟩
theorem CopS.put7 {q : Nat} (h : CopS s A N a0 a2 a3 c0 c2 c3 L W t3 t5 t6 t7 t8 t9 t10 t11 t12 t13 t14 t15 t16) (hq : N ≤ q) (hb : Bk W q #[] 55) : CopS s A N a0 a2 a3 c0 c2 c3 (L.setIfInBounds 7 true) W t3 t5 t6 t7 t8 t9 t10 t11 (.slice (some ⟨q, 0, none⟩) 0 0) t13 t14 t15 t16 where
  s0 := fun e => h.s0 (getD_set (by decide) e)
  s1 := fun e => h.s1 (getD_set (by decide) e)
  s2 := fun e => by obtain ⟨ak, ck, h1, h2⟩ := h.s2 (getD_set (by decide) e); exact ⟨ak, ck, h1, h2.wk fun g hg => ⟨hg.1, fun e3 => hg.2 (getD_set (by decide) e3)⟩⟩
  s3 := fun e e2 => h.s3 (getD_set (by decide) e) (getD_setT (by decide) e2)
  s4 := fun e => h.s4 (getD_set (by decide) e)
  s5 := fun e => h.s5 (getD_set (by decide) e)
  s6 := fun e => h.s6 (getD_set (by decide) e)
  s7 := fun _ _ => ⟨q, rfl, hq, hb⟩
  s8 := fun e => h.s8 (getD_set (by decide) e)
  s9 := fun e => h.s9 (getD_set (by decide) e)
  s10 := fun e => h.s10 (getD_set (by decide) e)
  s11 := fun e => h.s11 (getD_set (by decide) e)
  s12 := fun e e2 => h.s12 (getD_set (by decide) e) (getD_setT (by decide) e2)
  s13 := fun e => h.s13 (getD_set (by decide) e)
  c11 := fun e => by obtain ⟨x1, x2, x3⟩ := h.c11 (getD_set (by decide) e); exact ⟨getD_up x1, getD_up x2, getD_up x3⟩
  c13 := fun e => by obtain ⟨x1, x2⟩ := h.c13 (getD_set (by decide) e); exact ⟨getD_up x1, getD_up x2⟩
theorem CopS.put6 {q y : Nat} {x : Option Addr} (hLs : L.size = 14) (hL : L.getD 11 false = true → False) (hL3 : L.getD 13 false = true → False) (h : CopS s A N a0 a2 a3 c0 c2 c3 L W t3 t5 t6 t7 t8 t9 t10 t11 t12 t13 t14 t15 t16) (hq : Bk W q #[] 32) (hx : ∀ x, x < W.heap.size → x ≠ q → W'.heap[x]? = W.heap[x]?) (hu : Own W' N (.slice x s.f.length y) s.f) : CopS s A N a0 a2 a3 c0 c2 c3 (L.setIfInBounds 6 true) W' t3 t5 t6 t7 t8 t9 t10 (.slice x s.f.length y) t12 t13 t14 t15 t16 where
  s0 := fun e => h.s0 (getD_set (by decide) e)
  s1 := fun e => h.s1 (getD_set (by decide) e)
  s2 := fun e => by obtain ⟨ak, ck, h1, h2⟩ := h.s2 (getD_set (by decide) e); exact ⟨ak, ck, h1, (h2.noc hq hx).wk fun g hg => ⟨hg.1, fun e3 => hg.2 (getD_set (by decide) e3)⟩⟩
  s3 := fun _ e2 => absurd e2 (by rw [getD_here (by omega)]; decide)
  s4 := fun e => h.s4 (getD_set (by decide) e)
  s5 := fun e => h.s5 (getD_set (by decide) e)
  s6 := fun _ => ⟨x, y, rfl, hu⟩
  s7 := fun e e2 => by obtain ⟨q', h1, h2, h3⟩ := h.s7 (getD_set (by decide) e) (getD_setT (by decide) e2); exact ⟨q', h1, h2, by unfold Bk; rw [hx q' h3.lt (bk_other h3 hq (by decide))]; exact h3⟩
  s8 := fun e => h.s8 (getD_set (by decide) e)
  s9 := fun e => h.s9 (getD_set (by decide) e)
  s10 := fun e => by obtain ⟨x, y, h1, h2⟩ := h.s10 (getD_set (by decide) e); exact ⟨x, y, h1, ownK_at h2 fun b e => hx b (ownK_lt h2 b e) (by obtain ⟨d, hd⟩ := ownR_cells h2 e; exact bk_other hd hq (by decide))⟩
  s11 := fun e => (hL (getD_set (by decide) e)).elim
  s12 := fun e e2 => by obtain ⟨q', h1, h2, h3⟩ := h.s12 (getD_set (by decide) e) (getD_setT (by decide) e2); exact ⟨q', h1, h2, by unfold Bk; rw [hx q' h3.lt (bk_other h3 hq (by decide))]; exact h3⟩
  s13 := fun e => (hL3 (getD_set (by decide) e)).elim
  c11 := fun e => by obtain ⟨x1, x2, x3⟩ := h.c11 (getD_set (by decide) e); exact ⟨getD_up x1, getD_up x2, getD_up x3⟩
  c13 := fun e => by obtain ⟨x1, x2⟩ := h.c13 (getD_set (by decide) e); exact ⟨getD_up x1, getD_up x2⟩
theorem CopS.put10 {q y : Nat} {x : Option Addr} (hLs : L.size = 14) (hL : L.getD 11 false = true → False) (hL3 : L.getD 13 false = true → False) (h : CopS s A N a0 a2 a3 c0 c2 c3 L W t3 t5 t6 t7 t8 t9 t10 t11 t12 t13 t14 t15 t16) (hq : Bk W q #[] 55) (hx : ∀ x, x < W.heap.size → x ≠ q → W'.heap[x]? = W.heap[x]?) (hu : OwnR W' N (.slice x s.d.length y) s.d) : CopS s A N a0 a2 a3 c0 c2 c3 (L.setIfInBounds 10 true) W' t3 t5 t6 t7 t8 t9 t10 t11 t12 t13 t14 (.slice x s.d.length y) t16 where
  s0 := fun e => h.s0 (getD_set (by decide) e)
  s1 := fun e => h.s1 (getD_set (by decide) e)
  s2 := fun e => by obtain ⟨ak, ck, h1, h2⟩ := h.s2 (getD_set (by decide) e); exact ⟨ak, ck, h1, (h2.noc hq hx).wk fun g hg => ⟨hg.1, fun e3 => hg.2 (getD_set (by decide) e3)⟩⟩
  s3 := fun e e2 => by obtain ⟨q', h1, h2, h3⟩ := h.s3 (getD_set (by decide) e) (getD_setT (by decide) e2); exact ⟨q', h1, h2, by unfold Bk; rw [hx q' h3.lt (bk_other h3 hq (by decide))]; exact h3⟩
  s4 := fun e => h.s4 (getD_set (by decide) e)
  s5 := fun e => h.s5 (getD_set (by decide) e)
  s6 := fun e => by obtain ⟨x, y, h1, h2⟩ := h.s6 (getD_set (by decide) e); exact ⟨x, y, h1, ownK_at h2 fun b e => hx b (ownK_lt h2 b e) (by obtain ⟨d, hd⟩ := time_blk h2 e; exact bk_other hd hq (by decide))⟩
  s7 := fun _ e2 => absurd e2 (by rw [getD_here (by omega)]; decide)
  s8 := fun e => h.s8 (getD_set (by decide) e)
  s9 := fun e => h.s9 (getD_set (by decide) e)
  s10 := fun _ => ⟨x, y, rfl, hu⟩
  s11 := fun e => (hL (getD_set (by decide) e)).elim
  s12 := fun e e2 => by obtain ⟨q', h1, h2, h3⟩ := h.s12 (getD_set (by decide) e) (getD_setT (by decide) e2); exact ⟨q', h1, h2, by unfold Bk; rw [hx q' h3.lt (bk_other h3 hq (by decide))]; exact h3⟩
  s13 := fun e => (hL3 (getD_set (by decide) e)).elim
  c11 := fun e => by obtain ⟨x1, x2, x3⟩ := h.c11 (getD_set (by decide) e); exact ⟨getD_up x1, getD_up x2, getD_up x3⟩
  c13 := fun e => by obtain ⟨x1, x2⟩ := h.c13 (getD_set (by decide) e); exact ⟨getD_up x1, getD_up x2⟩
theorem CopS.put11 {u : Value} (hall : L.getD 2 false = true ∧ L.getD 6 false = true ∧ L.getD 10 false = true) (h : CopS s A N a0 a2 a3 c0 c2 c3 L W t3 t5 t6 t7 t8 t9 t10 t11 t12 t13 t14 t15 t16) (hu : ∃ ak ck a c a' c', u = sv s.t.k s.t.n (.slice ak s.t.len ck) nilV (.slice a s.f.length c) (.slice a' s.d.length c') ∧ t7 = pl s.t.k s.t.n (.slice ak s.t.len ck) ∧ t11 = .slice a s.f.length c ∧ t15 = .slice a' s.d.length c') : CopS s A N a0 a2 a3 c0 c2 c3 (L.setIfInBounds 11 true) W t3 t5 t6 t7 t8 t9 t10 t11 t12 t13 t14 t15 u where
  s0 := fun e => h.s0 (getD_set (by decide) e)
  s1 := fun e => h.s1 (getD_set (by decide) e)
  s2 := fun e => by obtain ⟨ak, ck, h1, h2⟩ := h.s2 (getD_set (by decide) e); exact ⟨ak, ck, h1, h2.wk fun g hg => ⟨hg.1, fun e3 => hg.2 (getD_set (by decide) e3)⟩⟩
  s3 := fun e e2 => h.s3 (getD_set (by decide) e) (getD_setT (by decide) e2)
  s4 := fun e => h.s4 (getD_set (by decide) e)
  s5 := fun e => h.s5 (getD_set (by decide) e)
  s6 := fun e => h.s6 (getD_set (by decide) e)
  s7 := fun e e2 => h.s7 (getD_set (by decide) e) (getD_setT (by decide) e2)
  s8 := fun e => h.s8 (getD_set (by decide) e)
  s9 := fun e => h.s9 (getD_set (by decide) e)
  s10 := fun e => h.s10 (getD_set (by decide) e)
  s11 := fun _ => hu
  s12 := fun e e2 => h.s12 (getD_set (by decide) e) (getD_setT (by decide) e2)
  s13 := fun e => h.s13 (getD_set (by decide) e)
  c11 := fun _ => ⟨getD_up hall.1, getD_up hall.2.1, getD_up hall.2.2⟩
  c13 := fun e => by obtain ⟨x1, x2⟩ := h.c13 (getD_set (by decide) e); exact ⟨getD_up x1, getD_up x2⟩
theorem CopS.put12 {q : Nat} (hL3 : L.getD 13 false = true → False) (h : CopS s A N a0 a2 a3 c0 c2 c3 L W t3 t5 t6 t7 t8 t9 t10 t11 t12 t13 t14 t15 t16) (hn : N ≤ q) (hq : Bk W' q #[.int .i64 0, .int .i64 0, .slice none 0 0, .slice none 0 0, .slice none 0 0, .slice none 0 0] 30) (hb : Below W.heap.size W W') (hz : q = W.heap.size) : CopS s A N a0 a2 a3 c0 c2 c3 (L.setIfInBounds 12 true) W' (.pointer (some ⟨q, 0, none⟩)) t5 t6 t7 t8 t9 t10 t11 t12 t13 t14 t15 t16 where
  s0 := fun e => (h.keep hb).s0 (getD_set (by decide) e)
  s1 := fun e => (h.keep hb).s1 (getD_set (by decide) e)
  s2 := fun e => by obtain ⟨ak, ck, h1, h2⟩ := h.s2 (getD_set (by decide) e); exact ⟨ak, ck, h1, h2.move fun g hg hl => ⟨⟨hg.1, fun _ e4 => ptr_ne (by omega) e4⟩, hb.block g hl⟩⟩
  s3 := fun e e2 => (h.keep hb).s3 (getD_set (by decide) e) (getD_setT (by decide) e2)
  s4 := fun e => (h.keep hb).s4 (getD_set (by decide) e)
  s5 := fun e => (h.keep hb).s5 (getD_set (by decide) e)
  s6 := fun e => (h.keep hb).s6 (getD_set (by decide) e)
  s7 := fun e e2 => (h.keep hb).s7 (getD_set (by decide) e) (getD_setT (by decide) e2)
  s8 := fun e => (h.keep hb).s8 (getD_set (by decide) e)
  s9 := fun e => (h.keep hb).s9 (getD_set (by decide) e)
  s10 := fun e => (h.keep hb).s10 (getD_set (by decide) e)
  s11 := fun e => (h.keep hb).s11 (getD_set (by decide) e)
  s12 := fun _ _ => ⟨q, rfl, hn, hq⟩
  s13 := fun e => (hL3 (getD_set (by decide) e)).elim
  c11 := fun e => by obtain ⟨x1, x2, x3⟩ := h.c11 (getD_set (by decide) e); exact ⟨getD_up x1, getD_up x2, getD_up x3⟩
  c13 := fun e => by obtain ⟨x1, x2⟩ := h.c13 (getD_set (by decide) e); exact ⟨getD_up x1, getD_up x2⟩
theorem CopS.put13 {q ck y y' : Nat} {ak x x' : Option Addr} (hLs : L.size = 14) (hl1 : L.getD 11 false = true) (hl2 : L.getD 12 false = true) (h : CopS s A N a0 a2 a3 c0 c2 c3 L W t3 t5 t6 t7 t8 t9 t10 t11 t12 t13 t14 t15 t16) (h3 : t3 = .pointer (some ⟨q, 0, none⟩)) (hn : N ≤ q) (hq : Bk W q #[.int .i64 0, .int .i64 0, .slice none 0 0, .slice none 0 0, .slice none 0 0, .slice none 0 0] 30) (hx : ∀ x, x < W.heap.size → x ≠ q → W'.heap[x]? = W.heap[x]?) (hu : Bk W' q #[.int .i64 s.t.k, .int .i64 s.t.n, .slice ak s.t.len ck, nilV, .slice x s.f.length y, .slice x' s.d.length y'] 30) (e7 : t7 = pl s.t.k s.t.n (.slice ak s.t.len ck)) (e11 : t11 = .slice x s.f.length y) (e15 : t15 = .slice x' s.d.length y') : CopS s A N a0 a2 a3 c0 c2 c3 (L.setIfInBounds 13 true) W' t3 t5 t6 t7 t8 t9 t10 t11 t12 t13 t14 t15 t16 where
  s0 := fun e => h.s0 (getD_set (by decide) e)
  s1 := fun e => h.s1 (getD_set (by decide) e)
  s2 := fun e => by obtain ⟨ak, ck, h1, h2⟩ := h.s2 (getD_set (by decide) e); exact ⟨ak, ck, h1, h2.move fun g hg hl => ⟨⟨hg.1, fun e3 => hg.2 (getD_set (by decide) e3)⟩, hx g hl fun e4 => hg.2 hl2 (by rw [h3, e4])⟩⟩
  s3 := fun e e2 => by obtain ⟨q', h1, h2, h3⟩ := h.s3 (getD_set (by decide) e) (getD_setT (by decide) e2); exact ⟨q', h1, h2, by unfold Bk; rw [hx q' h3.lt (bk_other h3 hq (by decide))]; exact h3⟩
  s4 := fun e => h.s4 (getD_set (by decide) e)
  s5 := fun e => h.s5 (getD_set (by decide) e)
  s6 := fun e => by obtain ⟨x, y, h1, h2⟩ := h.s6 (getD_set (by decide) e); exact ⟨x, y, h1, ownK_at h2 fun b e => hx b (ownK_lt h2 b e) (by obtain ⟨d, hd⟩ := time_blk h2 e; exact bk_other hd hq (by decide))⟩
  s7 := fun e e2 => by obtain ⟨q', h1, h2, h3⟩ := h.s7 (getD_set (by decide) e) (getD_setT (by decide) e2); exact ⟨q', h1, h2, by unfold Bk; rw [hx q' h3.lt (bk_other h3 hq (by decide))]; exact h3⟩
  s8 := fun e => h.s8 (getD_set (by decide) e)
  s9 := fun e => h.s9 (getD_set (by decide) e)
  s10 := fun e => by obtain ⟨x, y, h1, h2⟩ := h.s10 (getD_set (by decide) e); exact ⟨x, y, h1, ownK_at h2 fun b e => hx b (ownK_lt h2 b e) (by obtain ⟨d, hd⟩ := ownR_cells h2 e; exact bk_other hd hq (by decide))⟩
  s11 := fun e => h.s11 (getD_set (by decide) e)
  s12 := fun _ e2 => absurd e2 (by rw [getD_here (by omega)]; decide)
  s13 := fun _ => ⟨q, ak, ck, x, y, x', y', h3, hn, hu, e7, e11, e15⟩
  c11 := fun e => by obtain ⟨x1, x2, x3⟩ := h.c11 (getD_set (by decide) e); exact ⟨getD_up x1, getD_up x2, getD_up x3⟩
  c13 := fun _ => ⟨getD_up hl1, getD_up hl2⟩
end Go.Proofs.YtbdpcngcbnoioaaGreatDoor
