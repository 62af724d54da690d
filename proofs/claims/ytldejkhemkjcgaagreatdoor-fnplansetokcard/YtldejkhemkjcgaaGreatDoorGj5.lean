import Derived.Test.YtldejkhemkjcgaaGreatDoorGe1
import Derived.Test.YtldejkhemkjcgaaGreatDoorGj1
import Derived.Test.YtldejkhemkjcgaaGreatDoorGs7
import Derived.Test.YtldejkhemkjcgaaGreatDoorGa3
import Derived.Deep.RegionHeld3
import Derived.Test.YtldejkhemkjcgaaGreatDoorGa1
import Derived.OrdersIn
import Derived.Test.YtldejkhemkjcgaaGreatDoorGlk
import Derived.Test.YtldejkhemkjcgaaGreatDoorGd4
import Derived.Deep.AppendLies
import Derived.Test.YtldejkhemkjcgaaGreatDoorGk2
namespace Go.Proofs.YtldejkhemkjcgaaGreatDoor
open Go.RowKit
attribute [local go_sem ↓] Go.wp_at_zero Go.wp_at_succ
end Go.Proofs.YtldejkhemkjcgaaGreatDoor
namespace Go.Proofs.YtldejkhemkjcgaaGreatDoor
open Go.RowKit Go.Shelf
attribute [local go_sem] Oper.semAt_some
def arrOf (W : World) (m : Nat) : Option Nat := (W.cell? ⟨m, 0, none⟩).bind Value.ownBlock
structure KpA (m : Nat) (W W' : World) : Prop where
  size : W.heap.size ≤ W'.heap.size
  keep : ∀ (k : Nat) (o : Obj), W.heap[k]? = some o → o.isCells = true → k ≠ m → arrOf W m ≠ some k → W'.heap[k]? = some o
  arr : arrOf W' m = arrOf W m ∨ ∃ q, arrOf W' m = some q ∧ W.heap.size ≤ q ∧ q < W'.heap.size
theorem KpA.trans {m : Nat} {A B C : World} (h : KpA m A B) (k : KpA m B C) : KpA m A C where
  size := Nat.le_trans h.size k.size
  keep i o hi ho hm ha := by
    have hlt := (Array.getElem?_eq_some_iff.1 hi).1
    refine k.keep i o (h.keep i o hi ho hm ha) ho hm ?_
    rcases h.arr with e | ⟨q, e, hq, _⟩
    · rw [e]; exact ha
    · rw [e]; intro e'; cases e'; omega
  arr := by
    rcases k.arr with e | ⟨q, e, hq, hq'⟩
    · rcases h.arr with e1 | ⟨q, e1, hq, hq'⟩
      · exact .inl (e.trans e1)
      · exact .inr ⟨q, e.trans e1, hq, Nat.lt_of_lt_of_le hq' k.size⟩
    · exact .inr ⟨q, e, Nat.le_trans h.size hq, hq'⟩
theorem arrOf_block {m : Nat} {W W' : World} (h : W'.heap[m]? = W.heap[m]?) : arrOf W' m = arrOf W m := by
  unfold arrOf; rw [World.cell?_of_block (w := W) h]
theorem KpA.put {m : Nat} (W : World) (l : Nat) (o o' : Obj) (hm : m < l) (h : W.heap[l]? = some o) (ho : o.isCells = false) : KpA m W (W.putObj l o') := by
  have hg := grownBy_putObj' W l o'
  have hl := (Array.getElem?_eq_some_iff.1 h).1
  refine ⟨hg.size, fun k q hk hq _ _ => ?_, .inl (arrOf_block (hg.block m (by omega) (fun e => by cases e; omega)))⟩
  rw [hg.block k (Array.getElem?_eq_some_iff.1 hk).1 (fun e => by cases e; rw [h] at hk; cases hk; rw [ho] at hq; cases hq)]; exact hk
theorem KpA.bk {m : Nat} {W W' : World} {k : Nat} {c : Array Value} {t : TypeId} (h : KpA m W W') (hb : Bk W k c t) (hk : k ≠ m) (ha : arrOf W m ≠ some k) : Bk W' k c t := h.keep k _ hb rfl hk ha
def Kc (w W : World) : Prop := ∀ (k : Nat) (o : Obj), w.heap[k]? = some o → o.isCells = true → W.heap[k]? = some o
theorem Kc.of_below {w W : World} (h : Below w.heap.size w W) : Kc w W := fun k o hk _ => by rw [h.block k (Array.getElem?_eq_some_iff.1 hk).1]; exact hk
theorem Kc.step {w W W' : World} (h : Kc w W) (hb : Below W.heap.size W W') : Kc w W' := fun k o hk ho => by
  have h1 := h k o hk ho
  rw [hb.block k (Array.getElem?_eq_some_iff.1 h1).1]; exact h1
theorem Kc.cell {w W : World} (h : Kc w W) {g i : Nat} {v : Value} (hc : w.cell? ⟨g, i, none⟩ = some v) : W.cell? ⟨g, i, none⟩ = some v := by
  have hlt := lt_of_cell hc
  have e : w.heap[g]? = some w.heap[g] := Array.getElem?_eq_getElem hlt
  have ho : w.heap[g].isCells = true := by
    unfold World.cell? at hc
    simp only [e] at hc
    revert hc
    cases w.heap[g] <;> simp [Obj.isCells]
  rw [World.cell?_of_block (w := w) ((h g _ e ho).trans e.symm)]; exact hc
theorem KpA.below {m : Nat} {W W' : World} (h : Below W.heap.size W W') (hm : m < W.heap.size) : KpA m W W' :=
  ⟨h.size, fun k _ hk _ _ _ => by rw [h.block k (Array.getElem?_eq_some_iff.1 hk).1]; exact hk, .inl (arrOf_block (h.block m hm))⟩
theorem KpA.grow {m : Nat} {W W1 : World} {v u : Value} {t : TypeId} (hb : Bk W m #[v] t) (hg : W.grownBy W1 v.ownBlock) (hv : v.ownBlock ≠ some m) (hu : u.ownBlock = v.ownBlock ∨ ∃ q, u.ownBlock = some q ∧ W.heap.size ≤ q ∧ q < W1.heap.size) :
    KpA m W (W1.setCell ⟨m, 0, none⟩ u) := by
  have hm := hb.lt
  have e0 : arrOf W m = v.ownBlock := by unfold arrOf; rw [hb.cell (i := 0) (v := v) rfl]; rfl
  have hb1 : Bk W1 m #[v] t := by
    unfold Bk; rw [hg.block m hm (fun e => hv e.symm)]; exact hb
  have hb2 := hb1.set 0 u
  have e1 : arrOf (W1.setCell ⟨m, 0, none⟩ u) m = u.ownBlock := by unfold arrOf; rw [hb2.cell (i := 0) (v := u) (by simp)]; rfl
  have hz : (W1.setCell ⟨m, 0, none⟩ u).heap.size = W1.heap.size := by simp
  refine ⟨by rw [hz]; exact hg.size, fun k o hk _ hkm ha => ?_, ?_⟩
  · rw [Below.heap_setCell _ _ _ _ (show k ≠ (⟨m, 0, none⟩ : Addr).block from hkm), hg.block k (Array.getElem?_eq_some_iff.1 hk).1 (fun e => ha (by rw [e0, e]))]; exact hk
  · rw [e1, e0, hz]; exact hu
end Go.Proofs.YtldejkhemkjcgaaGreatDoor
namespace Go.Proofs.YtldejkhemkjcgaaGreatDoor
open Go.RowKit Go.Shelf
attribute [local go_sem] Oper.semAt_some
end Go.Proofs.YtldejkhemkjcgaaGreatDoor
namespace Go.Proofs.YtldejkhemkjcgaaGreatDoor
open Go.RowKit
end Go.Proofs.YtldejkhemkjcgaaGreatDoor
namespace Go.Proofs.YtldejkhemkjcgaaGreatDoor
open Go.RowKit Go.Shelf
attribute [local go_sem] Oper.semAt_some
structure JnS (b1 b2 : Nat) (v : Value) (K V A B D V2 A2 B2 D2 JA JB : Int) (L : Array Bool) (W : World) (t21 t22 t23 t24 t25 t26 t27 t28 t29 t30 t31 t32 t33 t34 t35 t36 t37 t38 t39 t40 t41 : Value) : Prop where
  s0 : L.getD 0 false = true → t21 = v
  s1 : L.getD 1 false = true → t22 = .pointer (some ⟨b1, 0, none⟩)
  s2 : L.getD 2 false = true → t23 = .int .i64 K
  s3 : L.getD 3 false = true → t24 = .pointer (some ⟨b1, 1, none⟩)
  s4 : L.getD 4 false = true → t25 = .int .i64 V
  s5 : L.getD 5 false = true → t26 = .pointer (some ⟨b2, 1, none⟩)
  s6 : L.getD 6 false = true → t27 = .int .i64 V2
  s7 : L.getD 7 false = true → t28 = .int .i64 (pv V V2)
  s8 : L.getD 8 false = true → t29 = .pointer (some ⟨b1, 2, none⟩)
  s9 : L.getD 9 false = true → t30 = tv A B
  s10 : L.getD 10 false = true → t31 = .pointer (some ⟨b2, 2, none⟩)
  s11 : L.getD 11 false = true → t32 = tv A2 B2
  s12 : L.getD 12 false = true → t33 = tv JA JB
  s13 : L.getD 13 false = true → t34 = .pointer (some ⟨b1, 4, none⟩)
  s14 : L.getD 14 false = true → t35 = .int .i64 D
  s15 : L.getD 15 false = true → t36 = .pointer (some ⟨b2, 4, none⟩)
  s16 : L.getD 16 false = true → t37 = .int .i64 D2
  s17 : L.getD 17 false = true → t38 = .int .i64 (D * D2)
  s18 : L.getD 18 false = true → t39 = rv K (pv V V2) JA JB (D * D2)
  s19 : L.getD 19 false = true → ∃ g : Nat, t40 = .slice (some ⟨g, 0, none⟩) 1 1 ∧ Bk W g #[.int .i64 K, .int .i64 (pv V V2), .int .i64 JA, .int .i64 JB, .int .i64 (D * D2)] 56
variable {b1 b2 : Nat} {v : Value} {K V A B D V2 A2 B2 D2 JA JB : Int} {L : Array Bool} {W W' : World} {t21 t22 t23 t24 t25 t26 t27 t28 t29 t30 t31 t32 t33 t34 t35 t36 t37 t38 t39 t40 t41 : Value}
theorem JnS.keep (h : JnS b1 b2 v K V A B D V2 A2 B2 D2 JA JB L W t21 t22 t23 t24 t25 t26 t27 t28 t29 t30 t31 t32 t33 t34 t35 t36 t37 t38 t39 t40 t41) (hb : Below W.heap.size W W') : JnS b1 b2 v K V A B D V2 A2 B2 D2 JA JB L W' t21 t22 t23 t24 t25 t26 t27 t28 t29 t30 t31 t32 t33 t34 t35 t36 t37 t38 t39 t40 t41 where
  s0 := h.s0
  s1 := h.s1
  s2 := h.s2
  s3 := h.s3
  s4 := h.s4
  s5 := h.s5
  s6 := h.s6
  s7 := h.s7
  s8 := h.s8
  s9 := h.s9
  s10 := h.s10
  s11 := h.s11
  s12 := h.s12
  s13 := h.s13
  s14 := h.s14
  s15 := h.s15
  s16 := h.s16
  s17 := h.s17
  s18 := h.s18
  s19 := fun e => by obtain ⟨g, h1, h2⟩ := h.s19 e; exact ⟨g, h1, h2.keep hb⟩
theorem JnS.put0 {u : Value} (h : JnS b1 b2 v K V A B D V2 A2 B2 D2 JA JB L W t21 t22 t23 t24 t25 t26 t27 t28 t29 t30 t31 t32 t33 t34 t35 t36 t37 t38 t39 t40 t41) (hu : u = v) : JnS b1 b2 v K V A B D V2 A2 B2 D2 JA JB (L.setIfInBounds 0 true) W u t22 t23 t24 t25 t26 t27 t28 t29 t30 t31 t32 t33 t34 t35 t36 t37 t38 t39 t40 t41 where
  s0 := fun _ => hu
  s1 := fun e => h.s1 (getD_set (by decide) e)
  s2 := fun e => h.s2 (getD_set (by decide) e)
  s3 := fun e => h.s3 (getD_set (by decide) e)
  s4 := fun e => h.s4 (getD_set (by decide) e)
  s5 := fun e => h.s5 (getD_set (by decide) e)
  s6 := fun e => h.s6 (getD_set (by decide) e)
  s7 := fun e => h.s7 (getD_set (by decide) e)
  s8 := fun e => h.s8 (getD_set (by decide) e)
  s9 := fun e => h.s9 (getD_set (by decide) e)
  s10 := fun e => h.s10 (getD_set (by decide) e)
  s11 := fun e => h.s11 (getD_set (by decide) e)
  s12 := fun e => h.s12 (getD_set (by decide) e)
  s13 := fun e => h.s13 (getD_set (by decide) e)
  s14 := fun e => h.s14 (getD_set (by decide) e)
  s15 := fun e => h.s15 (getD_set (by decide) e)
  s16 := fun e => h.s16 (getD_set (by decide) e)
  s17 := fun e => h.s17 (getD_set (by decide) e)
  s18 := fun e => h.s18 (getD_set (by decide) e)
  s19 := fun e => h.s19 (getD_set (by decide) e)
theorem JnS.put1 {u : Value} (h : JnS b1 b2 v K V A B D V2 A2 B2 D2 JA JB L W t21 t22 t23 t24 t25 t26 t27 t28 t29 t30 t31 t32 t33 t34 t35 t36 t37 t38 t39 t40 t41) (hu : u = .pointer (some ⟨b1, 0, none⟩)) : JnS b1 b2 v K V A B D V2 A2 B2 D2 JA JB (L.setIfInBounds 1 true) W t21 u t23 t24 t25 t26 t27 t28 t29 t30 t31 t32 t33 t34 t35 t36 t37 t38 t39 t40 t41 where
  s0 := fun e => h.s0 (getD_set (by decide) e)
  s1 := fun _ => hu
  s2 := fun e => h.s2 (getD_set (by decide) e)
  s3 := fun e => h.s3 (getD_set (by decide) e)
  s4 := fun e => h.s4 (getD_set (by decide) e)
  s5 := fun e => h.s5 (getD_set (by decide) e)
  s6 := fun e => h.s6 (getD_set (by decide) e)
  s7 := fun e => h.s7 (getD_set (by decide) e)
  s8 := fun e => h.s8 (getD_set (by decide) e)
  s9 := fun e => h.s9 (getD_set (by decide) e)
  s10 := fun e => h.s10 (getD_set (by decide) e)
  s11 := fun e => h.s11 (getD_set (by decide) e)
  s12 := fun e => h.s12 (getD_set (by decide) e)
  s13 := fun e => h.s13 (getD_set (by decide) e)
  s14 := fun e => h.s14 (getD_set (by decide) e)
  s15 := fun e => h.s15 (getD_set (by decide) e)
  s16 := fun e => h.s16 (getD_set (by decide) e)
  s17 := fun e => h.s17 (getD_set (by decide) e)
  s18 := fun e => h.s18 (getD_set (by decide) e)
  s19 := fun e => h.s19 (getD_set (by decide) e)
theorem JnS.put2 {u : Value} (h : JnS b1 b2 v K V A B D V2 A2 B2 D2 JA JB L W t21 t22 t23 t24 t25 t26 t27 t28 t29 t30 t31 t32 t33 t34 t35 t36 t37 t38 t39 t40 t41) (hu : u = .int .i64 K) : JnS b1 b2 v K V A B D V2 A2 B2 D2 JA JB (L.setIfInBounds 2 true) W t21 t22 u t24 t25 t26 t27 t28 t29 t30 t31 t32 t33 t34 t35 t36 t37 t38 t39 t40 t41 where
  s0 := fun e => h.s0 (getD_set (by decide) e)
  s1 := fun e => h.s1 (getD_set (by decide) e)
  s2 := fun _ => hu
  s3 := fun e => h.s3 (getD_set (by decide) e)
  s4 := fun e => h.s4 (getD_set (by decide) e)
  s5 := fun e => h.s5 (getD_set (by decide) e)
  s6 := fun e => h.s6 (getD_set (by decide) e)
  s7 := fun e => h.s7 (getD_set (by decide) e)
  s8 := fun e => h.s8 (getD_set (by decide) e)
  s9 := fun e => h.s9 (getD_set (by decide) e)
  s10 := fun e => h.s10 (getD_set (by decide) e)
  s11 := fun e => h.s11 (getD_set (by decide) e)
  s12 := fun e => h.s12 (getD_set (by decide) e)
  s13 := fun e => h.s13 (getD_set (by decide) e)
  s14 := fun e => h.s14 (getD_set (by decide) e)
  s15 := fun e => h.s15 (getD_set (by decide) e)
  s16 := fun e => h.s16 (getD_set (by decide) e)
  s17 := fun e => h.s17 (getD_set (by decide) e)
  s18 := fun e => h.s18 (getD_set (by decide) e)
  s19 := fun e => h.s19 (getD_set (by decide) e)
theorem JnS.put3 {u : Value} (h : JnS b1 b2 v K V A B D V2 A2 B2 D2 JA JB L W t21 t22 t23 t24 t25 t26 t27 t28 t29 t30 t31 t32 t33 t34 t35 t36 t37 t38 t39 t40 t41) (hu : u = .pointer (some ⟨b1, 1, none⟩)) : JnS b1 b2 v K V A B D V2 A2 B2 D2 JA JB (L.setIfInBounds 3 true) W t21 t22 t23 u t25 t26 t27 t28 t29 t30 t31 t32 t33 t34 t35 t36 t37 t38 t39 t40 t41 where
  s0 := fun e => h.s0 (getD_set (by decide) e)
  s1 := fun e => h.s1 (getD_set (by decide) e)
  s2 := fun e => h.s2 (getD_set (by decide) e)
  s3 := fun _ => hu
  s4 := fun e => h.s4 (getD_set (by decide) e)
  s5 := fun e => h.s5 (getD_set (by decide) e)
  s6 := fun e => h.s6 (getD_set (by decide) e)
  s7 := fun e => h.s7 (getD_set (by decide) e)
  s8 := fun e => h.s8 (getD_set (by decide) e)
  s9 := fun e => h.s9 (getD_set (by decide) e)
  s10 := fun e => h.s10 (getD_set (by decide) e)
  s11 := fun e => h.s11 (getD_set (by decide) e)
  s12 := fun e => h.s12 (getD_set (by decide) e)
  s13 := fun e => h.s13 (getD_set (by decide) e)
  s14 := fun e => h.s14 (getD_set (by decide) e)
  s15 := fun e => h.s15 (getD_set (by decide) e)
  s16 := fun e => h.s16 (getD_set (by decide) e)
  s17 := fun e => h.s17 (getD_set (by decide) e)
  s18 := fun e => h.s18 (getD_set (by decide) e)
  s19 := fun e => h.s19 (getD_set (by decide) e)
theorem JnS.put4 {u : Value} (h : JnS b1 b2 v K V A B D V2 A2 B2 D2 JA JB L W t21 t22 t23 t24 t25 t26 t27 t28 t29 t30 t31 t32 t33 t34 t35 t36 t37 t38 t39 t40 t41) (hu : u = .int .i64 V) : JnS b1 b2 v K V A B D V2 A2 B2 D2 JA JB (L.setIfInBounds 4 true) W t21 t22 t23 t24 u t26 t27 t28 t29 t30 t31 t32 t33 t34 t35 t36 t37 t38 t39 t40 t41 where
  s0 := fun e => h.s0 (getD_set (by decide) e)
  s1 := fun e => h.s1 (getD_set (by decide) e)
  s2 := fun e => h.s2 (getD_set (by decide) e)
  s3 := fun e => h.s3 (getD_set (by decide) e)
  s4 := fun _ => hu
  s5 := fun e => h.s5 (getD_set (by decide) e)
  s6 := fun e => h.s6 (getD_set (by decide) e)
  s7 := fun e => h.s7 (getD_set (by decide) e)
  s8 := fun e => h.s8 (getD_set (by decide) e)
  s9 := fun e => h.s9 (getD_set (by decide) e)
  s10 := fun e => h.s10 (getD_set (by decide) e)
  s11 := fun e => h.s11 (getD_set (by decide) e)
  s12 := fun e => h.s12 (getD_set (by decide) e)
  s13 := fun e => h.s13 (getD_set (by decide) e)
  s14 := fun e => h.s14 (getD_set (by decide) e)
  s15 := fun e => h.s15 (getD_set (by decide) e)
  s16 := fun e => h.s16 (getD_set (by decide) e)
  s17 := fun e => h.s17 (getD_set (by decide) e)
  s18 := fun e => h.s18 (getD_set (by decide) e)
  s19 := fun e => h.s19 (getD_set (by decide) e)
theorem JnS.put5 {u : Value} (h : JnS b1 b2 v K V A B D V2 A2 B2 D2 JA JB L W t21 t22 t23 t24 t25 t26 t27 t28 t29 t30 t31 t32 t33 t34 t35 t36 t37 t38 t39 t40 t41) (hu : u = .pointer (some ⟨b2, 1, none⟩)) : JnS b1 b2 v K V A B D V2 A2 B2 D2 JA JB (L.setIfInBounds 5 true) W t21 t22 t23 t24 t25 u t27 t28 t29 t30 t31 t32 t33 t34 t35 t36 t37 t38 t39 t40 t41 where
  s0 := fun e => h.s0 (getD_set (by decide) e)
  s1 := fun e => h.s1 (getD_set (by decide) e)
  s2 := fun e => h.s2 (getD_set (by decide) e)
  s3 := fun e => h.s3 (getD_set (by decide) e)
  s4 := fun e => h.s4 (getD_set (by decide) e)
  s5 := fun _ => hu
  s6 := fun e => h.s6 (getD_set (by decide) e)
  s7 := fun e => h.s7 (getD_set (by decide) e)
  s8 := fun e => h.s8 (getD_set (by decide) e)
  s9 := fun e => h.s9 (getD_set (by decide) e)
  s10 := fun e => h.s10 (getD_set (by decide) e)
  s11 := fun e => h.s11 (getD_set (by decide) e)
  s12 := fun e => h.s12 (getD_set (by decide) e)
  s13 := fun e => h.s13 (getD_set (by decide) e)
  s14 := fun e => h.s14 (getD_set (by decide) e)
  s15 := fun e => h.s15 (getD_set (by decide) e)
  s16 := fun e => h.s16 (getD_set (by decide) e)
  s17 := fun e => h.s17 (getD_set (by decide) e)
  s18 := fun e => h.s18 (getD_set (by decide) e)
  s19 := fun e => h.s19 (getD_set (by decide) e)
theorem JnS.put6 {u : Value} (h : JnS b1 b2 v K V A B D V2 A2 B2 D2 JA JB L W t21 t22 t23 t24 t25 t26 t27 t28 t29 t30 t31 t32 t33 t34 t35 t36 t37 t38 t39 t40 t41) (hu : u = .int .i64 V2) : JnS b1 b2 v K V A B D V2 A2 B2 D2 JA JB (L.setIfInBounds 6 true) W t21 t22 t23 t24 t25 t26 u t28 t29 t30 t31 t32 t33 t34 t35 t36 t37 t38 t39 t40 t41 where
  s0 := fun e => h.s0 (getD_set (by decide) e)
  s1 := fun e => h.s1 (getD_set (by decide) e)
  s2 := fun e => h.s2 (getD_set (by decide) e)
  s3 := fun e => h.s3 (getD_set (by decide) e)
  s4 := fun e => h.s4 (getD_set (by decide) e)
  s5 := fun e => h.s5 (getD_set (by decide) e)
  s6 := fun _ => hu
  s7 := fun e => h.s7 (getD_set (by decide) e)
  s8 := fun e => h.s8 (getD_set (by decide) e)
  s9 := fun e => h.s9 (getD_set (by decide) e)
  s10 := fun e => h.s10 (getD_set (by decide) e)
  s11 := fun e => h.s11 (getD_set (by decide) e)
  s12 := fun e => h.s12 (getD_set (by decide) e)
  s13 := fun e => h.s13 (getD_set (by decide) e)
  s14 := fun e => h.s14 (getD_set (by decide) e)
  s15 := fun e => h.s15 (getD_set (by decide) e)
  s16 := fun e => h.s16 (getD_set (by decide) e)
  s17 := fun e => h.s17 (getD_set (by decide) e)
  s18 := fun e => h.s18 (getD_set (by decide) e)
  s19 := fun e => h.s19 (getD_set (by decide) e)
theorem JnS.put7 {u : Value} (h : JnS b1 b2 v K V A B D V2 A2 B2 D2 JA JB L W t21 t22 t23 t24 t25 t26 t27 t28 t29 t30 t31 t32 t33 t34 t35 t36 t37 t38 t39 t40 t41) (hu : u = .int .i64 (pv V V2)) : JnS b1 b2 v K V A B D V2 A2 B2 D2 JA JB (L.setIfInBounds 7 true) W t21 t22 t23 t24 t25 t26 t27 u t29 t30 t31 t32 t33 t34 t35 t36 t37 t38 t39 t40 t41 where
  s0 := fun e => h.s0 (getD_set (by decide) e)
  s1 := fun e => h.s1 (getD_set (by decide) e)
  s2 := fun e => h.s2 (getD_set (by decide) e)
  s3 := fun e => h.s3 (getD_set (by decide) e)
  s4 := fun e => h.s4 (getD_set (by decide) e)
  s5 := fun e => h.s5 (getD_set (by decide) e)
  s6 := fun e => h.s6 (getD_set (by decide) e)
  s7 := fun _ => hu
  s8 := fun e => h.s8 (getD_set (by decide) e)
  s9 := fun e => h.s9 (getD_set (by decide) e)
  s10 := fun e => h.s10 (getD_set (by decide) e)
  s11 := fun e => h.s11 (getD_set (by decide) e)
  s12 := fun e => h.s12 (getD_set (by decide) e)
  s13 := fun e => h.s13 (getD_set (by decide) e)
  s14 := fun e => h.s14 (getD_set (by decide) e)
  s15 := fun e => h.s15 (getD_set (by decide) e)
  s16 := fun e => h.s16 (getD_set (by decide) e)
  s17 := fun e => h.s17 (getD_set (by decide) e)
  s18 := fun e => h.s18 (getD_set (by decide) e)
  s19 := fun e => h.s19 (getD_set (by decide) e)
theorem JnS.put8 {u : Value} (h : JnS b1 b2 v K V A B D V2 A2 B2 D2 JA JB L W t21 t22 t23 t24 t25 t26 t27 t28 t29 t30 t31 t32 t33 t34 t35 t36 t37 t38 t39 t40 t41) (hu : u = .pointer (some ⟨b1, 2, none⟩)) : JnS b1 b2 v K V A B D V2 A2 B2 D2 JA JB (L.setIfInBounds 8 true) W t21 t22 t23 t24 t25 t26 t27 t28 u t30 t31 t32 t33 t34 t35 t36 t37 t38 t39 t40 t41 where
  s0 := fun e => h.s0 (getD_set (by decide) e)
  s1 := fun e => h.s1 (getD_set (by decide) e)
  s2 := fun e => h.s2 (getD_set (by decide) e)
  s3 := fun e => h.s3 (getD_set (by decide) e)
  s4 := fun e => h.s4 (getD_set (by decide) e)
  s5 := fun e => h.s5 (getD_set (by decide) e)
  s6 := fun e => h.s6 (getD_set (by decide) e)
  s7 := fun e => h.s7 (getD_set (by decide) e)
  s8 := fun _ => hu
  s9 := fun e => h.s9 (getD_set (by decide) e)
  s10 := fun e => h.s10 (getD_set (by decide) e)
  s11 := fun e => h.s11 (getD_set (by decide) e)
  s12 := fun e => h.s12 (getD_set (by decide) e)
  s13 := fun e => h.s13 (getD_set (by decide) e)
  s14 := fun e => h.s14 (getD_set (by decide) e)
  s15 := fun e => h.s15 (getD_set (by decide) e)
  s16 := fun e => h.s16 (getD_set (by decide) e)
  s17 := fun e => h.s17 (getD_set (by decide) e)
  s18 := fun e => h.s18 (getD_set (by decide) e)
  s19 := fun e => h.s19 (getD_set (by decide) e)
theorem JnS.put9 {u : Value} (h : JnS b1 b2 v K V A B D V2 A2 B2 D2 JA JB L W t21 t22 t23 t24 t25 t26 t27 t28 t29 t30 t31 t32 t33 t34 t35 t36 t37 t38 t39 t40 t41) (hu : u = tv A B) : JnS b1 b2 v K V A B D V2 A2 B2 D2 JA JB (L.setIfInBounds 9 true) W t21 t22 t23 t24 t25 t26 t27 t28 t29 u t31 t32 t33 t34 t35 t36 t37 t38 t39 t40 t41 where
  s0 := fun e => h.s0 (getD_set (by decide) e)
  s1 := fun e => h.s1 (getD_set (by decide) e)
  s2 := fun e => h.s2 (getD_set (by decide) e)
  s3 := fun e => h.s3 (getD_set (by decide) e)
  s4 := fun e => h.s4 (getD_set (by decide) e)
  s5 := fun e => h.s5 (getD_set (by decide) e)
  s6 := fun e => h.s6 (getD_set (by decide) e)
  s7 := fun e => h.s7 (getD_set (by decide) e)
  s8 := fun e => h.s8 (getD_set (by decide) e)
  s9 := fun _ => hu
  s10 := fun e => h.s10 (getD_set (by decide) e)
  s11 := fun e => h.s11 (getD_set (by decide) e)
  s12 := fun e => h.s12 (getD_set (by decide) e)
  s13 := fun e => h.s13 (getD_set (by decide) e)
  s14 := fun e => h.s14 (getD_set (by decide) e)
  s15 := fun e => h.s15 (getD_set (by decide) e)
  s16 := fun e => h.s16 (getD_set (by decide) e)
  s17 := fun e => h.s17 (getD_set (by decide) e)
  s18 := fun e => h.s18 (getD_set (by decide) e)
  s19 := fun e => h.s19 (getD_set (by decide) e)
theorem JnS.put10 {u : Value} (h : JnS b1 b2 v K V A B D V2 A2 B2 D2 JA JB L W t21 t22 t23 t24 t25 t26 t27 t28 t29 t30 t31 t32 t33 t34 t35 t36 t37 t38 t39 t40 t41) (hu : u = .pointer (some ⟨b2, 2, none⟩)) : JnS b1 b2 v K V A B D V2 A2 B2 D2 JA JB (L.setIfInBounds 10 true) W t21 t22 t23 t24 t25 t26 t27 t28 t29 t30 u t32 t33 t34 t35 t36 t37 t38 t39 t40 t41 where
  s0 := fun e => h.s0 (getD_set (by decide) e)
  s1 := fun e => h.s1 (getD_set (by decide) e)
  s2 := fun e => h.s2 (getD_set (by decide) e)
  s3 := fun e => h.s3 (getD_set (by decide) e)
  s4 := fun e => h.s4 (getD_set (by decide) e)
  s5 := fun e => h.s5 (getD_set (by decide) e)
  s6 := fun e => h.s6 (getD_set (by decide) e)
  s7 := fun e => h.s7 (getD_set (by decide) e)
  s8 := fun e => h.s8 (getD_set (by decide) e)
  s9 := fun e => h.s9 (getD_set (by decide) e)
  s10 := fun _ => hu
  s11 := fun e => h.s11 (getD_set (by decide) e)
  s12 := fun e => h.s12 (getD_set (by decide) e)
  s13 := fun e => h.s13 (getD_set (by decide) e)
  s14 := fun e => h.s14 (getD_set (by decide) e)
  s15 := fun e => h.s15 (getD_set (by decide) e)
  s16 := fun e => h.s16 (getD_set (by decide) e)
  s17 := fun e => h.s17 (getD_set (by decide) e)
  s18 := fun e => h.s18 (getD_set (by decide) e)
  s19 := fun e => h.s19 (getD_set (by decide) e)
theorem JnS.put11 {u : Value} (h : JnS b1 b2 v K V A B D V2 A2 B2 D2 JA JB L W t21 t22 t23 t24 t25 t26 t27 t28 t29 t30 t31 t32 t33 t34 t35 t36 t37 t38 t39 t40 t41) (hu : u = tv A2 B2) : JnS b1 b2 v K V A B D V2 A2 B2 D2 JA JB (L.setIfInBounds 11 true) W t21 t22 t23 t24 t25 t26 t27 t28 t29 t30 t31 u t33 t34 t35 t36 t37 t38 t39 t40 t41 where
  s0 := fun e => h.s0 (getD_set (by decide) e)
  s1 := fun e => h.s1 (getD_set (by decide) e)
  s2 := fun e => h.s2 (getD_set (by decide) e)
  s3 := fun e => h.s3 (getD_set (by decide) e)
  s4 := fun e => h.s4 (getD_set (by decide) e)
  s5 := fun e => h.s5 (getD_set (by decide) e)
  s6 := fun e => h.s6 (getD_set (by decide) e)
  s7 := fun e => h.s7 (getD_set (by decide) e)
  s8 := fun e => h.s8 (getD_set (by decide) e)
  s9 := fun e => h.s9 (getD_set (by decide) e)
  s10 := fun e => h.s10 (getD_set (by decide) e)
  s11 := fun _ => hu
  s12 := fun e => h.s12 (getD_set (by decide) e)
  s13 := fun e => h.s13 (getD_set (by decide) e)
  s14 := fun e => h.s14 (getD_set (by decide) e)
  s15 := fun e => h.s15 (getD_set (by decide) e)
  s16 := fun e => h.s16 (getD_set (by decide) e)
  s17 := fun e => h.s17 (getD_set (by decide) e)
  s18 := fun e => h.s18 (getD_set (by decide) e)
  s19 := fun e => h.s19 (getD_set (by decide) e)
theorem JnS.put12 {u : Value} (h : JnS b1 b2 v K V A B D V2 A2 B2 D2 JA JB L W t21 t22 t23 t24 t25 t26 t27 t28 t29 t30 t31 t32 t33 t34 t35 t36 t37 t38 t39 t40 t41) (hu : u = tv JA JB) : JnS b1 b2 v K V A B D V2 A2 B2 D2 JA JB (L.setIfInBounds 12 true) W t21 t22 t23 t24 t25 t26 t27 t28 t29 t30 t31 t32 u t34 t35 t36 t37 t38 t39 t40 t41 where
  s0 := fun e => h.s0 (getD_set (by decide) e)
  s1 := fun e => h.s1 (getD_set (by decide) e)
  s2 := fun e => h.s2 (getD_set (by decide) e)
  s3 := fun e => h.s3 (getD_set (by decide) e)
  s4 := fun e => h.s4 (getD_set (by decide) e)
  s5 := fun e => h.s5 (getD_set (by decide) e)
  s6 := fun e => h.s6 (getD_set (by decide) e)
  s7 := fun e => h.s7 (getD_set (by decide) e)
  s8 := fun e => h.s8 (getD_set (by decide) e)
  s9 := fun e => h.s9 (getD_set (by decide) e)
  s10 := fun e => h.s10 (getD_set (by decide) e)
  s11 := fun e => h.s11 (getD_set (by decide) e)
  s12 := fun _ => hu
  s13 := fun e => h.s13 (getD_set (by decide) e)
  s14 := fun e => h.s14 (getD_set (by decide) e)
  s15 := fun e => h.s15 (getD_set (by decide) e)
  s16 := fun e => h.s16 (getD_set (by decide) e)
  s17 := fun e => h.s17 (getD_set (by decide) e)
  s18 := fun e => h.s18 (getD_set (by decide) e)
  s19 := fun e => h.s19 (getD_set (by decide) e)
theorem JnS.put13 {u : Value} (h : JnS b1 b2 v K V A B D V2 A2 B2 D2 JA JB L W t21 t22 t23 t24 t25 t26 t27 t28 t29 t30 t31 t32 t33 t34 t35 t36 t37 t38 t39 t40 t41) (hu : u = .pointer (some ⟨b1, 4, none⟩)) : JnS b1 b2 v K V A B D V2 A2 B2 D2 JA JB (L.setIfInBounds 13 true) W t21 t22 t23 t24 t25 t26 t27 t28 t29 t30 t31 t32 t33 u t35 t36 t37 t38 t39 t40 t41 where
  s0 := fun e => h.s0 (getD_set (by decide) e)
  s1 := fun e => h.s1 (getD_set (by decide) e)
  s2 := fun e => h.s2 (getD_set (by decide) e)
  s3 := fun e => h.s3 (getD_set (by decide) e)
  s4 := fun e => h.s4 (getD_set (by decide) e)
  s5 := fun e => h.s5 (getD_set (by decide) e)
  s6 := fun e => h.s6 (getD_set (by decide) e)
  s7 := fun e => h.s7 (getD_set (by decide) e)
  s8 := fun e => h.s8 (getD_set (by decide) e)
  s9 := fun e => h.s9 (getD_set (by decide) e)
  s10 := fun e => h.s10 (getD_set (by decide) e)
  s11 := fun e => h.s11 (getD_set (by decide) e)
  s12 := fun e => h.s12 (getD_set (by decide) e)
  s13 := fun _ => hu
  s14 := fun e => h.s14 (getD_set (by decide) e)
  s15 := fun e => h.s15 (getD_set (by decide) e)
  s16 := fun e => h.s16 (getD_set (by decide) e)
  s17 := fun e => h.s17 (getD_set (by decide) e)
  s18 := fun e => h.s18 (getD_set (by decide) e)
  s19 := fun e => h.s19 (getD_set (by decide) e)
theorem JnS.put14 {u : Value} (h : JnS b1 b2 v K V A B D V2 A2 B2 D2 JA JB L W t21 t22 t23 t24 t25 t26 t27 t28 t29 t30 t31 t32 t33 t34 t35 t36 t37 t38 t39 t40 t41) (hu : u = .int .i64 D) : JnS b1 b2 v K V A B D V2 A2 B2 D2 JA JB (L.setIfInBounds 14 true) W t21 t22 t23 t24 t25 t26 t27 t28 t29 t30 t31 t32 t33 t34 u t36 t37 t38 t39 t40 t41 where
  s0 := fun e => h.s0 (getD_set (by decide) e)
  s1 := fun e => h.s1 (getD_set (by decide) e)
  s2 := fun e => h.s2 (getD_set (by decide) e)
  s3 := fun e => h.s3 (getD_set (by decide) e)
  s4 := fun e => h.s4 (getD_set (by decide) e)
  s5 := fun e => h.s5 (getD_set (by decide) e)
  s6 := fun e => h.s6 (getD_set (by decide) e)
  s7 := fun e => h.s7 (getD_set (by decide) e)
  s8 := fun e => h.s8 (getD_set (by decide) e)
  s9 := fun e => h.s9 (getD_set (by decide) e)
  s10 := fun e => h.s10 (getD_set (by decide) e)
  s11 := fun e => h.s11 (getD_set (by decide) e)
  s12 := fun e => h.s12 (getD_set (by decide) e)
  s13 := fun e => h.s13 (getD_set (by decide) e)
  s14 := fun _ => hu
  s15 := fun e => h.s15 (getD_set (by decide) e)
  s16 := fun e => h.s16 (getD_set (by decide) e)
  s17 := fun e => h.s17 (getD_set (by decide) e)
  s18 := fun e => h.s18 (getD_set (by decide) e)
  s19 := fun e => h.s19 (getD_set (by decide) e)
end Go.Proofs.YtldejkhemkjcgaaGreatDoor
namespace Go.Proofs.YtldejkhemkjcgaaGreatDoor
open Go.RowKit Go.Shelf
attribute [local go_sem] Oper.semAt_some
end Go.Proofs.YtldejkhemkjcgaaGreatDoor
namespace Go.Proofs.YtldejkhemkjcgaaGreatDoor
open Go.RowKit
end Go.Proofs.YtldejkhemkjcgaaGreatDoor
