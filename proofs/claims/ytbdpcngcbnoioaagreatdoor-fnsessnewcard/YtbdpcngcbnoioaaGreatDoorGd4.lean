import Derived.Test.YtbdpcngcbnoioaaGreatDoorGd3
import Derived.Test.YtbdpcngcbnoioaaGreatDoorGtX
import Derived.Test.YtbdpcngcbnoioaaGreatDoorGs7
import Derived.Test.YtbdpcngcbnoioaaGreatDoorGb1
import Derived.Test.YtbdpcngcbnoioaaGreatDoorGa1
namespace Go.Proofs.YtbdpcngcbnoioaaGreatDoor
open Go.RowKit
theorem FillK.count {c : Array Value} {L : List It} {n i : Nat} {s : Int × Int} {d : Int} (h : FillK itC 3 c L n) (hi : L[i]? = some (s, d)) (hin : i < n) (hs : i * 3 + 2 < c.size) (d' : Int) :
    FillK itC 3 (c.setIfInBounds (i * 3 + 2) (.int .i64 d')) (L.set i (s, d')) n := by
  intro j x hj hx q hq
  have hil := (List.getElem?_eq_some_iff.1 hi).1
  rw [List.getElem?_set] at hx
  rw [Array.getElem?_setIfInBounds]
  by_cases e : i = j
  · subst e
    rw [if_pos rfl, if_pos hil] at hx
    cases hx
    obtain rfl | hq2 : q = 2 ∨ q ≠ 2 := by omega
    · rw [if_pos rfl, if_pos (by omega)]; rfl
    · rw [if_neg (by omega), h i _ hin hi q hq]
      obtain rfl | rfl : q = 0 ∨ q = 1 := by omega
      all_goals rfl
  · rw [if_neg e] at hx
    rw [if_neg (by omega)]
    exact h j x hj hx q hq
end Go.Proofs.YtbdpcngcbnoioaaGreatDoor
namespace Go.Proofs.YtbdpcngcbnoioaaGreatDoor
open Go.RowKit
abbrev wayA : Array Value := #[.int .i64 0, .int .i64 8, .int .i64 (-1)]
theorem all_listed2 {ops : Array Oper} {L : Array Bool} (hs : L.size = ops.size) (hl : ∀ (i : Nat) (o : Oper), ops[i]? = some o → ∀ e ∈ o.after, Region.binds .any e = true → e.on < i) (hr : Region.ready .any ops L = []) : ∀ j, j < ops.size → L.getD j false = true := by
  intro j
  induction j using Nat.strongRecOn with
  | _ j ih =>
    intro hj
    cases e : L.getD j false
    · exfalso
      have hm : j ∈ Region.ready .any ops L := mem_ready.2 ⟨by
        simp only [Array.getD_eq_getD_getElem?, Array.getElem?_eq_getElem (show j < L.size by omega)] at e ⊢
        exact e, ops[j], Array.getElem?_eq_getElem hj, fun x hx hb => ih x.on (hl j _ (Array.getElem?_eq_getElem hj) x hx hb) (by have := hl j _ (Array.getElem?_eq_getElem hj) x hx hb; omega)⟩
      rw [hr] at hm; cases hm
    · rfl
structure WayS (g : Nat) (o : Value) (L : Array Bool) (W : World) (t13 t14 t15 t16 t17 t18 t2 t3 : Value) : Prop where
  s0 : L.getD 0 false = true → t13 = o
  s1 : L.getD 1 false = true → ∃ b : Nat, b ≠ g ∧ Bk W b wayA 3 ∧ t14 = .slice (some ⟨b, 0, none⟩) 3 3
  s2 : L.getD 2 false = true → t15 = .pointer (some ⟨g, 0, none⟩)
  s3 : L.getD 3 false = true → ∃ j : Nat, j < 3 ∧ t16 = .int .i64 j
  s4 : L.getD 4 false = true → ∃ b j : Nat, b ≠ g ∧ j < 3 ∧ Bk W b wayA 3 ∧ t17 = .pointer (some ⟨b, j, none⟩)
  s5 : L.getD 5 false = true → ∃ V : Int, t18 = .int .i64 V
  s6 : L.getD 6 false = true → t2 = o
  s7 : L.getD 7 false = true → ∃ V : Int, t3 = .int .i64 V
variable {g : Nat} {o : Value} {L : Array Bool} {W W' : World} {t13 t14 t15 t16 t17 t18 t2 t3 : Value}
theorem WayS.keep (h : WayS g o L W t13 t14 t15 t16 t17 t18 t2 t3) (hx : Bx g W W') : WayS g o L W' t13 t14 t15 t16 t17 t18 t2 t3 where
  s0 := h.s0
  s1 := fun e => by obtain ⟨b, h2, h3, h4⟩ := h.s1 e; exact ⟨b, h2, h3.keepx hx h2, h4⟩
  s2 := h.s2
  s3 := h.s3
  s4 := fun e => by obtain ⟨b, j, h2, h3, h4, h5⟩ := h.s4 e; exact ⟨b, j, h2, h3, h4.keepx hx h2, h5⟩
  s5 := h.s5
  s6 := h.s6
  s7 := h.s7
theorem WayS.put0 {u : Value} (h : WayS g o L W t13 t14 t15 t16 t17 t18 t2 t3) (hu : u = o) : WayS g o (L.setIfInBounds 0 true) W u t14 t15 t16 t17 t18 t2 t3 where
  s0 := fun _ => hu
  s1 := fun e => h.s1 (getD_set (by decide) e)
  s2 := fun e => h.s2 (getD_set (by decide) e)
  s3 := fun e => h.s3 (getD_set (by decide) e)
  s4 := fun e => h.s4 (getD_set (by decide) e)
  s5 := fun e => h.s5 (getD_set (by decide) e)
  s6 := fun e => h.s6 (getD_set (by decide) e)
  s7 := fun e => h.s7 (getD_set (by decide) e)
theorem WayS.put1 {u : Value} (h : WayS g o L W t13 t14 t15 t16 t17 t18 t2 t3) (hu : ∃ b : Nat, b ≠ g ∧ Bk W b wayA 3 ∧ u = .slice (some ⟨b, 0, none⟩) 3 3) : WayS g o (L.setIfInBounds 1 true) W t13 u t15 t16 t17 t18 t2 t3 where
  s0 := fun e => h.s0 (getD_set (by decide) e)
  s1 := fun _ => hu
  s2 := fun e => h.s2 (getD_set (by decide) e)
  s3 := fun e => h.s3 (getD_set (by decide) e)
  s4 := fun e => h.s4 (getD_set (by decide) e)
  s5 := fun e => h.s5 (getD_set (by decide) e)
  s6 := fun e => h.s6 (getD_set (by decide) e)
  s7 := fun e => h.s7 (getD_set (by decide) e)
theorem WayS.put2 {u : Value} (h : WayS g o L W t13 t14 t15 t16 t17 t18 t2 t3) (hu : u = .pointer (some ⟨g, 0, none⟩)) : WayS g o (L.setIfInBounds 2 true) W t13 t14 u t16 t17 t18 t2 t3 where
  s0 := fun e => h.s0 (getD_set (by decide) e)
  s1 := fun e => h.s1 (getD_set (by decide) e)
  s2 := fun _ => hu
  s3 := fun e => h.s3 (getD_set (by decide) e)
  s4 := fun e => h.s4 (getD_set (by decide) e)
  s5 := fun e => h.s5 (getD_set (by decide) e)
  s6 := fun e => h.s6 (getD_set (by decide) e)
  s7 := fun e => h.s7 (getD_set (by decide) e)
theorem WayS.put3 {u : Value} (h : WayS g o L W t13 t14 t15 t16 t17 t18 t2 t3) (hu : ∃ j : Nat, j < 3 ∧ u = .int .i64 j) : WayS g o (L.setIfInBounds 3 true) W t13 t14 t15 u t17 t18 t2 t3 where
  s0 := fun e => h.s0 (getD_set (by decide) e)
  s1 := fun e => h.s1 (getD_set (by decide) e)
  s2 := fun e => h.s2 (getD_set (by decide) e)
  s3 := fun _ => hu
  s4 := fun e => h.s4 (getD_set (by decide) e)
  s5 := fun e => h.s5 (getD_set (by decide) e)
  s6 := fun e => h.s6 (getD_set (by decide) e)
  s7 := fun e => h.s7 (getD_set (by decide) e)
theorem WayS.put4 {u : Value} (h : WayS g o L W t13 t14 t15 t16 t17 t18 t2 t3) (hu : ∃ b j : Nat, b ≠ g ∧ j < 3 ∧ Bk W b wayA 3 ∧ u = .pointer (some ⟨b, j, none⟩)) : WayS g o (L.setIfInBounds 4 true) W t13 t14 t15 t16 u t18 t2 t3 where
  s0 := fun e => h.s0 (getD_set (by decide) e)
  s1 := fun e => h.s1 (getD_set (by decide) e)
  s2 := fun e => h.s2 (getD_set (by decide) e)
  s3 := fun e => h.s3 (getD_set (by decide) e)
  s4 := fun _ => hu
  s5 := fun e => h.s5 (getD_set (by decide) e)
  s6 := fun e => h.s6 (getD_set (by decide) e)
  s7 := fun e => h.s7 (getD_set (by decide) e)
theorem WayS.put5 {u : Value} (h : WayS g o L W t13 t14 t15 t16 t17 t18 t2 t3) (hu : ∃ V : Int, u = .int .i64 V) : WayS g o (L.setIfInBounds 5 true) W t13 t14 t15 t16 t17 u t2 t3 where
  s0 := fun e => h.s0 (getD_set (by decide) e)
  s1 := fun e => h.s1 (getD_set (by decide) e)
  s2 := fun e => h.s2 (getD_set (by decide) e)
  s3 := fun e => h.s3 (getD_set (by decide) e)
  s4 := fun e => h.s4 (getD_set (by decide) e)
  s5 := fun _ => hu
  s6 := fun e => h.s6 (getD_set (by decide) e)
  s7 := fun e => h.s7 (getD_set (by decide) e)
theorem WayS.put6 {u : Value} (h : WayS g o L W t13 t14 t15 t16 t17 t18 t2 t3) (hu : u = o) : WayS g o (L.setIfInBounds 6 true) W t13 t14 t15 t16 t17 t18 u t3 where
  s0 := fun e => h.s0 (getD_set (by decide) e)
  s1 := fun e => h.s1 (getD_set (by decide) e)
  s2 := fun e => h.s2 (getD_set (by decide) e)
  s3 := fun e => h.s3 (getD_set (by decide) e)
  s4 := fun e => h.s4 (getD_set (by decide) e)
  s5 := fun e => h.s5 (getD_set (by decide) e)
  s6 := fun _ => hu
  s7 := fun e => h.s7 (getD_set (by decide) e)
theorem WayS.put7 {u : Value} (h : WayS g o L W t13 t14 t15 t16 t17 t18 t2 t3) (hu : ∃ V : Int, u = .int .i64 V) : WayS g o (L.setIfInBounds 7 true) W t13 t14 t15 t16 t17 t18 t2 u where
  s0 := fun e => h.s0 (getD_set (by decide) e)
  s1 := fun e => h.s1 (getD_set (by decide) e)
  s2 := fun e => h.s2 (getD_set (by decide) e)
  s3 := fun e => h.s3 (getD_set (by decide) e)
  s4 := fun e => h.s4 (getD_set (by decide) e)
  s5 := fun e => h.s5 (getD_set (by decide) e)
  s6 := fun e => h.s6 (getD_set (by decide) e)
  s7 := fun _ => hu
end Go.Proofs.YtbdpcngcbnoioaaGreatDoor
namespace Go.Proofs.YtbdpcngcbnoioaaGreatDoor
open Go.RowKit
end Go.Proofs.YtbdpcngcbnoioaaGreatDoor
