import Derived.Test.YtbdpcngcbnoioaaGreatDoorGb1
import Derived.Test.YtbdpcngcbnoioaaGreatDoorGa6
import Derived.Test.YtbdpcngcbnoioaaGreatDoorGa8
import Derived.Test.YtbdpcngcbnoioaaGreatDoorGa1
import Derived.Deep.RegionHeld3
import Derived.Test.YtbdpcngcbnoioaaGreatDoorGb3
import Derived.Test.YtbdpcngcbnoioaaGreatDoorGs2
import Derived.Test.YtbdpcngcbnoioaaGreatDoorGs7
namespace Go.Proofs.YtbdpcngcbnoioaaGreatDoor
open Go.RowKit
def smR (r : Rw) : Prop := rwOkB r = true ∧ -3 ≤ r.2 ∧ r.2 ≤ 3
abbrev valsA : Array Value := #[.int .i64 0, .int .i64 1, .int .i64 2, .int .i64 3, .int .i64 4, .int .i64 9, .int .i64 10, .int .i64 57, .int .i64 99]
abbrev diffsA : Array Value := #[.int .i64 1, .int .i64 1, .int .i64 1, .int .i64 2, .int .i64 (-1), .int .i64 (-1), .int .i64 3, .int .i64 0]
end Go.Proofs.YtbdpcngcbnoioaaGreatDoor
namespace Go.Proofs.YtbdpcngcbnoioaaGreatDoor
open Go.RowKit
structure RowS (g N : Nat) (L : Array Bool) (W : World) (t3 t4 t5 t6 t7 t8 t9 t10 t11 t12 t13 t14 t15 t16 t17 : Value) : Prop where
  s0 : L.getD 0 false = true → t3 = .pointer (some ⟨g, 0, none⟩)
  s1 : L.getD 1 false = true → ∃ K : Int, 0 ≤ K ∧ K ≤ 3 ∧ t4 = .int .i64 K
  s2 : L.getD 2 false = true → ∃ b : Nat, N ≤ b ∧ b ≠ g ∧ Bk W b valsA 3 ∧ t5 = .slice (some ⟨b, 0, none⟩) 9 9
  s3 : L.getD 3 false = true → t6 = .pointer (some ⟨g, 0, none⟩)
  s4 : L.getD 4 false = true → ∃ j : Nat, j < 9 ∧ t7 = .int .i64 j
  s5 : L.getD 5 false = true → ∃ b j : Nat, N ≤ b ∧ b ≠ g ∧ j < 9 ∧ Bk W b valsA 3 ∧ t8 = .pointer (some ⟨b, j, none⟩)
  s6 : L.getD 6 false = true → ∃ V : Int, 0 ≤ V ∧ V ≤ 99 ∧ t9 = .int .i64 V
  s7 : L.getD 7 false = true → t10 = .pointer (some ⟨g, 0, none⟩)
  s8 : L.getD 8 false = true → ∃ A B : Int, 0 ≤ A ∧ A ≤ 7 ∧ 0 ≤ B ∧ B ≤ 7 ∧ t11 = tv A B
  s9 : L.getD 9 false = true → ∃ b : Nat, N ≤ b ∧ b ≠ g ∧ Bk W b diffsA 3 ∧ t12 = .slice (some ⟨b, 0, none⟩) 8 8
  s10 : L.getD 10 false = true → t13 = .pointer (some ⟨g, 0, none⟩)
  s11 : L.getD 11 false = true → ∃ j : Nat, j < 8 ∧ t14 = .int .i64 j
  s12 : L.getD 12 false = true → ∃ b j : Nat, N ≤ b ∧ b ≠ g ∧ j < 8 ∧ Bk W b diffsA 3 ∧ t15 = .pointer (some ⟨b, j, none⟩)
  s13 : L.getD 13 false = true → ∃ D : Int, -3 ≤ D ∧ D ≤ 3 ∧ t16 = .int .i64 D
  s14 : L.getD 14 false = true → ∃ K V A B D : Int, smR (((K, V), (A, B)), D) ∧ t17 = rv K V A B D
variable {g N : Nat} {L : Array Bool} {W W' : World} {t3 t4 t5 t6 t7 t8 t9 t10 t11 t12 t13 t14 t15 t16 t17 : Value}
theorem RowS.keep (h : RowS g N L W t3 t4 t5 t6 t7 t8 t9 t10 t11 t12 t13 t14 t15 t16 t17) (hx : Bx g W W') : RowS g N L W' t3 t4 t5 t6 t7 t8 t9 t10 t11 t12 t13 t14 t15 t16 t17 where
  s0 := h.s0
  s1 := h.s1
  s2 := fun e => by obtain ⟨b, h1, h2, h3, h4⟩ := h.s2 e; exact ⟨b, h1, h2, h3.keepx hx h2, h4⟩
  s3 := h.s3
  s4 := h.s4
  s5 := fun e => by obtain ⟨b, j, h1, h2, h3, h4, h5⟩ := h.s5 e; exact ⟨b, j, h1, h2, h3, h4.keepx hx h2, h5⟩
  s6 := h.s6
  s7 := h.s7
  s8 := h.s8
  s9 := fun e => by obtain ⟨b, h1, h2, h3, h4⟩ := h.s9 e; exact ⟨b, h1, h2, h3.keepx hx h2, h4⟩
  s10 := h.s10
  s11 := h.s11
  s12 := fun e => by obtain ⟨b, j, h1, h2, h3, h4, h5⟩ := h.s12 e; exact ⟨b, j, h1, h2, h3, h4.keepx hx h2, h5⟩
  s13 := h.s13
  s14 := h.s14
theorem getD_set {L : Array Bool} {i j : Nat} (h : i ≠ j) (e : (L.setIfInBounds i true).getD j false = true) : L.getD j false = true := by
  simp only [Array.getD_eq_getD_getElem?, Array.getElem?_setIfInBounds] at e ⊢
  rw [if_neg h] at e; exact e
theorem RowS.put0 {u : Value} (h : RowS g N L W t3 t4 t5 t6 t7 t8 t9 t10 t11 t12 t13 t14 t15 t16 t17) (hu : u = .pointer (some ⟨g, 0, none⟩)) : RowS g N (L.setIfInBounds 0 true) W u t4 t5 t6 t7 t8 t9 t10 t11 t12 t13 t14 t15 t16 t17 where
  s0 := fun _ => hu
  s1 := fun e => h.s1 (getD_set (by decide) e)
  s2 := fun e => h.s2 (getD_set (by decide) e)
  s3 := fun e => h.s3 (getD_set (by decide) e)
  s4 := fun e => h.s4 (getD_set (by decide) e)
  s5 := fun e => h.s5 (getD_set (by decide) e)
  s6 := fun e => h.s6 (getD_set (by decide) e)
  s7 := fun e => h.s7 (getD_set (by decide) e)
  s8 := fun e => h.s8 (getD_set (by decide) e)
  s9 := fun e => h.s9 (getD_set (by decide) e)
  s10 := fun e => h.s10 (getD_set (by decide) e)
  s11 := fun e => h.s11 (getD_set (by decide) e)
  s12 := fun e => h.s12 (getD_set (by decide) e)
  s13 := fun e => h.s13 (getD_set (by decide) e)
  s14 := fun e => h.s14 (getD_set (by decide) e)
theorem RowS.put1 {u : Value} (h : RowS g N L W t3 t4 t5 t6 t7 t8 t9 t10 t11 t12 t13 t14 t15 t16 t17) (hu : ∃ K : Int, 0 ≤ K ∧ K ≤ 3 ∧ u = .int .i64 K) : RowS g N (L.setIfInBounds 1 true) W t3 u t5 t6 t7 t8 t9 t10 t11 t12 t13 t14 t15 t16 t17 where
  s0 := fun e => h.s0 (getD_set (by decide) e)
  s1 := fun _ => hu
  s2 := fun e => h.s2 (getD_set (by decide) e)
  s3 := fun e => h.s3 (getD_set (by decide) e)
  s4 := fun e => h.s4 (getD_set (by decide) e)
  s5 := fun e => h.s5 (getD_set (by decide) e)
  s6 := fun e => h.s6 (getD_set (by decide) e)
  s7 := fun e => h.s7 (getD_set (by decide) e)
  s8 := fun e => h.s8 (getD_set (by decide) e)
  s9 := fun e => h.s9 (getD_set (by decide) e)
  s10 := fun e => h.s10 (getD_set (by decide) e)
  s11 := fun e => h.s11 (getD_set (by decide) e)
  s12 := fun e => h.s12 (getD_set (by decide) e)
  s13 := fun e => h.s13 (getD_set (by decide) e)
  s14 := fun e => h.s14 (getD_set (by decide) e)
theorem RowS.put2 {u : Value} (h : RowS g N L W t3 t4 t5 t6 t7 t8 t9 t10 t11 t12 t13 t14 t15 t16 t17) (hu : ∃ b : Nat, N ≤ b ∧ b ≠ g ∧ Bk W b valsA 3 ∧ u = .slice (some ⟨b, 0, none⟩) 9 9) : RowS g N (L.setIfInBounds 2 true) W t3 t4 u t6 t7 t8 t9 t10 t11 t12 t13 t14 t15 t16 t17 where
  s0 := fun e => h.s0 (getD_set (by decide) e)
  s1 := fun e => h.s1 (getD_set (by decide) e)
  s2 := fun _ => hu
  s3 := fun e => h.s3 (getD_set (by decide) e)
  s4 := fun e => h.s4 (getD_set (by decide) e)
  s5 := fun e => h.s5 (getD_set (by decide) e)
  s6 := fun e => h.s6 (getD_set (by decide) e)
  s7 := fun e => h.s7 (getD_set (by decide) e)
  s8 := fun e => h.s8 (getD_set (by decide) e)
  s9 := fun e => h.s9 (getD_set (by decide) e)
  s10 := fun e => h.s10 (getD_set (by decide) e)
  s11 := fun e => h.s11 (getD_set (by decide) e)
  s12 := fun e => h.s12 (getD_set (by decide) e)
  s13 := fun e => h.s13 (getD_set (by decide) e)
  s14 := fun e => h.s14 (getD_set (by decide) e)
theorem RowS.put3 {u : Value} (h : RowS g N L W t3 t4 t5 t6 t7 t8 t9 t10 t11 t12 t13 t14 t15 t16 t17) (hu : u = .pointer (some ⟨g, 0, none⟩)) : RowS g N (L.setIfInBounds 3 true) W t3 t4 t5 u t7 t8 t9 t10 t11 t12 t13 t14 t15 t16 t17 where
  s0 := fun e => h.s0 (getD_set (by decide) e)
  s1 := fun e => h.s1 (getD_set (by decide) e)
  s2 := fun e => h.s2 (getD_set (by decide) e)
  s3 := fun _ => hu
  s4 := fun e => h.s4 (getD_set (by decide) e)
  s5 := fun e => h.s5 (getD_set (by decide) e)
  s6 := fun e => h.s6 (getD_set (by decide) e)
  s7 := fun e => h.s7 (getD_set (by decide) e)
  s8 := fun e => h.s8 (getD_set (by decide) e)
  s9 := fun e => h.s9 (getD_set (by decide) e)
  s10 := fun e => h.s10 (getD_set (by decide) e)
  s11 := fun e => h.s11 (getD_set (by decide) e)
  s12 := fun e => h.s12 (getD_set (by decide) e)
  s13 := fun e => h.s13 (getD_set (by decide) e)
  s14 := fun e => h.s14 (getD_set (by decide) e)
theorem RowS.put4 {u : Value} (h : RowS g N L W t3 t4 t5 t6 t7 t8 t9 t10 t11 t12 t13 t14 t15 t16 t17) (hu : ∃ j : Nat, j < 9 ∧ u = .int .i64 j) : RowS g N (L.setIfInBounds 4 true) W t3 t4 t5 t6 u t8 t9 t10 t11 t12 t13 t14 t15 t16 t17 where
  s0 := fun e => h.s0 (getD_set (by decide) e)
  s1 := fun e => h.s1 (getD_set (by decide) e)
  s2 := fun e => h.s2 (getD_set (by decide) e)
  s3 := fun e => h.s3 (getD_set (by decide) e)
  s4 := fun _ => hu
  s5 := fun e => h.s5 (getD_set (by decide) e)
  s6 := fun e => h.s6 (getD_set (by decide) e)
  s7 := fun e => h.s7 (getD_set (by decide) e)
  s8 := fun e => h.s8 (getD_set (by decide) e)
  s9 := fun e => h.s9 (getD_set (by decide) e)
  s10 := fun e => h.s10 (getD_set (by decide) e)
  s11 := fun e => h.s11 (getD_set (by decide) e)
  s12 := fun e => h.s12 (getD_set (by decide) e)
  s13 := fun e => h.s13 (getD_set (by decide) e)
  s14 := fun e => h.s14 (getD_set (by decide) e)
theorem RowS.put5 {u : Value} (h : RowS g N L W t3 t4 t5 t6 t7 t8 t9 t10 t11 t12 t13 t14 t15 t16 t17) (hu : ∃ b j : Nat, N ≤ b ∧ b ≠ g ∧ j < 9 ∧ Bk W b valsA 3 ∧ u = .pointer (some ⟨b, j, none⟩)) : RowS g N (L.setIfInBounds 5 true) W t3 t4 t5 t6 t7 u t9 t10 t11 t12 t13 t14 t15 t16 t17 where
  s0 := fun e => h.s0 (getD_set (by decide) e)
  s1 := fun e => h.s1 (getD_set (by decide) e)
  s2 := fun e => h.s2 (getD_set (by decide) e)
  s3 := fun e => h.s3 (getD_set (by decide) e)
  s4 := fun e => h.s4 (getD_set (by decide) e)
  s5 := fun _ => hu
  s6 := fun e => h.s6 (getD_set (by decide) e)
  s7 := fun e => h.s7 (getD_set (by decide) e)
  s8 := fun e => h.s8 (getD_set (by decide) e)
  s9 := fun e => h.s9 (getD_set (by decide) e)
  s10 := fun e => h.s10 (getD_set (by decide) e)
  s11 := fun e => h.s11 (getD_set (by decide) e)
  s12 := fun e => h.s12 (getD_set (by decide) e)
  s13 := fun e => h.s13 (getD_set (by decide) e)
  s14 := fun e => h.s14 (getD_set (by decide) e)
theorem RowS.put6 {u : Value} (h : RowS g N L W t3 t4 t5 t6 t7 t8 t9 t10 t11 t12 t13 t14 t15 t16 t17) (hu : ∃ V : Int, 0 ≤ V ∧ V ≤ 99 ∧ u = .int .i64 V) : RowS g N (L.setIfInBounds 6 true) W t3 t4 t5 t6 t7 t8 u t10 t11 t12 t13 t14 t15 t16 t17 where
  s0 := fun e => h.s0 (getD_set (by decide) e)
  s1 := fun e => h.s1 (getD_set (by decide) e)
  s2 := fun e => h.s2 (getD_set (by decide) e)
  s3 := fun e => h.s3 (getD_set (by decide) e)
  s4 := fun e => h.s4 (getD_set (by decide) e)
  s5 := fun e => h.s5 (getD_set (by decide) e)
  s6 := fun _ => hu
  s7 := fun e => h.s7 (getD_set (by decide) e)
  s8 := fun e => h.s8 (getD_set (by decide) e)
  s9 := fun e => h.s9 (getD_set (by decide) e)
  s10 := fun e => h.s10 (getD_set (by decide) e)
  s11 := fun e => h.s11 (getD_set (by decide) e)
  s12 := fun e => h.s12 (getD_set (by decide) e)
  s13 := fun e => h.s13 (getD_set (by decide) e)
  s14 := fun e => h.s14 (getD_set (by decide) e)
theorem RowS.put7 {u : Value} (h : RowS g N L W t3 t4 t5 t6 t7 t8 t9 t10 t11 t12 t13 t14 t15 t16 t17) (hu : u = .pointer (some ⟨g, 0, none⟩)) : RowS g N (L.setIfInBounds 7 true) W t3 t4 t5 t6 t7 t8 t9 u t11 t12 t13 t14 t15 t16 t17 where
  s0 := fun e => h.s0 (getD_set (by decide) e)
  s1 := fun e => h.s1 (getD_set (by decide) e)
  s2 := fun e => h.s2 (getD_set (by decide) e)
  s3 := fun e => h.s3 (getD_set (by decide) e)
  s4 := fun e => h.s4 (getD_set (by decide) e)
  s5 := fun e => h.s5 (getD_set (by decide) e)
  s6 := fun e => h.s6 (getD_set (by decide) e)
  s7 := fun _ => hu
  s8 := fun e => h.s8 (getD_set (by decide) e)
  s9 := fun e => h.s9 (getD_set (by decide) e)
  s10 := fun e => h.s10 (getD_set (by decide) e)
  s11 := fun e => h.s11 (getD_set (by decide) e)
  s12 := fun e => h.s12 (getD_set (by decide) e)
  s13 := fun e => h.s13 (getD_set (by decide) e)
  s14 := fun e => h.s14 (getD_set (by decide) e)
theorem RowS.put8 {u : Value} (h : RowS g N L W t3 t4 t5 t6 t7 t8 t9 t10 t11 t12 t13 t14 t15 t16 t17) (hu : ∃ A B : Int, 0 ≤ A ∧ A ≤ 7 ∧ 0 ≤ B ∧ B ≤ 7 ∧ u = tv A B) : RowS g N (L.setIfInBounds 8 true) W t3 t4 t5 t6 t7 t8 t9 t10 u t12 t13 t14 t15 t16 t17 where
  s0 := fun e => h.s0 (getD_set (by decide) e)
  s1 := fun e => h.s1 (getD_set (by decide) e)
  s2 := fun e => h.s2 (getD_set (by decide) e)
  s3 := fun e => h.s3 (getD_set (by decide) e)
  s4 := fun e => h.s4 (getD_set (by decide) e)
  s5 := fun e => h.s5 (getD_set (by decide) e)
  s6 := fun e => h.s6 (getD_set (by decide) e)
  s7 := fun e => h.s7 (getD_set (by decide) e)
  s8 := fun _ => hu
  s9 := fun e => h.s9 (getD_set (by decide) e)
  s10 := fun e => h.s10 (getD_set (by decide) e)
  s11 := fun e => h.s11 (getD_set (by decide) e)
  s12 := fun e => h.s12 (getD_set (by decide) e)
  s13 := fun e => h.s13 (getD_set (by decide) e)
  s14 := fun e => h.s14 (getD_set (by decide) e)
theorem RowS.put9 {u : Value} (h : RowS g N L W t3 t4 t5 t6 t7 t8 t9 t10 t11 t12 t13 t14 t15 t16 t17) (hu : ∃ b : Nat, N ≤ b ∧ b ≠ g ∧ Bk W b diffsA 3 ∧ u = .slice (some ⟨b, 0, none⟩) 8 8) : RowS g N (L.setIfInBounds 9 true) W t3 t4 t5 t6 t7 t8 t9 t10 t11 u t13 t14 t15 t16 t17 where
  s0 := fun e => h.s0 (getD_set (by decide) e)
  s1 := fun e => h.s1 (getD_set (by decide) e)
  s2 := fun e => h.s2 (getD_set (by decide) e)
  s3 := fun e => h.s3 (getD_set (by decide) e)
  s4 := fun e => h.s4 (getD_set (by decide) e)
  s5 := fun e => h.s5 (getD_set (by decide) e)
  s6 := fun e => h.s6 (getD_set (by decide) e)
  s7 := fun e => h.s7 (getD_set (by decide) e)
  s8 := fun e => h.s8 (getD_set (by decide) e)
  s9 := fun _ => hu
  s10 := fun e => h.s10 (getD_set (by decide) e)
  s11 := fun e => h.s11 (getD_set (by decide) e)
  s12 := fun e => h.s12 (getD_set (by decide) e)
  s13 := fun e => h.s13 (getD_set (by decide) e)
  s14 := fun e => h.s14 (getD_set (by decide) e)
theorem RowS.put10 {u : Value} (h : RowS g N L W t3 t4 t5 t6 t7 t8 t9 t10 t11 t12 t13 t14 t15 t16 t17) (hu : u = .pointer (some ⟨g, 0, none⟩)) : RowS g N (L.setIfInBounds 10 true) W t3 t4 t5 t6 t7 t8 t9 t10 t11 t12 u t14 t15 t16 t17 where
  s0 := fun e => h.s0 (getD_set (by decide) e)
  s1 := fun e => h.s1 (getD_set (by decide) e)
  s2 := fun e => h.s2 (getD_set (by decide) e)
  s3 := fun e => h.s3 (getD_set (by decide) e)
  s4 := fun e => h.s4 (getD_set (by decide) e)
  s5 := fun e => h.s5 (getD_set (by decide) e)
  s6 := fun e => h.s6 (getD_set (by decide) e)
  s7 := fun e => h.s7 (getD_set (by decide) e)
  s8 := fun e => h.s8 (getD_set (by decide) e)
  s9 := fun e => h.s9 (getD_set (by decide) e)
  s10 := fun _ => hu
  s11 := fun e => h.s11 (getD_set (by decide) e)
  s12 := fun e => h.s12 (getD_set (by decide) e)
  s13 := fun e => h.s13 (getD_set (by decide) e)
  s14 := fun e => h.s14 (getD_set (by decide) e)
theorem RowS.put11 {u : Value} (h : RowS g N L W t3 t4 t5 t6 t7 t8 t9 t10 t11 t12 t13 t14 t15 t16 t17) (hu : ∃ j : Nat, j < 8 ∧ u = .int .i64 j) : RowS g N (L.setIfInBounds 11 true) W t3 t4 t5 t6 t7 t8 t9 t10 t11 t12 t13 u t15 t16 t17 where
  s0 := fun e => h.s0 (getD_set (by decide) e)
  s1 := fun e => h.s1 (getD_set (by decide) e)
  s2 := fun e => h.s2 (getD_set (by decide) e)
  s3 := fun e => h.s3 (getD_set (by decide) e)
  s4 := fun e => h.s4 (getD_set (by decide) e)
  s5 := fun e => h.s5 (getD_set (by decide) e)
  s6 := fun e => h.s6 (getD_set (by decide) e)
  s7 := fun e => h.s7 (getD_set (by decide) e)
  s8 := fun e => h.s8 (getD_set (by decide) e)
  s9 := fun e => h.s9 (getD_set (by decide) e)
  s10 := fun e => h.s10 (getD_set (by decide) e)
  s11 := fun _ => hu
  s12 := fun e => h.s12 (getD_set (by decide) e)
  s13 := fun e => h.s13 (getD_set (by decide) e)
  s14 := fun e => h.s14 (getD_set (by decide) e)
theorem RowS.put12 {u : Value} (h : RowS g N L W t3 t4 t5 t6 t7 t8 t9 t10 t11 t12 t13 t14 t15 t16 t17) (hu : ∃ b j : Nat, N ≤ b ∧ b ≠ g ∧ j < 8 ∧ Bk W b diffsA 3 ∧ u = .pointer (some ⟨b, j, none⟩)) : RowS g N (L.setIfInBounds 12 true) W t3 t4 t5 t6 t7 t8 t9 t10 t11 t12 t13 t14 u t16 t17 where
  s0 := fun e => h.s0 (getD_set (by decide) e)
  s1 := fun e => h.s1 (getD_set (by decide) e)
  s2 := fun e => h.s2 (getD_set (by decide) e)
  s3 := fun e => h.s3 (getD_set (by decide) e)
  s4 := fun e => h.s4 (getD_set (by decide) e)
  s5 := fun e => h.s5 (getD_set (by decide) e)
  s6 := fun e => h.s6 (getD_set (by decide) e)
  s7 := fun e => h.s7 (getD_set (by decide) e)
  s8 := fun e => h.s8 (getD_set (by decide) e)
  s9 := fun e => h.s9 (getD_set (by decide) e)
  s10 := fun e => h.s10 (getD_set (by decide) e)
  s11 := fun e => h.s11 (getD_set (by decide) e)
  s12 := fun _ => hu
  s13 := fun e => h.s13 (getD_set (by decide) e)
  s14 := fun e => h.s14 (getD_set (by decide) e)
theorem RowS.put13 {u : Value} (h : RowS g N L W t3 t4 t5 t6 t7 t8 t9 t10 t11 t12 t13 t14 t15 t16 t17) (hu : ∃ D : Int, -3 ≤ D ∧ D ≤ 3 ∧ u = .int .i64 D) : RowS g N (L.setIfInBounds 13 true) W t3 t4 t5 t6 t7 t8 t9 t10 t11 t12 t13 t14 t15 u t17 where
  s0 := fun e => h.s0 (getD_set (by decide) e)
  s1 := fun e => h.s1 (getD_set (by decide) e)
  s2 := fun e => h.s2 (getD_set (by decide) e)
  s3 := fun e => h.s3 (getD_set (by decide) e)
  s4 := fun e => h.s4 (getD_set (by decide) e)
  s5 := fun e => h.s5 (getD_set (by decide) e)
  s6 := fun e => h.s6 (getD_set (by decide) e)
  s7 := fun e => h.s7 (getD_set (by decide) e)
  s8 := fun e => h.s8 (getD_set (by decide) e)
  s9 := fun e => h.s9 (getD_set (by decide) e)
  s10 := fun e => h.s10 (getD_set (by decide) e)
  s11 := fun e => h.s11 (getD_set (by decide) e)
  s12 := fun e => h.s12 (getD_set (by decide) e)
  s13 := fun _ => hu
  s14 := fun e => h.s14 (getD_set (by decide) e)
theorem RowS.put14 {u : Value} (h : RowS g N L W t3 t4 t5 t6 t7 t8 t9 t10 t11 t12 t13 t14 t15 t16 t17) (hu : ∃ K V A B D : Int, smR (((K, V), (A, B)), D) ∧ u = rv K V A B D) : RowS g N (L.setIfInBounds 14 true) W t3 t4 t5 t6 t7 t8 t9 t10 t11 t12 t13 t14 t15 t16 u where
  s0 := fun e => h.s0 (getD_set (by decide) e)
  s1 := fun e => h.s1 (getD_set (by decide) e)
  s2 := fun e => h.s2 (getD_set (by decide) e)
  s3 := fun e => h.s3 (getD_set (by decide) e)
  s4 := fun e => h.s4 (getD_set (by decide) e)
  s5 := fun e => h.s5 (getD_set (by decide) e)
  s6 := fun e => h.s6 (getD_set (by decide) e)
  s7 := fun e => h.s7 (getD_set (by decide) e)
  s8 := fun e => h.s8 (getD_set (by decide) e)
  s9 := fun e => h.s9 (getD_set (by decide) e)
  s10 := fun e => h.s10 (getD_set (by decide) e)
  s11 := fun e => h.s11 (getD_set (by decide) e)
  s12 := fun e => h.s12 (getD_set (by decide) e)
  s13 := fun e => h.s13 (getD_set (by decide) e)
  s14 := fun _ => hu
end Go.Proofs.YtbdpcngcbnoioaaGreatDoor
namespace Go.Proofs.YtbdpcngcbnoioaaGreatDoor
open Go.RowKit
theorem RowS.last {g N : Nat} {L : Array Bool} {W W' : World} {t3 t4 t5 t6 t7 t8 t9 t10 t11 t12 t13 t14 t15 t16 t17 : Value} (h : RowS g N L W t3 t4 t5 t6 t7 t8 t9 t10 t11 t12 t13 t14 t15 t16 t17) (hb : ∀ b, N ≤ b → W'.heap[b]? = W.heap[b]?) : RowS g N (L.setIfInBounds 15 true) W' t3 t4 t5 t6 t7 t8 t9 t10 t11 t12 t13 t14 t15 t16 t17 where
  s0 := fun e => h.s0 (getD_set (by decide) e)
  s1 := fun e => h.s1 (getD_set (by decide) e)
  s2 := fun e => by obtain ⟨b, h1, h2, h3, h4⟩ := h.s2 (getD_set (by decide) e); exact ⟨b, h1, h2, by unfold Bk; rw [hb b h1]; exact h3, h4⟩
  s3 := fun e => h.s3 (getD_set (by decide) e)
  s4 := fun e => h.s4 (getD_set (by decide) e)
  s5 := fun e => by obtain ⟨b, j, h1, h2, h3, h4, h5⟩ := h.s5 (getD_set (by decide) e); exact ⟨b, j, h1, h2, h3, by unfold Bk; rw [hb b h1]; exact h4, h5⟩
  s6 := fun e => h.s6 (getD_set (by decide) e)
  s7 := fun e => h.s7 (getD_set (by decide) e)
  s8 := fun e => h.s8 (getD_set (by decide) e)
  s9 := fun e => by obtain ⟨b, h1, h2, h3, h4⟩ := h.s9 (getD_set (by decide) e); exact ⟨b, h1, h2, by unfold Bk; rw [hb b h1]; exact h3, h4⟩
  s10 := fun e => h.s10 (getD_set (by decide) e)
  s11 := fun e => h.s11 (getD_set (by decide) e)
  s12 := fun e => by obtain ⟨b, j, h1, h2, h3, h4, h5⟩ := h.s12 (getD_set (by decide) e); exact ⟨b, j, h1, h2, h3, by unfold Bk; rw [hb b h1]; exact h4, h5⟩
  s13 := fun e => h.s13 (getD_set (by decide) e)
  s14 := fun e => h.s14 (getD_set (by decide) e)
theorem getD_setT {L : Array Bool} {i j : Nat} (h : i ≠ j) (e : (L.setIfInBounds i true).getD j true = false) : L.getD j true = false := by
  simp only [Array.getD_eq_getD_getElem?, Array.getElem?_setIfInBounds] at e ⊢
  rw [if_neg h] at e; exact e
end Go.Proofs.YtbdpcngcbnoioaaGreatDoor
namespace Go.Proofs.YtbdpcngcbnoioaaGreatDoor
open Go.RowKit
end Go.Proofs.YtbdpcngcbnoioaaGreatDoor
namespace Go.Proofs.YtbdpcngcbnoioaaGreatDoor
open Go.RowKit
section
variable {ops : Array Oper} {o : Oper} {a : Act} {Kk : Act → World → Prop} {Q : Exit → Act → World → Prop} {E : Prop}
end
end Go.Proofs.YtbdpcngcbnoioaaGreatDoor
