import Derived.Test.YtldejkhemkjcgaaGreatDoorGf1
import Derived.Test.YtldejkhemkjcgaaGreatDoorGq3
import Derived.Test.YtldejkhemkjcgaaGreatDoorGlk
import Derived.Test.YtldejkhemkjcgaaGreatDoorGd4
import Derived.Sort.CutIn
import Derived.Test.YtldejkhemkjcgaaGreatDoorGtX
import Derived.Test.YtldejkhemkjcgaaGreatDoorGt10
namespace Go.Proofs.YtldejkhemkjcgaaGreatDoor
open Go.RowKit Go.Shelf
open Go.ChangeMaps (setBlock)
theorem Kx.of_below {N mb : Nat} {W W' : World} (h : Below W.heap.size W W') (hN : N ≤ W.heap.size) : Kx N mb W W' := ⟨h.size, fun k hk _ => h.block k (by omega)⟩
theorem sum_count (s : List It) : countS s = sumK 1 s := by simp [sumK]
theorem sum_once (s : List It) : onceS s = sumK 2 s := by simp [sumK]
theorem sum_least (s : List It) : leastS s = sumK 3 s := by simp [sumK]
structure ChS (kind : Int) (l D : List Rw) (rv fv v : Value) (X Y : Int) (L : Array Bool) (W : World) (t10 t11 t12 t13 t14 t15 t16 t17 t18 : Value) : Prop where
  s0 : L.getD 0 false = true → t10 = v
  s1 : L.getD 1 false = true → t11 = v
  s2 : L.getD 2 false = true → t12 = tv X Y
  s3 : L.getD 3 false = true → t13 = fv
  s4 : L.getD 4 false = true → t14 = rv
  s5 : L.getD 5 false = true → t15 = tv X Y
  s6 : L.getD 6 false = true → Is W t16 (itemsL l X Y)
  s7 : L.getD 7 false = true → Is W t17 (sumK kind (itemsL l X Y))
  s8 : L.getD 8 false = true → Rs W t18 D
theorem ChS.keep {kind : Int} {l D : List Rw} {rv fv v : Value} {X Y : Int} {L : Array Bool} {W W' : World} {t10 t11 t12 t13 t14 t15 t16 t17 t18 : Value} (h : ChS kind l D rv fv v X Y L W t10 t11 t12 t13 t14 t15 t16 t17 t18) (hb : Below W.heap.size W W') : ChS kind l D rv fv v X Y L W' t10 t11 t12 t13 t14 t15 t16 t17 t18 where
  s0 := h.s0
  s1 := h.s1
  s2 := h.s2
  s3 := h.s3
  s4 := h.s4
  s5 := h.s5
  s6 := fun e => (h.s6 e).keep hb
  s7 := fun e => (h.s7 e).keep hb
  s8 := fun e => (h.s8 e).keep hb
theorem ChS.put0 {kind : Int} {l D : List Rw} {rv fv v : Value} {X Y : Int} {L : Array Bool} {W : World} {t10 t11 t12 t13 t14 t15 t16 t17 t18 : Value} {u : Value} (h : ChS kind l D rv fv v X Y L W t10 t11 t12 t13 t14 t15 t16 t17 t18) (hu : u = v) : ChS kind l D rv fv v X Y (L.setIfInBounds 0 true) W u t11 t12 t13 t14 t15 t16 t17 t18 where
  s0 := fun _ => hu
  s1 := fun e => h.s1 (getD_set (by decide) e)
  s2 := fun e => h.s2 (getD_set (by decide) e)
  s3 := fun e => h.s3 (getD_set (by decide) e)
  s4 := fun e => h.s4 (getD_set (by decide) e)
  s5 := fun e => h.s5 (getD_set (by decide) e)
  s6 := fun e => h.s6 (getD_set (by decide) e)
  s7 := fun e => h.s7 (getD_set (by decide) e)
  s8 := fun e => h.s8 (getD_set (by decide) e)
theorem ChS.put1 {kind : Int} {l D : List Rw} {rv fv v : Value} {X Y : Int} {L : Array Bool} {W : World} {t10 t11 t12 t13 t14 t15 t16 t17 t18 : Value} {u : Value} (h : ChS kind l D rv fv v X Y L W t10 t11 t12 t13 t14 t15 t16 t17 t18) (hu : u = v) : ChS kind l D rv fv v X Y (L.setIfInBounds 1 true) W t10 u t12 t13 t14 t15 t16 t17 t18 where
  s0 := fun e => h.s0 (getD_set (by decide) e)
  s1 := fun _ => hu
  s2 := fun e => h.s2 (getD_set (by decide) e)
  s3 := fun e => h.s3 (getD_set (by decide) e)
  s4 := fun e => h.s4 (getD_set (by decide) e)
  s5 := fun e => h.s5 (getD_set (by decide) e)
  s6 := fun e => h.s6 (getD_set (by decide) e)
  s7 := fun e => h.s7 (getD_set (by decide) e)
  s8 := fun e => h.s8 (getD_set (by decide) e)
theorem ChS.put2 {kind : Int} {l D : List Rw} {rv fv v : Value} {X Y : Int} {L : Array Bool} {W : World} {t10 t11 t12 t13 t14 t15 t16 t17 t18 : Value} {u : Value} (h : ChS kind l D rv fv v X Y L W t10 t11 t12 t13 t14 t15 t16 t17 t18) (hu : u = tv X Y) : ChS kind l D rv fv v X Y (L.setIfInBounds 2 true) W t10 t11 u t13 t14 t15 t16 t17 t18 where
  s0 := fun e => h.s0 (getD_set (by decide) e)
  s1 := fun e => h.s1 (getD_set (by decide) e)
  s2 := fun _ => hu
  s3 := fun e => h.s3 (getD_set (by decide) e)
  s4 := fun e => h.s4 (getD_set (by decide) e)
  s5 := fun e => h.s5 (getD_set (by decide) e)
  s6 := fun e => h.s6 (getD_set (by decide) e)
  s7 := fun e => h.s7 (getD_set (by decide) e)
  s8 := fun e => h.s8 (getD_set (by decide) e)
theorem ChS.put3 {kind : Int} {l D : List Rw} {rv fv v : Value} {X Y : Int} {L : Array Bool} {W : World} {t10 t11 t12 t13 t14 t15 t16 t17 t18 : Value} {u : Value} (h : ChS kind l D rv fv v X Y L W t10 t11 t12 t13 t14 t15 t16 t17 t18) (hu : u = fv) : ChS kind l D rv fv v X Y (L.setIfInBounds 3 true) W t10 t11 t12 u t14 t15 t16 t17 t18 where
  s0 := fun e => h.s0 (getD_set (by decide) e)
  s1 := fun e => h.s1 (getD_set (by decide) e)
  s2 := fun e => h.s2 (getD_set (by decide) e)
  s3 := fun _ => hu
  s4 := fun e => h.s4 (getD_set (by decide) e)
  s5 := fun e => h.s5 (getD_set (by decide) e)
  s6 := fun e => h.s6 (getD_set (by decide) e)
  s7 := fun e => h.s7 (getD_set (by decide) e)
  s8 := fun e => h.s8 (getD_set (by decide) e)
theorem ChS.put4 {kind : Int} {l D : List Rw} {rv fv v : Value} {X Y : Int} {L : Array Bool} {W : World} {t10 t11 t12 t13 t14 t15 t16 t17 t18 : Value} {u : Value} (h : ChS kind l D rv fv v X Y L W t10 t11 t12 t13 t14 t15 t16 t17 t18) (hu : u = rv) : ChS kind l D rv fv v X Y (L.setIfInBounds 4 true) W t10 t11 t12 t13 u t15 t16 t17 t18 where
  s0 := fun e => h.s0 (getD_set (by decide) e)
  s1 := fun e => h.s1 (getD_set (by decide) e)
  s2 := fun e => h.s2 (getD_set (by decide) e)
  s3 := fun e => h.s3 (getD_set (by decide) e)
  s4 := fun _ => hu
  s5 := fun e => h.s5 (getD_set (by decide) e)
  s6 := fun e => h.s6 (getD_set (by decide) e)
  s7 := fun e => h.s7 (getD_set (by decide) e)
  s8 := fun e => h.s8 (getD_set (by decide) e)
theorem ChS.put5 {kind : Int} {l D : List Rw} {rv fv v : Value} {X Y : Int} {L : Array Bool} {W : World} {t10 t11 t12 t13 t14 t15 t16 t17 t18 : Value} {u : Value} (h : ChS kind l D rv fv v X Y L W t10 t11 t12 t13 t14 t15 t16 t17 t18) (hu : u = tv X Y) : ChS kind l D rv fv v X Y (L.setIfInBounds 5 true) W t10 t11 t12 t13 t14 u t16 t17 t18 where
  s0 := fun e => h.s0 (getD_set (by decide) e)
  s1 := fun e => h.s1 (getD_set (by decide) e)
  s2 := fun e => h.s2 (getD_set (by decide) e)
  s3 := fun e => h.s3 (getD_set (by decide) e)
  s4 := fun e => h.s4 (getD_set (by decide) e)
  s5 := fun _ => hu
  s6 := fun e => h.s6 (getD_set (by decide) e)
  s7 := fun e => h.s7 (getD_set (by decide) e)
  s8 := fun e => h.s8 (getD_set (by decide) e)
theorem ChS.put6 {kind : Int} {l D : List Rw} {rv fv v : Value} {X Y : Int} {L : Array Bool} {W : World} {t10 t11 t12 t13 t14 t15 t16 t17 t18 : Value} {u : Value} (h : ChS kind l D rv fv v X Y L W t10 t11 t12 t13 t14 t15 t16 t17 t18) (hu : Is W u (itemsL l X Y)) : ChS kind l D rv fv v X Y (L.setIfInBounds 6 true) W t10 t11 t12 t13 t14 t15 u t17 t18 where
  s0 := fun e => h.s0 (getD_set (by decide) e)
  s1 := fun e => h.s1 (getD_set (by decide) e)
  s2 := fun e => h.s2 (getD_set (by decide) e)
  s3 := fun e => h.s3 (getD_set (by decide) e)
  s4 := fun e => h.s4 (getD_set (by decide) e)
  s5 := fun e => h.s5 (getD_set (by decide) e)
  s6 := fun _ => hu
  s7 := fun e => h.s7 (getD_set (by decide) e)
  s8 := fun e => h.s8 (getD_set (by decide) e)
theorem ChS.put7 {kind : Int} {l D : List Rw} {rv fv v : Value} {X Y : Int} {L : Array Bool} {W : World} {t10 t11 t12 t13 t14 t15 t16 t17 t18 : Value} {u : Value} (h : ChS kind l D rv fv v X Y L W t10 t11 t12 t13 t14 t15 t16 t17 t18) (hu : Is W u (sumK kind (itemsL l X Y))) : ChS kind l D rv fv v X Y (L.setIfInBounds 7 true) W t10 t11 t12 t13 t14 t15 t16 u t18 where
  s0 := fun e => h.s0 (getD_set (by decide) e)
  s1 := fun e => h.s1 (getD_set (by decide) e)
  s2 := fun e => h.s2 (getD_set (by decide) e)
  s3 := fun e => h.s3 (getD_set (by decide) e)
  s4 := fun e => h.s4 (getD_set (by decide) e)
  s5 := fun e => h.s5 (getD_set (by decide) e)
  s6 := fun e => h.s6 (getD_set (by decide) e)
  s7 := fun _ => hu
  s8 := fun e => h.s8 (getD_set (by decide) e)
theorem ChS.put8 {kind : Int} {l D : List Rw} {rv fv v : Value} {X Y : Int} {L : Array Bool} {W : World} {t10 t11 t12 t13 t14 t15 t16 t17 t18 : Value} {u : Value} (h : ChS kind l D rv fv v X Y L W t10 t11 t12 t13 t14 t15 t16 t17 t18) (hu : Rs W u D) : ChS kind l D rv fv v X Y (L.setIfInBounds 8 true) W t10 t11 t12 t13 t14 t15 t16 t17 u where
  s0 := fun e => h.s0 (getD_set (by decide) e)
  s1 := fun e => h.s1 (getD_set (by decide) e)
  s2 := fun e => h.s2 (getD_set (by decide) e)
  s3 := fun e => h.s3 (getD_set (by decide) e)
  s4 := fun e => h.s4 (getD_set (by decide) e)
  s5 := fun e => h.s5 (getD_set (by decide) e)
  s6 := fun e => h.s6 (getD_set (by decide) e)
  s7 := fun e => h.s7 (getD_set (by decide) e)
  s8 := fun _ => hu
end Go.Proofs.YtldejkhemkjcgaaGreatDoor
namespace Go.Proofs.YtldejkhemkjcgaaGreatDoor
open Go.RowKit Go.Shelf
open Go.ChangeMaps (setBlock)
attribute [local go_sem] Oper.semAt_some
end Go.Proofs.YtldejkhemkjcgaaGreatDoor
namespace Go.Proofs.YtldejkhemkjcgaaGreatDoor
open Go.RowKit Go.Shelf
set_option maxHeartbeats 2000000 in
theorem sumOf_1 (w : World) : Calls Tryz.prog 91 #[.int .i64 1] w fun e w' => e = .returned (.tuple #[.func (.func 142) #[] #[], .bool true]) ∧ Below w.heap.size w w' := by
  go_enter Tryz.func91, Tryz.ntmps91
  go_wp2_with fail
  refine bodyPost_ret (by simp [results, Tryz.results91, go_sem]; try rfl) rfl ?_
  exact ⟨rfl, Below.refl _ _⟩
set_option maxHeartbeats 2000000 in
theorem sumOf_2 (w : World) : Calls Tryz.prog 91 #[.int .i64 2] w fun e w' => e = .returned (.tuple #[.func (.func 143) #[] #[], .bool true]) ∧ Below w.heap.size w w' := by
  go_enter Tryz.func91, Tryz.ntmps91
  go_wp2_with fail
  refine bodyPost_ret (by simp [results, Tryz.results91, go_sem]; try rfl) rfl ?_
  exact ⟨rfl, Below.refl _ _⟩
set_option maxHeartbeats 2000000 in
theorem sumOf_3 (w : World) : Calls Tryz.prog 91 #[.int .i64 3] w fun e w' => e = .returned (.tuple #[.func (.func 144) #[] #[], .bool true]) ∧ Below w.heap.size w w' := by
  go_enter Tryz.func91, Tryz.ntmps91
  go_wp2_with fail
  refine bodyPost_ret (by simp [results, Tryz.results91, go_sem]; try rfl) rfl ?_
  exact ⟨rfl, Below.refl _ _⟩
structure SumIs (kind : Int) (fn : Nat) : Prop where
  of : ∀ W, Calls Tryz.prog 91 #[.int .i64 kind] W fun e w' => e = .returned (.tuple #[.func (.func fn) #[] #[], .bool true]) ∧ Below W.heap.size W w'
  eg : ∀ args w, (callFunc fn args).run Tryz.prog w = .ok (.enter fn args) w
  sum : ∀ (v : Value) (s : List It) (W : World), Is W v s → Calls Tryz.prog fn #[v] W fun e w' => ∃ o : Value, e = .returned o ∧ OwnI w' W.heap.size o (sumK kind s) ∧ Below W.heap.size W w'
theorem sum_is {kind : Int} (hw : inB kind 1 3 = true) : ∃ fn, SumIs kind fn := by
  have h' : kind = 1 ∨ kind = 2 ∨ kind = 3 := by simp [inB] at hw; omega
  rcases h' with rfl | rfl | rfl
  · exact ⟨142, sumOf_1, enters_of Tryz.func142 (by kernel_rfl) rfl, fun v s W h => by rw [← sum_count]; exact implSetCount_any v s W h⟩
  · exact ⟨143, sumOf_2, enters_of Tryz.func143 (by kernel_rfl) rfl, fun v s W h => by rw [← sum_once]; exact implSetOnce_any v s W h⟩
  · exact ⟨144, sumOf_3, enters_of Tryz.func144 (by kernel_rfl) rfl, fun v s W h => by rw [← sum_least]; exact implSetLeast_any v s W h⟩
end Go.Proofs.YtldejkhemkjcgaaGreatDoor
