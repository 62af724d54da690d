/- Kinds of plans: how each is written, how many parts it has: the contracts. -/
import Derived.Test.YtljbogiecnhgmaaDoorPl0
import Derived.Test.YtljbogiecnhgmaaDoorPl1
import Derived.Test.YtljbogiecnhgmaaDoorIta
import Derived.BigQuiet
namespace Go.Proofs.YtljbogiecnhgmaaDoor
open Go.RowKit Go.Shelf

theorem dec_two (i : Nat) (h : i < 100) : (ByteArray.mk (Lib.decDigits i).toArray).size ≤ 2 := by
  show (Lib.decDigits i).toArray.size ≤ 2
  by_cases h1 : i < 10
  · rw [Lib.decDigits_one h1]; simp
  · rw [Lib.decDigits_two h1 h]; simp
theorem itoa_small {n : Int} (h0 : 0 ≤ n) (h9 : n ≤ 99) (w : World) : Calls Tryd.prog 43 #[.int .i64 n] w fun e w' => (∃ s : ByteArray, e = .returned (.string s) ∧ s.size ≤ 2) ∧ w' = w := by
  obtain ⟨i, rfl⟩ := Int.eq_ofNat_of_zero_le h0
  refine (Any.strconv_Itoa_small itoU i (by omega) w).mono ?_
  rintro e w' ⟨rfl, rfl⟩
  exact ⟨⟨_, rfl, dec_two i (by omega)⟩, rfl⟩
abbrev shV (s : ByteArray) (a b c : Int) : Value := .agg #[.string s, .int .i64 a, .int .i64 b, .int .i64 c]
/-- How a kind is written, how many parts it has, and how far its number goes. -/
def ShapeOf (k : Int) (F : Nat) : Prop := ∀ (n : Int) (w : World), 0 ≤ n → n ≤ 99 → Calls Tryd.prog F #[.int .i64 n] w fun e w' => (∃ s, e = .returned (shV s (kidN k) (numLo k) (numHi k))) ∧ Below w.heap.size w w'
set_option maxRecDepth 100000 in
set_option maxHeartbeats 4000000 in
theorem shape_in : ShapeOf 1 42 := fun n w h0 h9 => by
  go_enter Tryd.func42, Tryd.ntmps42
  go_wp2_with fail
  refine (itoa_small h0 h9 _).mono ?_
  rintro e w1 ⟨⟨s, rfl, hs⟩, rfl⟩
  have hs2 : ¬ (9223372036854775807 < 2 + s.size) := by omega
  go_wp2_with fail
  refine bodyPost_ret (by simp [results, Tryd.results42, go_sem]; try rfl) rfl ?_
  exact ⟨⟨_, rfl⟩, bAlloc (Below.refl _ _) _⟩
set_option maxRecDepth 100000 in
set_option maxHeartbeats 4000000 in
theorem shape_each : ShapeOf 2 57 := fun n w h0 h9 => by
  go_enter Tryd.func57, Tryd.ntmps57
  go_wp2_with fail
  refine (itoa_small h0 h9 _).mono ?_
  rintro e w1 ⟨⟨s, rfl, hs⟩, rfl⟩
  have hs2 : ¬ (9223372036854775807 < 4 + s.size) := by omega
  go_wp2_with fail
  refine bodyPost_ret (by simp [results, Tryd.results57, go_sem]; try rfl) rfl ?_
  exact ⟨⟨_, rfl⟩, bAlloc (Below.refl _ _) _⟩
set_option maxRecDepth 100000 in
set_option maxHeartbeats 4000000 in
theorem shape_sum : ShapeOf 6 61 := fun n w h0 h9 => by
  go_enter Tryd.func61, Tryd.ntmps61
  go_wp2_with fail
  refine (itoa_small h0 h9 _).mono ?_
  rintro e w1 ⟨⟨s, rfl, hs⟩, rfl⟩
  have hs2 : ¬ (9223372036854775807 < 3 + s.size) := by omega
  go_wp2_with fail
  refine bodyPost_ret (by simp [results, Tryd.results61, go_sem]; try rfl) rfl ?_
  exact ⟨⟨_, rfl⟩, bAlloc (Below.refl _ _) _⟩
set_option maxRecDepth 100000 in
theorem shape_both : ShapeOf 3 58 := fun n w _ _ => by
  go_enter Tryd.func58, Tryd.ntmps58
  go_wp2_with fail
  refine bodyPost_ret (by simp [results, Tryd.results58, go_sem]; try rfl) rfl ?_
  exact ⟨⟨_, rfl⟩, bAlloc (Below.refl _ _) _⟩
set_option maxRecDepth 100000 in
theorem shape_less : ShapeOf 4 59 := fun n w _ _ => by
  go_enter Tryd.func59, Tryd.ntmps59
  go_wp2_with fail
  refine bodyPost_ret (by simp [results, Tryd.results59, go_sem]; try rfl) rfl ?_
  exact ⟨⟨_, rfl⟩, bAlloc (Below.refl _ _) _⟩
set_option maxRecDepth 100000 in
theorem shape_join : ShapeOf 5 60 := fun n w _ _ => by
  go_enter Tryd.func60, Tryd.ntmps60
  go_wp2_with fail
  refine bodyPost_ret (by simp [results, Tryd.results60, go_sem]; try rfl) rfl ?_
  exact ⟨⟨_, rfl⟩, bAlloc (Below.refl _ _) _⟩
/-- A kind of plan as a type T of its own, with the function F as its shape. -/
structure KindIs (k : Int) (T F : Nat) : Prop where
  shape : ShapeOf k F
  meth : ∀ (v : Value) (w : World), (Go.method 242 T v "loop.example/tideline/impl.shape").run Tryd.prog w = .ok (F, v) w
  enters : ∀ args w, (callFunc F args).run Tryd.prog w = .ok (.enter F args) w
  kind : ∀ (n : Int) (s : Value) (w : World), Calls Tryd.prog 21 #[pl k n s] w fun e w' => e = .returned (.tuple #[.iface T (.int .i64 n), .nilIface]) ∧ Below w.heap.size w w'
theorem pl_box (w : World) (k n : Int) (s : Value) : Bk (w.alloc (.cells #[.int .i64 k, .int .i64 n, s] 25)) w.heap.size #[.int .i64 k, .int .i64 n, s] 25 := Bk.new _ _ rfl
theorem Bk.three' {w : World} {k : Nat} {x0 x1 x2 : Value} {t : TypeId} (h : Bk w k #[x0, x1, x2] t) : w.cell? ⟨k, 0, none⟩ = some x0 ∧ w.cell? ⟨k, 1, none⟩ = some x1 ∧ w.cell? ⟨k, 2, none⟩ = some x2 := by
  unfold Bk at h; simp [World.cell?, h]
set_option maxRecDepth 100000 in
set_option maxHeartbeats 4000000 in
theorem kind_in : KindIs 1 70 42 where
  shape := shape_in
  meth := fun v w => by kernel_rfl
  enters := enters_of Tryd.func42 (by kernel_rfl) rfl
  kind := fun n s w => by
    obtain ⟨x0, x1, x2⟩ := (pl_box w 1 n s).three'
    go_enter Tryd.func21, Tryd.ntmps21
    go_wp2_with fail
    refine bodyPost_ret (by simp [results, Tryd.results21, go_sem]; try rfl) rfl ?_
    exact ⟨rfl, bAlloc (Below.refl _ _) _⟩
set_option maxRecDepth 100000 in
set_option maxHeartbeats 4000000 in
theorem kind_each : KindIs 2 71 57 where
  shape := shape_each
  meth := fun v w => by kernel_rfl
  enters := enters_of Tryd.func57 (by kernel_rfl) rfl
  kind := fun n s w => by
    obtain ⟨x0, x1, x2⟩ := (pl_box w 2 n s).three'
    go_enter Tryd.func21, Tryd.ntmps21
    go_wp2_with fail
    refine bodyPost_ret (by simp [results, Tryd.results21, go_sem]; try rfl) rfl ?_
    exact ⟨rfl, bAlloc (Below.refl _ _) _⟩
set_option maxRecDepth 100000 in
set_option maxHeartbeats 4000000 in
theorem kind_both : KindIs 3 72 58 where
  shape := shape_both
  meth := fun v w => by kernel_rfl
  enters := enters_of Tryd.func58 (by kernel_rfl) rfl
  kind := fun n s w => by
    obtain ⟨x0, x1, x2⟩ := (pl_box w 3 n s).three'
    go_enter Tryd.func21, Tryd.ntmps21
    go_wp2_with fail
    refine bodyPost_ret (by simp [results, Tryd.results21, go_sem]; try rfl) rfl ?_
    exact ⟨rfl, bAlloc (Below.refl _ _) _⟩
set_option maxRecDepth 100000 in
set_option maxHeartbeats 4000000 in
theorem kind_less : KindIs 4 73 59 where
  shape := shape_less
  meth := fun v w => by kernel_rfl
  enters := enters_of Tryd.func59 (by kernel_rfl) rfl
  kind := fun n s w => by
    obtain ⟨x0, x1, x2⟩ := (pl_box w 4 n s).three'
    go_enter Tryd.func21, Tryd.ntmps21
    go_wp2_with fail
    refine bodyPost_ret (by simp [results, Tryd.results21, go_sem]; try rfl) rfl ?_
    exact ⟨rfl, bAlloc (Below.refl _ _) _⟩
set_option maxRecDepth 100000 in
set_option maxHeartbeats 4000000 in
theorem kind_join : KindIs 5 74 60 where
  shape := shape_join
  meth := fun v w => by kernel_rfl
  enters := enters_of Tryd.func60 (by kernel_rfl) rfl
  kind := fun n s w => by
    obtain ⟨x0, x1, x2⟩ := (pl_box w 5 n s).three'
    go_enter Tryd.func21, Tryd.ntmps21
    go_wp2_with fail
    refine bodyPost_ret (by simp [results, Tryd.results21, go_sem]; try rfl) rfl ?_
    exact ⟨rfl, bAlloc (Below.refl _ _) _⟩
set_option maxRecDepth 100000 in
set_option maxHeartbeats 4000000 in
theorem kind_sum : KindIs 6 75 61 where
  shape := shape_sum
  meth := fun v w => by kernel_rfl
  enters := enters_of Tryd.func61 (by kernel_rfl) rfl
  kind := fun n s w => by
    obtain ⟨x0, x1, x2⟩ := (pl_box w 6 n s).three'
    go_enter Tryd.func21, Tryd.ntmps21
    go_wp2_with fail
    refine bodyPost_ret (by simp [results, Tryd.results21, go_sem]; try rfl) rfl ?_
    exact ⟨rfl, bAlloc (Below.refl _ _) _⟩
set_option maxRecDepth 100000 in
set_option maxHeartbeats 4000000 in
theorem kind_none (ea : Addr) (k n : Int) (s : Value) (w : World) (hk : k < 1 ∨ 6 < k) (hg : w.cell? ⟨0, 0, none⟩ = some (erV ea)) : Calls Tryd.prog 21 #[pl k n s] w fun e w' => e = .returned (.tuple #[.nilIface, erV ea]) ∧ Below w.heap.size w w' := by
  obtain ⟨x0, x1, x2⟩ := (pl_box w k n s).three'
  have n1 : (k == 1) = false := by simp; omega
  have n2 : (k == 2) = false := by simp; omega
  have n3 : (k == 3) = false := by simp; omega
  have n4 : (k == 4) = false := by simp; omega
  have n5 : (k == 5) = false := by simp; omega
  have n6 : (k == 6) = false := by simp; omega
  have hg1 := cell_below (bAlloc (Below.refl w.heap.size w) (.cells #[.int .i64 k, .int .i64 n, s] 25)) hg
  go_enter Tryd.func21, Tryd.ntmps21
  go_wp2_with fail
  go_quiet (fail)
  have hg2 := cell_below (bDrewN (bAlloc (Below.refl w.heap.size w) (.cells #[.int .i64 k, .int .i64 n, s] 25)) nq) hg
  go_wp2_with fail
  refine bodyPost_ret (by simp [results, Tryd.results21, go_sem]; try rfl) rfl ?_
  exact ⟨rfl, bDrewN (bAlloc (Below.refl _ _) _) _⟩
end Go.Proofs.YtljbogiecnhgmaaDoor
