/- SetEach of the model: the contract. -/
import Derived.Test.YtlddhfimiignaaaGt5
import Derived.Test.YtlddhfimiignaaaGt7
namespace Go.Proofs.Ytlddhfimiignaaa
open Go.RowKit

theorem ret_one {a b c d : Int} {x y : Bool} (h1 : a = c) (h2 : b = d) (h3 : x = y) : Ending.returned (.tuple #[.int .i64 a, .int .i64 b, .bool x]) = .returned (.tuple #[.int .i64 c, .int .i64 d, .bool y]) := by rw [h1, h2, h3]
set_option maxHeartbeats 4000000 in
theorem l3One_1 (K V : Int) (w : World) (hk0 : 0 ≤ K) (hk1 : K ≤ 3) (hv0 : 0 ≤ V) (hv1 : V ≤ 99) :
    Calls Try.prog 112 #[.int .i64 K, .int .i64 V, .int .i64 1] w fun e w' => e = .returned (.tuple #[.int .i64 (wayM 1 (K, V)).1, .int .i64 (wayM 1 (K, V)).2, .bool (wayP 1 (K, V))]) ∧ Below w.heap.size w w' := by
  have _u : (0 ≤ K ∧ K ≤ 3) ∧ (0 ≤ V ∧ V ≤ 99) := ⟨⟨hk0, hk1⟩, ⟨hv0, hv1⟩⟩
  go_enter Try.func112, Try.ntmps112
  go_wp2_with fail
  refine bodyPost_ret (by simp [results, Try.results112, go_sem]; try rfl) rfl ?_
  refine ⟨ret_one ?_ ?_ ?_, Below.refl _ _⟩
  all_goals simp only [wayM, wayP]
  all_goals first | (simp; done) | (simp; omega) | (rw [Bool.eq_iff_iff]; simp)
set_option maxHeartbeats 4000000 in
theorem l3One_2 (K V : Int) (w : World) (hk0 : 0 ≤ K) (hk1 : K ≤ 3) (hv0 : 0 ≤ V) (hv1 : V ≤ 99) :
    Calls Try.prog 112 #[.int .i64 K, .int .i64 V, .int .i64 2] w fun e w' => e = .returned (.tuple #[.int .i64 (wayM 2 (K, V)).1, .int .i64 (wayM 2 (K, V)).2, .bool (wayP 2 (K, V))]) ∧ Below w.heap.size w w' := by
  have _u : (0 ≤ K ∧ K ≤ 3) ∧ (0 ≤ V ∧ V ≤ 99) := ⟨⟨hk0, hk1⟩, ⟨hv0, hv1⟩⟩
  go_enter Try.func112, Try.ntmps112
  go_wp2_with fail
  refine bodyPost_ret (by simp [results, Try.results112, go_sem]; try rfl) rfl ?_
  refine ⟨ret_one ?_ ?_ ?_, Below.refl _ _⟩
  all_goals simp only [wayM, wayP]
  all_goals first | (simp; done) | (simp; omega) | (rw [Bool.eq_iff_iff]; simp)
set_option maxHeartbeats 4000000 in
theorem l3One_3 (K V : Int) (w : World) (hk0 : 0 ≤ K) (hk1 : K ≤ 3) (hv0 : 0 ≤ V) (hv1 : V ≤ 99) :
    Calls Try.prog 112 #[.int .i64 K, .int .i64 V, .int .i64 3] w fun e w' => e = .returned (.tuple #[.int .i64 (wayM 3 (K, V)).1, .int .i64 (wayM 3 (K, V)).2, .bool (wayP 3 (K, V))]) ∧ Below w.heap.size w w' := by
  have _u : (0 ≤ K ∧ K ≤ 3) ∧ (0 ≤ V ∧ V ≤ 99) := ⟨⟨hk0, hk1⟩, ⟨hv0, hv1⟩⟩
  go_enter Try.func112, Try.ntmps112
  go_wp2_with fail
  refine bodyPost_ret (by simp [results, Try.results112, go_sem]; try rfl) rfl ?_
  refine ⟨ret_one ?_ ?_ ?_, Below.refl _ _⟩
  all_goals simp only [wayM, wayP]
  all_goals first | (simp; done) | (simp; omega) | (rw [Bool.eq_iff_iff]; simp)
set_option maxHeartbeats 4000000 in
theorem l3One_4 (K V : Int) (w : World) (hk0 : 0 ≤ K) (hk1 : K ≤ 3) (hv0 : 0 ≤ V) (hv1 : V ≤ 99) :
    Calls Try.prog 112 #[.int .i64 K, .int .i64 V, .int .i64 4] w fun e w' => e = .returned (.tuple #[.int .i64 (wayM 4 (K, V)).1, .int .i64 (wayM 4 (K, V)).2, .bool (wayP 4 (K, V))]) ∧ Below w.heap.size w w' := by
  have _u : (0 ≤ K ∧ K ≤ 3) ∧ (0 ≤ V ∧ V ≤ 99) := ⟨⟨hk0, hk1⟩, ⟨hv0, hv1⟩⟩
  go_enter Try.func112, Try.ntmps112
  go_wp2_with fail
  refine bodyPost_ret (by simp [results, Try.results112, go_sem]; try rfl) rfl ?_
  refine ⟨ret_one ?_ ?_ ?_, Below.refl _ _⟩
  all_goals simp only [wayM, wayP]
  all_goals first | (simp; done) | (simp; omega) | (rw [Bool.eq_iff_iff]; simp)
set_option maxHeartbeats 4000000 in
theorem l3One_5 (K V : Int) (w : World) (hk0 : 0 ≤ K) (hk1 : K ≤ 3) (hv0 : 0 ≤ V) (hv1 : V ≤ 99) :
    Calls Try.prog 112 #[.int .i64 K, .int .i64 V, .int .i64 5] w fun e w' => e = .returned (.tuple #[.int .i64 (wayM 5 (K, V)).1, .int .i64 (wayM 5 (K, V)).2, .bool (wayP 5 (K, V))]) ∧ Below w.heap.size w w' := by
  have _u : (0 ≤ K ∧ K ≤ 3) ∧ (0 ≤ V ∧ V ≤ 99) := ⟨⟨hk0, hk1⟩, ⟨hv0, hv1⟩⟩
  go_enter Try.func112, Try.ntmps112
  go_wp2_with fail
  refine bodyPost_ret (by simp [results, Try.results112, go_sem]; try rfl) rfl ?_
  refine ⟨ret_one ?_ ?_ ?_, Below.refl _ _⟩
  all_goals simp only [wayM, wayP]
  all_goals first | (simp; done) | (simp; omega) | (rw [Bool.eq_iff_iff]; simp)
set_option maxHeartbeats 4000000 in
theorem l3One_6 (K V : Int) (w : World) (hk0 : 0 ≤ K) (hk1 : K ≤ 3) (hv0 : 0 ≤ V) (hv1 : V ≤ 99) :
    Calls Try.prog 112 #[.int .i64 K, .int .i64 V, .int .i64 6] w fun e w' => e = .returned (.tuple #[.int .i64 (wayM 6 (K, V)).1, .int .i64 (wayM 6 (K, V)).2, .bool (wayP 6 (K, V))]) ∧ Below w.heap.size w w' := by
  have _u : (0 ≤ K ∧ K ≤ 3) ∧ (0 ≤ V ∧ V ≤ 99) := ⟨⟨hk0, hk1⟩, ⟨hv0, hv1⟩⟩
  go_enter Try.func112, Try.ntmps112
  go_wp2_with fail
  refine bodyPost_ret (by simp [results, Try.results112, go_sem]; try rfl) rfl ?_
  refine ⟨ret_one ?_ ?_ ?_, Below.refl _ _⟩
  all_goals simp only [wayM, wayP]
  all_goals first | (simp; done) | (simp; omega) | (rw [Bool.eq_iff_iff]; simp)
set_option maxHeartbeats 4000000 in
theorem l3One_7 (K V : Int) (w : World) (hk0 : 0 ≤ K) (hk1 : K ≤ 3) (hv0 : 0 ≤ V) (hv1 : V ≤ 99) :
    Calls Try.prog 112 #[.int .i64 K, .int .i64 V, .int .i64 7] w fun e w' => e = .returned (.tuple #[.int .i64 (wayM 7 (K, V)).1, .int .i64 (wayM 7 (K, V)).2, .bool (wayP 7 (K, V))]) ∧ Below w.heap.size w w' := by
  have _u : (0 ≤ K ∧ K ≤ 3) ∧ (0 ≤ V ∧ V ≤ 99) := ⟨⟨hk0, hk1⟩, ⟨hv0, hv1⟩⟩
  go_enter Try.func112, Try.ntmps112
  go_wp2_with fail
  refine bodyPost_ret (by simp [results, Try.results112, go_sem]; try rfl) rfl ?_
  refine ⟨ret_one ?_ ?_ ?_, Below.refl _ _⟩
  all_goals simp only [wayM, wayP]
  all_goals first | (simp; done) | (simp; omega) | (rw [Bool.eq_iff_iff]; simp)
theorem l3One_eq {K V how : Int} {r : Bool} (h : wayP how (K, V) = r) (hw : inB how 1 7 = true) (hk : itK (K, V)) (w : World) :
    Calls Try.prog 112 #[.int .i64 K, .int .i64 V, .int .i64 how] w fun e w' => e = .returned (.tuple #[.int .i64 (wayM how (K, V)).1, .int .i64 (wayM how (K, V)).2, .bool r]) ∧ Below w.heap.size w w' := by
  rw [← h]
  obtain ⟨h1, h2, h3, h4⟩ := hk
  simp only [inB, decide_eq_true_eq] at hw
  obtain rfl | rfl | rfl | rfl | rfl | rfl | rfl : how = 1 ∨ how = 2 ∨ how = 3 ∨ how = 4 ∨ how = 5 ∨ how = 6 ∨ how = 7 := by omega
  · exact l3One_1 K V w h1 h2 h3 h4
  · exact l3One_2 K V w h1 h2 h3 h4
  · exact l3One_3 K V w h1 h2 h3 h4
  · exact l3One_4 K V w h1 h2 h3 h4
  · exact l3One_5 K V w h1 h2 h3 h4
  · exact l3One_6 K V w h1 h2 h3 h4
  · exact l3One_7 K V w h1 h2 h3 h4
set_option maxHeartbeats 1000000 in
theorem l3Way_eq {how : Int} {r : Bool} (h : inB how 1 7 = r) (w : World) : Calls Try.prog 68 #[.int .i64 how] w fun e w' => e = .returned (.bool r) ∧ Below w.heap.size w w' := by
  go_enter Try.func68, Try.ntmps68
  go_wp2_with fail
  refine (l6In_eq h _).mono ?_
  rintro e w1 ⟨rfl, rfl⟩
  go_wp2_with fail
  go_ret
  exact ⟨rfl, Below.refl _ _⟩
theorem eachT_yes {how : Int} {l : List It} {k : Nat} {s : Int × Int} {d : Int} (h : l[k]? = some (s, d)) (hp : wayP how s = true) : eachT how (l.take (k + 1)) = eachT how (l.take k) ++ [(wayM how s, d)] := by
  unfold eachT; rw [take_snoc h, List.filter_append, List.map_append]; simp [hp]
theorem eachT_no {how : Int} {l : List It} {k : Nat} {s : Int × Int} {d : Int} (h : l[k]? = some (s, d)) (hp : wayP how s = false) : eachT how (l.take (k + 1)) = eachT how (l.take k) := by
  unfold eachT; rw [take_snoc h, List.filter_append, List.map_append]; simp [hp]
theorem sumT_nil : sumL ltT ([] : List It) = [] := rfl
end Go.Proofs.Ytlddhfimiignaaa
