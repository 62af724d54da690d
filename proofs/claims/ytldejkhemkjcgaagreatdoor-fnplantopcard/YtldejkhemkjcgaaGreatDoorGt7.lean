import Derived.Test.YtldejkhemkjcgaaGreatDoorGtX
import Derived.Test.YtldejkhemkjcgaaGreatDoorGm1
import Derived.Laws.EntriesVeiled
namespace Go.Proofs.YtldejkhemkjcgaaGreatDoor
open Go.RowKit
theorem ret_way {a b c d : Int} {x y : Bool} (h1 : a = c) (h2 : b = d) (h3 : x = y) : Ending.returned (.tuple #[.agg #[.int .i64 a, .int .i64 b], .bool x]) = .returned (.tuple #[.agg #[.int .i64 c, .int .i64 d], .bool y]) := by rw [h1, h2, h3]
abbrev thC (K V : Int) : Obj := .cells #[.int .i64 K, .int .i64 V] 82
theorem th_box (K V : Int) (w : World) : Bk ((w.alloc (thC K V)).alloc (thC 0 0)) w.heap.size #[.int .i64 K, .int .i64 V] 82 ∧ Bk ((w.alloc (thC K V)).alloc (thC 0 0)) (w.heap.size + 1) #[.int .i64 0, .int .i64 0] 82 ∧ Below w.heap.size w ((w.alloc (thC K V)).alloc (thC 0 0)) :=
  ⟨(Bk.new _ _ rfl).alloc _, Bk.new _ _ (by simp), bAlloc (bAlloc (Below.refl _ _) _) _⟩
set_option maxHeartbeats 4000000 in
theorem way1_any (K V : Int) (w : World) (hk0 : 0 ≤ K) (hk1 : K ≤ 3) (hv0 : 0 ≤ V) (hv1 : V ≤ 99) :
    Calls Tryz.prog 131 #[.agg #[.int .i64 K, .int .i64 V]] w fun e w' => e = .returned (.tuple #[.agg #[.int .i64 (wayM 1 (K, V)).1, .int .i64 (wayM 1 (K, V)).2], .bool (wayP 1 (K, V))]) ∧ Below w.heap.size w w' := by
  have _u : (0 ≤ K ∧ K ≤ 3) ∧ (0 ≤ V ∧ V ≤ 99) := ⟨⟨hk0, hk1⟩, ⟨hv0, hv1⟩⟩
  obtain ⟨bi, br, hb⟩ := th_box K V w
  obtain ⟨i0, i1, _, _⟩ := bi.two
  obtain ⟨r0, r1, f0, f1⟩ := br.two
  have ne : w.heap.size ≠ w.heap.size + 1 := by omega
  go_enter Tryz.func131, Tryz.ntmps131
  go_upto_region 1 with fail
  generalize ((w.alloc (thC K V)).alloc (thC 0 0)) = wb at *
  go_wp2_with fail
  refine bodyPost_ret (by simp [results, Tryz.results131, go_sem, set1a br, set2b br]; try rfl) rfl ?_
  refine ⟨ret_way ?_ ?_ ?_, (hb.setCell (by simp) _).setCell (by simp) _⟩
  all_goals simp only [wayM, wayP]
  all_goals (simp <;> omega)
set_option maxHeartbeats 4000000 in
theorem way2_any (K V : Int) (w : World) (hk0 : 0 ≤ K) (hk1 : K ≤ 3) (hv0 : 0 ≤ V) (hv1 : V ≤ 99) :
    Calls Tryz.prog 132 #[.agg #[.int .i64 K, .int .i64 V]] w fun e w' => e = .returned (.tuple #[.agg #[.int .i64 (wayM 2 (K, V)).1, .int .i64 (wayM 2 (K, V)).2], .bool (wayP 2 (K, V))]) ∧ Below w.heap.size w w' := by
  have _u : (0 ≤ K ∧ K ≤ 3) ∧ (0 ≤ V ∧ V ≤ 99) := ⟨⟨hk0, hk1⟩, ⟨hv0, hv1⟩⟩
  obtain ⟨bi, br, hb⟩ := th_box K V w
  obtain ⟨i0, i1, _, _⟩ := bi.two
  obtain ⟨r0, r1, f0, f1⟩ := br.two
  have ne : w.heap.size ≠ w.heap.size + 1 := by omega
  go_enter Tryz.func132, Tryz.ntmps132
  go_upto_region 1 with fail
  generalize ((w.alloc (thC K V)).alloc (thC 0 0)) = wb at *
  have iw : IntKind.i64.wrap (V + 1) = V + 1 := by rw [IntKind.wrap_i64]; omega
  have HX : Hid (∀ W, Below wb.heap.size wb W → W.cell? ⟨w.heap.size, 0, none⟩ = some (.int .i64 K) ∧ W.cell? ⟨w.heap.size, 1, none⟩ = some (.int .i64 V)) := fun W hW => ⟨(bi.keep hW).two.1, (bi.keep hW).two.2.1⟩
  have hbD : Below wb.heap.size wb wb.drew := (Below.refl _ _).drew
  clear i0 i1 r0 r1 f0 f1
  obtain ⟨i0, i1⟩ := HX.out _ hbD
  go_region_held3 (fun W => W.cell? ⟨w.heap.size, 0, none⟩ = some (.int .i64 K) ∧ W.cell? ⟨w.heap.size, 1, none⟩ = some (.int .i64 V))
    (first | exact HX.out _ hbD | exact HX.out _ hbna | exact ⟨cell_apart (cell_apart (HX.out _ hbna).1 (by simp)) (by simp), cell_apart (cell_apart (HX.out _ hbna).2 (by simp)) (by simp)⟩)
    (first
      | (go_at_call 160; refine (valOf_any (V + 1) _).mono ?_; rintro e wa ⟨rfl, hba⟩; have hbna := bStep hbD hba; have br2 := br.keep hbna; obtain ⟨r0, r1, f0, f1⟩ := br2.two))
  have bo := br2.set01 (.int .i64 K) (.int .i64 ((V + 1) % 100))
  have hbo : Below w.heap.size w ((wa.setCell ⟨w.heap.size + 1, 0, none⟩ (.int .i64 K)).setCell ⟨w.heap.size + 1, 1, none⟩ (.int .i64 ((V + 1) % 100))) := ((hb.trans (hbna.mono hb.size)).setCell (by simp) _).setCell (by simp) _
  obtain ⟨y0, y1, _, _⟩ := bo.two
  go_wp2_with fail
  refine bodyPost_ret (v := .tuple #[.agg #[.int .i64 K, .int .i64 ((V + 1) % 100)], .bool true]) (by simp [results, Tryz.results132, go_sem, y0, y1]) rfl ?_
  exact ⟨rfl, hbo⟩
set_option maxHeartbeats 4000000 in
theorem way3_any (K V : Int) (w : World) (hk0 : 0 ≤ K) (hk1 : K ≤ 3) (hv0 : 0 ≤ V) (hv1 : V ≤ 99) :
    Calls Tryz.prog 133 #[.agg #[.int .i64 K, .int .i64 V]] w fun e w' => e = .returned (.tuple #[.agg #[.int .i64 (wayM 3 (K, V)).1, .int .i64 (wayM 3 (K, V)).2], .bool (wayP 3 (K, V))]) ∧ Below w.heap.size w w' := by
  have _u : (0 ≤ K ∧ K ≤ 3) ∧ (0 ≤ V ∧ V ≤ 99) := ⟨⟨hk0, hk1⟩, ⟨hv0, hv1⟩⟩
  obtain ⟨bi, br, hb⟩ := th_box K V w
  obtain ⟨i0, i1, _, _⟩ := bi.two
  obtain ⟨r0, r1, f0, f1⟩ := br.two
  have ne : w.heap.size ≠ w.heap.size + 1 := by omega
  go_enter Tryz.func133, Tryz.ntmps133
  go_upto_region 1 with fail
  generalize ((w.alloc (thC K V)).alloc (thC 0 0)) = wb at *
  go_wp2_with fail
  refine bodyPost_ret (by simp [results, Tryz.results133, go_sem, set1a br, set2b br]; try rfl) rfl ?_
  refine ⟨ret_way ?_ ?_ ?_, (hb.setCell (by simp) _).setCell (by simp) _⟩
  all_goals simp only [wayM, wayP]
  all_goals (simp <;> omega)
set_option maxHeartbeats 4000000 in
theorem way4_any (K V : Int) (w : World) (hk0 : 0 ≤ K) (hk1 : K ≤ 3) (hv0 : 0 ≤ V) (hv1 : V ≤ 99) :
    Calls Tryz.prog 134 #[.agg #[.int .i64 K, .int .i64 V]] w fun e w' => e = .returned (.tuple #[.agg #[.int .i64 (wayM 4 (K, V)).1, .int .i64 (wayM 4 (K, V)).2], .bool (wayP 4 (K, V))]) ∧ Below w.heap.size w w' := by
  have _u : (0 ≤ K ∧ K ≤ 3) ∧ (0 ≤ V ∧ V ≤ 99) := ⟨⟨hk0, hk1⟩, ⟨hv0, hv1⟩⟩
  obtain ⟨bi, br, hb⟩ := th_box K V w
  obtain ⟨i0, i1, _, _⟩ := bi.two
  obtain ⟨r0, r1, f0, f1⟩ := br.two
  have ne : w.heap.size ≠ w.heap.size + 1 := by omega
  go_enter Tryz.func134, Tryz.ntmps134
  go_upto_region 1 with fail
  generalize ((w.alloc (thC K V)).alloc (thC 0 0)) = wb at *
  go_wp2_with fail
  refine bodyPost_ret (by simp [results, Tryz.results134, go_sem, set1a br, set2b br]; try rfl) rfl ?_
  refine ⟨ret_way ?_ ?_ ?_, (hb.setCell (by simp) _).setCell (by simp) _⟩
  all_goals simp only [wayM, wayP]
  all_goals (simp <;> omega)
set_option maxHeartbeats 4000000 in
theorem way5_any (K V : Int) (w : World) (hk0 : 0 ≤ K) (hk1 : K ≤ 3) (hv0 : 0 ≤ V) (hv1 : V ≤ 99) :
    Calls Tryz.prog 135 #[.agg #[.int .i64 K, .int .i64 V]] w fun e w' => e = .returned (.tuple #[.agg #[.int .i64 (wayM 5 (K, V)).1, .int .i64 (wayM 5 (K, V)).2], .bool (wayP 5 (K, V))]) ∧ Below w.heap.size w w' := by
  have _u : (0 ≤ K ∧ K ≤ 3) ∧ (0 ≤ V ∧ V ≤ 99) := ⟨⟨hk0, hk1⟩, ⟨hv0, hv1⟩⟩
  obtain ⟨bi, br, hb⟩ := th_box K V w
  obtain ⟨i0, i1, _, _⟩ := bi.two
  obtain ⟨r0, r1, f0, f1⟩ := br.two
  have ne : w.heap.size ≠ w.heap.size + 1 := by omega
  go_enter Tryz.func135, Tryz.ntmps135
  go_upto_region 1 with fail
  generalize ((w.alloc (thC K V)).alloc (thC 0 0)) = wb at *
  go_region
  have bo := (br.set01 (.int .i64 K) (.int .i64 V)).drew
  have hbo : Below w.heap.size w ((wb.setCell ⟨w.heap.size + 1, 0, none⟩ (.int .i64 K)).setCell ⟨w.heap.size + 1, 1, none⟩ (.int .i64 V)).drew := ((hb.setCell (by simp) _).setCell (by simp) _).drew
  obtain ⟨y0, y1, _, _⟩ := bo.two
  go_wp2_with fail
  refine bodyPost_ret (v := .tuple #[.agg #[.int .i64 K, .int .i64 V], .bool (V % 2 == 0)]) (by simp [results, Tryz.results135, go_sem, y0, y1]) rfl ?_
  refine ⟨ret_way (by simp [wayM]) (by simp [wayM]) ?_, hbo⟩
  simp [wayP] <;> (rw [Bool.eq_iff_iff]; simp)
set_option maxHeartbeats 4000000 in
theorem way6_any (K V : Int) (w : World) (hk0 : 0 ≤ K) (hk1 : K ≤ 3) (hv0 : 0 ≤ V) (hv1 : V ≤ 99) :
    Calls Tryz.prog 136 #[.agg #[.int .i64 K, .int .i64 V]] w fun e w' => e = .returned (.tuple #[.agg #[.int .i64 (wayM 6 (K, V)).1, .int .i64 (wayM 6 (K, V)).2], .bool (wayP 6 (K, V))]) ∧ Below w.heap.size w w' := by
  have _u : (0 ≤ K ∧ K ≤ 3) ∧ (0 ≤ V ∧ V ≤ 99) := ⟨⟨hk0, hk1⟩, ⟨hv0, hv1⟩⟩
  obtain ⟨bi, br, hb⟩ := th_box K V w
  obtain ⟨i0, i1, _, _⟩ := bi.two
  obtain ⟨r0, r1, f0, f1⟩ := br.two
  have ne : w.heap.size ≠ w.heap.size + 1 := by omega
  go_enter Tryz.func136, Tryz.ntmps136
  go_upto_region 1 with fail
  generalize ((w.alloc (thC K V)).alloc (thC 0 0)) = wb at *
  go_region
  have bo := (br.set01 (.int .i64 K) (.int .i64 V)).drew
  have hbo : Below w.heap.size w ((wb.setCell ⟨w.heap.size + 1, 0, none⟩ (.int .i64 K)).setCell ⟨w.heap.size + 1, 1, none⟩ (.int .i64 V)).drew := ((hb.setCell (by simp) _).setCell (by simp) _).drew
  obtain ⟨y0, y1, _, _⟩ := bo.two
  go_wp2_with fail
  refine bodyPost_ret (v := .tuple #[.agg #[.int .i64 K, .int .i64 V], .bool (K % 2 == 0)]) (by simp [results, Tryz.results136, go_sem, y0, y1]) rfl ?_
  refine ⟨ret_way (by simp [wayM]) (by simp [wayM]) ?_, hbo⟩
  simp [wayP] <;> (rw [Bool.eq_iff_iff]; simp)
set_option maxHeartbeats 4000000 in
theorem way7_any (K V : Int) (w : World) (hk0 : 0 ≤ K) (hk1 : K ≤ 3) (hv0 : 0 ≤ V) (hv1 : V ≤ 99) :
    Calls Tryz.prog 137 #[.agg #[.int .i64 K, .int .i64 V]] w fun e w' => e = .returned (.tuple #[.agg #[.int .i64 (wayM 7 (K, V)).1, .int .i64 (wayM 7 (K, V)).2], .bool (wayP 7 (K, V))]) ∧ Below w.heap.size w w' := by
  have _u : (0 ≤ K ∧ K ≤ 3) ∧ (0 ≤ V ∧ V ≤ 99) := ⟨⟨hk0, hk1⟩, ⟨hv0, hv1⟩⟩
  obtain ⟨bi, br, hb⟩ := th_box K V w
  obtain ⟨i0, i1, _, _⟩ := bi.two
  obtain ⟨r0, r1, f0, f1⟩ := br.two
  have ne : w.heap.size ≠ w.heap.size + 1 := by omega
  go_enter Tryz.func137, Tryz.ntmps137
  go_upto_region 1 with fail
  generalize ((w.alloc (thC K V)).alloc (thC 0 0)) = wb at *
  go_region
  have bo := (br.set01 (.int .i64 K) (.int .i64 V)).drew
  have hbo : Below w.heap.size w ((wb.setCell ⟨w.heap.size + 1, 0, none⟩ (.int .i64 K)).setCell ⟨w.heap.size + 1, 1, none⟩ (.int .i64 V)).drew := ((hb.setCell (by simp) _).setCell (by simp) _).drew
  obtain ⟨y0, y1, _, _⟩ := bo.two
  go_wp2_with fail
  refine bodyPost_ret (v := .tuple #[.agg #[.int .i64 K, .int .i64 V], .bool (decide (V < 10))]) (by simp [results, Tryz.results137, go_sem, y0, y1]) rfl ?_
  refine ⟨ret_way (by simp [wayM]) (by simp [wayM]) ?_, hbo⟩
  simp [wayP] <;> (rw [Bool.eq_iff_iff]; simp)
end Go.Proofs.YtldejkhemkjcgaaGreatDoor
namespace Go.Proofs.YtldejkhemkjcgaaGreatDoor
open Go.RowKit
theorem ret_one {a b c d : Int} {x y : Bool} (h1 : a = c) (h2 : b = d) (h3 : x = y) : Ending.returned (.tuple #[.int .i64 a, .int .i64 b, .bool x]) = .returned (.tuple #[.int .i64 c, .int .i64 d, .bool y]) := by rw [h1, h2, h3]
set_option maxHeartbeats 4000000 in
theorem l3One_1 (K V : Int) (w : World) (hk0 : 0 ≤ K) (hk1 : K ≤ 3) (hv0 : 0 ≤ V) (hv1 : V ≤ 99) :
    Calls Tryz.prog 126 #[.int .i64 K, .int .i64 V, .int .i64 1] w fun e w' => e = .returned (.tuple #[.int .i64 (wayM 1 (K, V)).1, .int .i64 (wayM 1 (K, V)).2, .bool (wayP 1 (K, V))]) ∧ Below w.heap.size w w' := by
  have _u : (0 ≤ K ∧ K ≤ 3) ∧ (0 ≤ V ∧ V ≤ 99) := ⟨⟨hk0, hk1⟩, ⟨hv0, hv1⟩⟩
  go_enter Tryz.func126, Tryz.ntmps126
  go_wp2_with fail
  refine bodyPost_ret (by simp [results, Tryz.results126, go_sem]; try rfl) rfl ?_
  refine ⟨ret_one ?_ ?_ ?_, Below.refl _ _⟩
  all_goals simp only [wayM, wayP]
  all_goals first | (simp; done) | (simp; omega) | (rw [Bool.eq_iff_iff]; simp)
set_option maxHeartbeats 4000000 in
theorem l3One_2 (K V : Int) (w : World) (hk0 : 0 ≤ K) (hk1 : K ≤ 3) (hv0 : 0 ≤ V) (hv1 : V ≤ 99) :
    Calls Tryz.prog 126 #[.int .i64 K, .int .i64 V, .int .i64 2] w fun e w' => e = .returned (.tuple #[.int .i64 (wayM 2 (K, V)).1, .int .i64 (wayM 2 (K, V)).2, .bool (wayP 2 (K, V))]) ∧ Below w.heap.size w w' := by
  have _u : (0 ≤ K ∧ K ≤ 3) ∧ (0 ≤ V ∧ V ≤ 99) := ⟨⟨hk0, hk1⟩, ⟨hv0, hv1⟩⟩
  go_enter Tryz.func126, Tryz.ntmps126
  go_wp2_with fail
  refine bodyPost_ret (by simp [results, Tryz.results126, go_sem]; try rfl) rfl ?_
  refine ⟨ret_one ?_ ?_ ?_, Below.refl _ _⟩
  all_goals simp only [wayM, wayP]
  all_goals first | (simp; done) | (simp; omega) | (rw [Bool.eq_iff_iff]; simp)
set_option maxHeartbeats 4000000 in
theorem l3One_3 (K V : Int) (w : World) (hk0 : 0 ≤ K) (hk1 : K ≤ 3) (hv0 : 0 ≤ V) (hv1 : V ≤ 99) :
    Calls Tryz.prog 126 #[.int .i64 K, .int .i64 V, .int .i64 3] w fun e w' => e = .returned (.tuple #[.int .i64 (wayM 3 (K, V)).1, .int .i64 (wayM 3 (K, V)).2, .bool (wayP 3 (K, V))]) ∧ Below w.heap.size w w' := by
  have _u : (0 ≤ K ∧ K ≤ 3) ∧ (0 ≤ V ∧ V ≤ 99) := ⟨⟨hk0, hk1⟩, ⟨hv0, hv1⟩⟩
  go_enter Tryz.func126, Tryz.ntmps126
  go_wp2_with fail
  refine bodyPost_ret (by simp [results, Tryz.results126, go_sem]; try rfl) rfl ?_
  refine ⟨ret_one ?_ ?_ ?_, Below.refl _ _⟩
  all_goals simp only [wayM, wayP]
  all_goals first | (simp; done) | (simp; omega) | (rw [Bool.eq_iff_iff]; simp)
set_option maxHeartbeats 4000000 in
theorem l3One_4 (K V : Int) (w : World) (hk0 : 0 ≤ K) (hk1 : K ≤ 3) (hv0 : 0 ≤ V) (hv1 : V ≤ 99) :
    Calls Tryz.prog 126 #[.int .i64 K, .int .i64 V, .int .i64 4] w fun e w' => e = .returned (.tuple #[.int .i64 (wayM 4 (K, V)).1, .int .i64 (wayM 4 (K, V)).2, .bool (wayP 4 (K, V))]) ∧ Below w.heap.size w w' := by
  have _u : (0 ≤ K ∧ K ≤ 3) ∧ (0 ≤ V ∧ V ≤ 99) := ⟨⟨hk0, hk1⟩, ⟨hv0, hv1⟩⟩
  go_enter Tryz.func126, Tryz.ntmps126
  go_wp2_with fail
  refine bodyPost_ret (by simp [results, Tryz.results126, go_sem]; try rfl) rfl ?_
  refine ⟨ret_one ?_ ?_ ?_, Below.refl _ _⟩
  all_goals simp only [wayM, wayP]
  all_goals first | (simp; done) | (simp; omega) | (rw [Bool.eq_iff_iff]; simp)
set_option maxHeartbeats 4000000 in
theorem l3One_5 (K V : Int) (w : World) (hk0 : 0 ≤ K) (hk1 : K ≤ 3) (hv0 : 0 ≤ V) (hv1 : V ≤ 99) :
    Calls Tryz.prog 126 #[.int .i64 K, .int .i64 V, .int .i64 5] w fun e w' => e = .returned (.tuple #[.int .i64 (wayM 5 (K, V)).1, .int .i64 (wayM 5 (K, V)).2, .bool (wayP 5 (K, V))]) ∧ Below w.heap.size w w' := by
  have _u : (0 ≤ K ∧ K ≤ 3) ∧ (0 ≤ V ∧ V ≤ 99) := ⟨⟨hk0, hk1⟩, ⟨hv0, hv1⟩⟩
  go_enter Tryz.func126, Tryz.ntmps126
  go_wp2_with fail
  refine bodyPost_ret (by simp [results, Tryz.results126, go_sem]; try rfl) rfl ?_
  refine ⟨ret_one ?_ ?_ ?_, Below.refl _ _⟩
  all_goals simp only [wayM, wayP]
  all_goals first | (simp; done) | (simp; omega) | (rw [Bool.eq_iff_iff]; simp)
set_option maxHeartbeats 4000000 in
theorem l3One_6 (K V : Int) (w : World) (hk0 : 0 ≤ K) (hk1 : K ≤ 3) (hv0 : 0 ≤ V) (hv1 : V ≤ 99) :
    Calls Tryz.prog 126 #[.int .i64 K, .int .i64 V, .int .i64 6] w fun e w' => e = .returned (.tuple #[.int .i64 (wayM 6 (K, V)).1, .int .i64 (wayM 6 (K, V)).2, .bool (wayP 6 (K, V))]) ∧ Below w.heap.size w w' := by
  have _u : (0 ≤ K ∧ K ≤ 3) ∧ (0 ≤ V ∧ V ≤ 99) := ⟨⟨hk0, hk1⟩, ⟨hv0, hv1⟩⟩
  go_enter Tryz.func126, Tryz.ntmps126
  go_wp2_with fail
  refine bodyPost_ret (by simp [results, Tryz.results126, go_sem]; try rfl) rfl ?_
  refine ⟨ret_one ?_ ?_ ?_, Below.refl _ _⟩
  all_goals simp only [wayM, wayP]
  all_goals first | (simp; done) | (simp; omega) | (rw [Bool.eq_iff_iff]; simp)
set_option maxHeartbeats 4000000 in
theorem l3One_7 (K V : Int) (w : World) (hk0 : 0 ≤ K) (hk1 : K ≤ 3) (hv0 : 0 ≤ V) (hv1 : V ≤ 99) :
    Calls Tryz.prog 126 #[.int .i64 K, .int .i64 V, .int .i64 7] w fun e w' => e = .returned (.tuple #[.int .i64 (wayM 7 (K, V)).1, .int .i64 (wayM 7 (K, V)).2, .bool (wayP 7 (K, V))]) ∧ Below w.heap.size w w' := by
  have _u : (0 ≤ K ∧ K ≤ 3) ∧ (0 ≤ V ∧ V ≤ 99) := ⟨⟨hk0, hk1⟩, ⟨hv0, hv1⟩⟩
  go_enter Tryz.func126, Tryz.ntmps126
  go_wp2_with fail
  refine bodyPost_ret (by simp [results, Tryz.results126, go_sem]; try rfl) rfl ?_
  refine ⟨ret_one ?_ ?_ ?_, Below.refl _ _⟩
  all_goals simp only [wayM, wayP]
  all_goals first | (simp; done) | (simp; omega) | (rw [Bool.eq_iff_iff]; simp)
theorem l3One_eq {K V how : Int} {r : Bool} (h : wayP how (K, V) = r) (hw : inB how 1 7 = true) (hk : itK (K, V)) (w : World) :
    Calls Tryz.prog 126 #[.int .i64 K, .int .i64 V, .int .i64 how] w fun e w' => e = .returned (.tuple #[.int .i64 (wayM how (K, V)).1, .int .i64 (wayM how (K, V)).2, .bool r]) ∧ Below w.heap.size w w' := by
  rw [← h]
  obtain ⟨h1, h2, h3, h4⟩ := hk
  simp only [inB, decide_eq_true_eq] at hw
  obtain rfl | rfl | rfl | rfl | rfl | rfl | rfl : how = 1 ∨ how = 2 ∨ how = 3 ∨ how = 4 ∨ how = 5 ∨ how = 6 ∨ how = 7 := by omega
  · exact l3One_1 K V w h1 h2 h3 h4
  · exact l3One_2 K V w h1 h2 h3 h4
  · exact l3One_3 K V w h1 h2 h3 h4
  · exact l3One_4 K V w h1 h2 h3 h4
  · exact l3One_5 K V w h1 h2 h3 h4
  · exact l3One_6 K V w h1 h2 h3 h4
  · exact l3One_7 K V w h1 h2 h3 h4
theorem eachT_yes {how : Int} {l : List It} {k : Nat} {s : Int × Int} {d : Int} (h : l[k]? = some (s, d)) (hp : wayP how s = true) : eachT how (l.take (k + 1)) = eachT how (l.take k) ++ [(wayM how s, d)] := by
  unfold eachT; rw [take_snoc h, List.filter_append, List.map_append]; simp [hp]
theorem eachT_no {how : Int} {l : List It} {k : Nat} {s : Int × Int} {d : Int} (h : l[k]? = some (s, d)) (hp : wayP how s = false) : eachT how (l.take (k + 1)) = eachT how (l.take k) := by
  unfold eachT; rw [take_snoc h, List.filter_append, List.map_append]; simp [hp]
end Go.Proofs.YtldejkhemkjcgaaGreatDoor
namespace Go.Proofs.YtldejkhemkjcgaaGreatDoor
open Go.RowKit
open Go.ChangeMaps (setBlock)
set_option maxHeartbeats 2000000 in
theorem wayOf_1 (w : World) : Calls Tryz.prog 87 #[.int .i64 1] w fun e w' => e = .returned (.tuple #[.func (.func 131) #[] #[], .bool true]) ∧ Below w.heap.size w w' := by
  go_enter Tryz.func87, Tryz.ntmps87
  go_wp2_with fail
  refine bodyPost_ret (by simp [results, Tryz.results87, go_sem]; try rfl) rfl ?_
  exact ⟨rfl, bAlloc (Below.refl _ _) _⟩
set_option maxRecDepth 100000 in
set_option maxHeartbeats 8000000 in
theorem implSetEach_1 (v : Value) (l : List It) (w : World) (h : Is w v l) :
    Calls Tryz.prog 95 #[v, .int .i64 1] w fun e w' => ∃ o : Value, e = .returned o ∧ OwnI w' w.heap.size o (eachS l 1) ∧ Below w.heap.size w w' := by
  cases hk : sokB l
  · have HF : Hid (eachS l 1 = []) := each_no1 hk
    go_enter Tryz.func95, Tryz.ntmps95
    go_wp2_with fail
    refine (wayOf_1 _).mono ?_
    rintro e w1 ⟨rfl, hb1⟩
    go_wp2_with fail
    refine (implSetOk_eq hk (h.keep hb1)).mono ?_
    rintro e w2 ⟨rfl, hb2⟩
    go_wp2_with fail
    go_ret
    refine ⟨_, rfl, ?_, bStep hb1 hb2⟩
    rw [HF.out]
    exact ownK_nil _ _ _ _ _
  have HF : Hid (eachS l 1 = sumL ltT (eachT 1 l)) := each_yes hk (by decide)
  have hl := sok_len hk
  have HK : Hid (∀ (k : Nat) (s : Int × Int) (d : Int), l[k]? = some (s, d) → itK s) := fun k s d hr => sok_k hk _ (List.mem_of_getElem? hr)
  have HA : Hid (∀ k : Nat, absum (eachT 1 (l.take k)) ≤ 439804651110400) := fun k => by have h1 := each_abs 1 (l.take k); have h2 := sok_take hk k; omega
  have hmm := @run_makeMap Tryz.prog
  go_enter Tryz.func95, Tryz.ntmps95
  go_wp2_with fail
  refine (wayOf_1 _).mono ?_
  rintro e w0 ⟨rfl, hb0⟩
  go_wp2_with fail
  refine (implSetOk_eq hk (h.keep hb0)).mono ?_
  rintro e w1 ⟨rfl, hb1⟩
  have hbw1 := bStep hb0 hb1
  have hs1 := hbw1.size
  obtain ⟨a, cap, rfl, hc, hm, hn, hcells⟩ := Is.open (h.keep hbw1)
  unfold maxLen at hm
  have HC := (show Hid _ from hcells)
  clear hcells h hk hb0 hb1
  have m0 : MapIs thV thOk (w1.alloc (.map #[] 0)) w1.heap.size [] := MapIs.new w1 rfl
  have hbm : Below w1.heap.size w1 (w1.alloc (.map #[] 0)) := bAlloc (Below.refl _ _) _
  go_wp2_with fail
  clear hmm
  go_loopw [27] (fun i wr => ∃ (k : Nat) (M : List It), k ≤ l.length ∧ i = .int .i64 k ∧ MapIs thV thOk wr w1.heap.size M ∧ (∀ s, tot M s = tot (eachT 1 (l.take k)) s) ∧ M.length ≤ k ∧ Below w1.heap.size w1 wr) (fun i _ => l.length - (intOf i).toNat)
  case atStart => exact ⟨0, [], by omega, rfl, m0, fun s => by simp [eachT], by simp, hbm⟩
  case round =>
    clear m0 hbm
    obtain ⟨k, M, hkl, rfl, hmap, htot, hML, hb⟩ := hrel
    have HT := (show Hid _ from htot)
    clear htot
    by_cases hlt : k < l.length
    · obtain ⟨g, off, K, V, D, rfl, hg, hr, c0, c1, c2⟩ := HC.out k hlt
      have hit := HK.out k _ _ hr
      have d0 := cell_below hb c0
      have d1 := cell_below hb c1
      have d2 := cell_below hb c2
      have HR := (show Hid _ from hr)
      have ik : ((k : Int) < (l.length : Int)) := by omega
      have bx := Bk.new (w := wr) #[.int .i64 K, .int .i64 V, .int .i64 D] 63 rfl
      have hbx0 : Below wr.heap.size wr (wr.alloc (.cells #[.int .i64 K, .int .i64 V, .int .i64 D] 63)) := bAlloc (Below.refl _ _) _
      have hbx := bStep hb hbx0
      have mx := hmap.keep hbx0
      obtain ⟨i1, i2, i3, i4⟩ := hit
      have HIT : Hid (thOk (wayM 1 (K, V))) := it_th (way_k ⟨i1, i2, i3, i4⟩)
      simp only at i1 i2 i3 i4
      clear c0 c1 c2 hr hmap hbx0 hb
      go_upto_region 8 with fail
      clear d0 d1 d2
      generalize wr.heap.size = tb at *
      generalize World.alloc _ _ = wx at *
      obtain ⟨q0, q1, q2⟩ := bx.three
      go_wp2_with fail
      refine (way1_any K V _ i1 i2 i3 i4).mono ?_
      rintro e wy ⟨rfl, hby⟩
      have by1 := bx.keep hby
      have my := mx.keep hby
      have hbn := bStep hbx hby
      have HM : Hid (wayM 1 (K, V) = ((wayM 1 (K, V)).1, (wayM 1 (K, V)).2)) := rfl
      have HYES : Hid (wayP 1 (K, V) = true → eachT 1 (l.take (k + 1)) = eachT 1 (l.take k) ++ [(wayM 1 (K, V), D)]) := fun hp => eachT_yes HR.out hp
      have HNO : Hid (wayP 1 (K, V) = false → eachT 1 (l.take (k + 1)) = eachT 1 (l.take k)) := fun hp => eachT_no HR.out hp
      clear q0 q1 q2 bx mx hbx hby
      generalize (wayM 1 (K, V)).1 = K2 at *
      generalize (wayM 1 (K, V)).2 = V2 at *
      generalize hP : wayP 1 (K, V) = r at *
      clear hP
      have bt0 := Bk.new (w := wy) #[.int .i64 K2, .int .i64 V2] 82 rfl
      have hbt : Below wy.heap.size wy (wy.alloc (.cells #[.int .i64 K2, .int .i64 V2] 82)) := bAlloc (Below.refl _ _) _
      have bz := by1.keep hbt
      have mz := my.keep hbt
      have hbz := bStep hbn hbt
      have hmt := mz.lt
      go_upto_region 9 with fail
      clear by1 my hbn hbt
      generalize wy.heap.size = ub at *
      generalize World.alloc _ _ = wt at *
      cases r
      · have HZ : Hid (eachT 1 (l.take (k + 1)) = eachT 1 (l.take k)) := HNO.out rfl
        go_wp2_with fail
        go_roundw
        case rel => exact ⟨k + 1, M, by omega, by go_num, mz, (by rw [HZ.out]; exact HT.out), by omega, hbz⟩
        case measure => simp [intOf]; omega
      · have HZ : Hid (eachT 1 (l.take (k + 1)) = eachT 1 (l.take k) ++ [((K2, V2), D)]) := by show _ = _; rw [HYES.out rfl, HM.out]
        have hok : thOk (K2, V2) := by have := HIT.out; rw [HM.out] at this; exact this
        have hAk := HA.out (k + 1)
        rw [HZ.out, absum_append] at hAk
        obtain ⟨st, o1, o2, M', e1, e2, e3, hM', ht', hl2⟩ := MapIs.enter (mz.move (w1 := wt.drew) rfl) encT Tryz.underlying77 zeroI hok (tot M (K2, V2) + D)
        change (Instr.entryStore _ _ (.int .i64 (st : Int)) _).run _ _ = _ at e3
        have e0 := MapIs.look (mz.move (w1 := wt.drew) rfl) encT Tryz.underlying77 zeroI hok
        obtain ⟨y0, y1, y2⟩ := bz.three
        obtain ⟨t0, t1, _, _⟩ := bt0.two
        have hsum : -4611686018427387904 ≤ tot M (K2, V2) + D ∧ tot M (K2, V2) + D ≤ 4611686018427387904 := by
          have h1 := tot_abs (eachT 1 (l.take k)) (K2, V2)
          rw [← HT.out] at h1
          simp only [absum] at hAk
          have := absum_pos (eachT 1 (l.take k))
          omega
        have HN : Hid (∀ s, tot M' s = tot (eachT 1 (l.take (k + 1))) s) := fun s => by
          rw [ht', HZ.out, tot_snoc]
          by_cases e : (K2, V2) = s
          · rw [if_pos e, if_pos e, ← HT.out, e]
          · rw [if_neg e, if_neg e, HT.out]; omega
        clear ht' hAk
        obtain ⟨hs1', hs2'⟩ := hsum
        generalize hT : tot M (K2, V2) = T at *
        have hTT : Hid (tot M (K2, V2) = T) := hT
        clear hT
        have iw : IntKind.i64.wrap (T + D) = T + D := by rw [IntKind.wrap_i64]; omega
        go_upto_region 10 with fail
        go_region
        clear e0 e1 e2 e3
        have hb2 : Below w1.heap.size w1 (setBlock wt.drew w1.heap.size o2) := below_setBlock hbz.drew (Nat.le_refl _)
        generalize setBlock wt.drew w1.heap.size o2 = w7 at *
        go_wp2_with fail
        go_roundw
        case rel => exact ⟨k + 1, M', by omega, by go_num, hM', HN.out, by omega, hb2⟩
        case measure => simp [intOf]; omega
    · obtain rfl : k = l.length := by omega
      have HT2 : Hid (∀ s, tot M s = tot (eachT 1 l) s) := fun s => by rw [HT.out, List.take_length]
      have hbr := bStep hbw1 hb
      have hbrs := hbr.size
      clear HT
      go_wp2_with fail
      refine (itemsOf_k w1.heap.size wr hmap (by omega) HT2.out).mono ?_
      rintro e w8 ⟨o8, rfl, own8, hb8⟩
      have O8 : Hid (OwnI w8 wr.heap.size o8 (sumL ltT (eachT 1 l))) := own8
      clear own8
      go_wp2_with fail
      go_ret
      refine ⟨_, rfl, ?_, bStep hbr hb8⟩
      rw [HF.out]
      exact own_less O8.out hbrs
set_option maxHeartbeats 2000000 in
theorem wayOf_2 (w : World) : Calls Tryz.prog 87 #[.int .i64 2] w fun e w' => e = .returned (.tuple #[.func (.func 132) #[] #[], .bool true]) ∧ Below w.heap.size w w' := by
  go_enter Tryz.func87, Tryz.ntmps87
  go_wp2_with fail
  refine bodyPost_ret (by simp [results, Tryz.results87, go_sem]; try rfl) rfl ?_
  exact ⟨rfl, bAlloc (Below.refl _ _) _⟩
set_option maxRecDepth 100000 in
set_option maxHeartbeats 8000000 in
theorem implSetEach_2 (v : Value) (l : List It) (w : World) (h : Is w v l) :
    Calls Tryz.prog 95 #[v, .int .i64 2] w fun e w' => ∃ o : Value, e = .returned o ∧ OwnI w' w.heap.size o (eachS l 2) ∧ Below w.heap.size w w' := by
  cases hk : sokB l
  · have HF : Hid (eachS l 2 = []) := each_no1 hk
    go_enter Tryz.func95, Tryz.ntmps95
    go_wp2_with fail
    refine (wayOf_2 _).mono ?_
    rintro e w1 ⟨rfl, hb1⟩
    go_wp2_with fail
    refine (implSetOk_eq hk (h.keep hb1)).mono ?_
    rintro e w2 ⟨rfl, hb2⟩
    go_wp2_with fail
    go_ret
    refine ⟨_, rfl, ?_, bStep hb1 hb2⟩
    rw [HF.out]
    exact ownK_nil _ _ _ _ _
  have HF : Hid (eachS l 2 = sumL ltT (eachT 2 l)) := each_yes hk (by decide)
  have hl := sok_len hk
  have HK : Hid (∀ (k : Nat) (s : Int × Int) (d : Int), l[k]? = some (s, d) → itK s) := fun k s d hr => sok_k hk _ (List.mem_of_getElem? hr)
  have HA : Hid (∀ k : Nat, absum (eachT 2 (l.take k)) ≤ 439804651110400) := fun k => by have h1 := each_abs 2 (l.take k); have h2 := sok_take hk k; omega
  have hmm := @run_makeMap Tryz.prog
  go_enter Tryz.func95, Tryz.ntmps95
  go_wp2_with fail
  refine (wayOf_2 _).mono ?_
  rintro e w0 ⟨rfl, hb0⟩
  go_wp2_with fail
  refine (implSetOk_eq hk (h.keep hb0)).mono ?_
  rintro e w1 ⟨rfl, hb1⟩
  have hbw1 := bStep hb0 hb1
  have hs1 := hbw1.size
  obtain ⟨a, cap, rfl, hc, hm, hn, hcells⟩ := Is.open (h.keep hbw1)
  unfold maxLen at hm
  have HC := (show Hid _ from hcells)
  clear hcells h hk hb0 hb1
  have m0 : MapIs thV thOk (w1.alloc (.map #[] 0)) w1.heap.size [] := MapIs.new w1 rfl
  have hbm : Below w1.heap.size w1 (w1.alloc (.map #[] 0)) := bAlloc (Below.refl _ _) _
  go_wp2_with fail
  clear hmm
  go_loopw [27] (fun i wr => ∃ (k : Nat) (M : List It), k ≤ l.length ∧ i = .int .i64 k ∧ MapIs thV thOk wr w1.heap.size M ∧ (∀ s, tot M s = tot (eachT 2 (l.take k)) s) ∧ M.length ≤ k ∧ Below w1.heap.size w1 wr) (fun i _ => l.length - (intOf i).toNat)
  case atStart => exact ⟨0, [], by omega, rfl, m0, fun s => by simp [eachT], by simp, hbm⟩
  case round =>
    clear m0 hbm
    obtain ⟨k, M, hkl, rfl, hmap, htot, hML, hb⟩ := hrel
    have HT := (show Hid _ from htot)
    clear htot
    by_cases hlt : k < l.length
    · obtain ⟨g, off, K, V, D, rfl, hg, hr, c0, c1, c2⟩ := HC.out k hlt
      have hit := HK.out k _ _ hr
      have d0 := cell_below hb c0
      have d1 := cell_below hb c1
      have d2 := cell_below hb c2
      have HR := (show Hid _ from hr)
      have ik : ((k : Int) < (l.length : Int)) := by omega
      have bx := Bk.new (w := wr) #[.int .i64 K, .int .i64 V, .int .i64 D] 63 rfl
      have hbx0 : Below wr.heap.size wr (wr.alloc (.cells #[.int .i64 K, .int .i64 V, .int .i64 D] 63)) := bAlloc (Below.refl _ _) _
      have hbx := bStep hb hbx0
      have mx := hmap.keep hbx0
      obtain ⟨i1, i2, i3, i4⟩ := hit
      have HIT : Hid (thOk (wayM 2 (K, V))) := it_th (way_k ⟨i1, i2, i3, i4⟩)
      simp only at i1 i2 i3 i4
      clear c0 c1 c2 hr hmap hbx0 hb
      go_upto_region 8 with fail
      clear d0 d1 d2
      generalize wr.heap.size = tb at *
      generalize World.alloc _ _ = wx at *
      obtain ⟨q0, q1, q2⟩ := bx.three
      go_wp2_with fail
      refine (way2_any K V _ i1 i2 i3 i4).mono ?_
      rintro e wy ⟨rfl, hby⟩
      have by1 := bx.keep hby
      have my := mx.keep hby
      have hbn := bStep hbx hby
      have HM : Hid (wayM 2 (K, V) = ((wayM 2 (K, V)).1, (wayM 2 (K, V)).2)) := rfl
      have HYES : Hid (wayP 2 (K, V) = true → eachT 2 (l.take (k + 1)) = eachT 2 (l.take k) ++ [(wayM 2 (K, V), D)]) := fun hp => eachT_yes HR.out hp
      have HNO : Hid (wayP 2 (K, V) = false → eachT 2 (l.take (k + 1)) = eachT 2 (l.take k)) := fun hp => eachT_no HR.out hp
      clear q0 q1 q2 bx mx hbx hby
      generalize (wayM 2 (K, V)).1 = K2 at *
      generalize (wayM 2 (K, V)).2 = V2 at *
      generalize hP : wayP 2 (K, V) = r at *
      clear hP
      have bt0 := Bk.new (w := wy) #[.int .i64 K2, .int .i64 V2] 82 rfl
      have hbt : Below wy.heap.size wy (wy.alloc (.cells #[.int .i64 K2, .int .i64 V2] 82)) := bAlloc (Below.refl _ _) _
      have bz := by1.keep hbt
      have mz := my.keep hbt
      have hbz := bStep hbn hbt
      have hmt := mz.lt
      go_upto_region 9 with fail
      clear by1 my hbn hbt
      generalize wy.heap.size = ub at *
      generalize World.alloc _ _ = wt at *
      cases r
      · have HZ : Hid (eachT 2 (l.take (k + 1)) = eachT 2 (l.take k)) := HNO.out rfl
        go_wp2_with fail
        go_roundw
        case rel => exact ⟨k + 1, M, by omega, by go_num, mz, (by rw [HZ.out]; exact HT.out), by omega, hbz⟩
        case measure => simp [intOf]; omega
      · have HZ : Hid (eachT 2 (l.take (k + 1)) = eachT 2 (l.take k) ++ [((K2, V2), D)]) := by show _ = _; rw [HYES.out rfl, HM.out]
        have hok : thOk (K2, V2) := by have := HIT.out; rw [HM.out] at this; exact this
        have hAk := HA.out (k + 1)
        rw [HZ.out, absum_append] at hAk
        obtain ⟨st, o1, o2, M', e1, e2, e3, hM', ht', hl2⟩ := MapIs.enter (mz.move (w1 := wt.drew) rfl) encT Tryz.underlying77 zeroI hok (tot M (K2, V2) + D)
        change (Instr.entryStore _ _ (.int .i64 (st : Int)) _).run _ _ = _ at e3
        have e0 := MapIs.look (mz.move (w1 := wt.drew) rfl) encT Tryz.underlying77 zeroI hok
        obtain ⟨y0, y1, y2⟩ := bz.three
        obtain ⟨t0, t1, _, _⟩ := bt0.two
        have hsum : -4611686018427387904 ≤ tot M (K2, V2) + D ∧ tot M (K2, V2) + D ≤ 4611686018427387904 := by
          have h1 := tot_abs (eachT 2 (l.take k)) (K2, V2)
          rw [← HT.out] at h1
          simp only [absum] at hAk
          have := absum_pos (eachT 2 (l.take k))
          omega
        have HN : Hid (∀ s, tot M' s = tot (eachT 2 (l.take (k + 1))) s) := fun s => by
          rw [ht', HZ.out, tot_snoc]
          by_cases e : (K2, V2) = s
          · rw [if_pos e, if_pos e, ← HT.out, e]
          · rw [if_neg e, if_neg e, HT.out]; omega
        clear ht' hAk
        obtain ⟨hs1', hs2'⟩ := hsum
        generalize hT : tot M (K2, V2) = T at *
        have hTT : Hid (tot M (K2, V2) = T) := hT
        clear hT
        have iw : IntKind.i64.wrap (T + D) = T + D := by rw [IntKind.wrap_i64]; omega
        go_upto_region 10 with fail
        go_region
        clear e0 e1 e2 e3
        have hb2 : Below w1.heap.size w1 (setBlock wt.drew w1.heap.size o2) := below_setBlock hbz.drew (Nat.le_refl _)
        generalize setBlock wt.drew w1.heap.size o2 = w7 at *
        go_wp2_with fail
        go_roundw
        case rel => exact ⟨k + 1, M', by omega, by go_num, hM', HN.out, by omega, hb2⟩
        case measure => simp [intOf]; omega
    · obtain rfl : k = l.length := by omega
      have HT2 : Hid (∀ s, tot M s = tot (eachT 2 l) s) := fun s => by rw [HT.out, List.take_length]
      have hbr := bStep hbw1 hb
      have hbrs := hbr.size
      clear HT
      go_wp2_with fail
      refine (itemsOf_k w1.heap.size wr hmap (by omega) HT2.out).mono ?_
      rintro e w8 ⟨o8, rfl, own8, hb8⟩
      have O8 : Hid (OwnI w8 wr.heap.size o8 (sumL ltT (eachT 2 l))) := own8
      clear own8
      go_wp2_with fail
      go_ret
      refine ⟨_, rfl, ?_, bStep hbr hb8⟩
      rw [HF.out]
      exact own_less O8.out hbrs
set_option maxHeartbeats 2000000 in
theorem wayOf_3 (w : World) : Calls Tryz.prog 87 #[.int .i64 3] w fun e w' => e = .returned (.tuple #[.func (.func 133) #[] #[], .bool true]) ∧ Below w.heap.size w w' := by
  go_enter Tryz.func87, Tryz.ntmps87
  go_wp2_with fail
  refine bodyPost_ret (by simp [results, Tryz.results87, go_sem]; try rfl) rfl ?_
  exact ⟨rfl, bAlloc (Below.refl _ _) _⟩
set_option maxRecDepth 100000 in
set_option maxHeartbeats 8000000 in
theorem implSetEach_3 (v : Value) (l : List It) (w : World) (h : Is w v l) :
    Calls Tryz.prog 95 #[v, .int .i64 3] w fun e w' => ∃ o : Value, e = .returned o ∧ OwnI w' w.heap.size o (eachS l 3) ∧ Below w.heap.size w w' := by
  cases hk : sokB l
  · have HF : Hid (eachS l 3 = []) := each_no1 hk
    go_enter Tryz.func95, Tryz.ntmps95
    go_wp2_with fail
    refine (wayOf_3 _).mono ?_
    rintro e w1 ⟨rfl, hb1⟩
    go_wp2_with fail
    refine (implSetOk_eq hk (h.keep hb1)).mono ?_
    rintro e w2 ⟨rfl, hb2⟩
    go_wp2_with fail
    go_ret
    refine ⟨_, rfl, ?_, bStep hb1 hb2⟩
    rw [HF.out]
    exact ownK_nil _ _ _ _ _
  have HF : Hid (eachS l 3 = sumL ltT (eachT 3 l)) := each_yes hk (by decide)
  have hl := sok_len hk
  have HK : Hid (∀ (k : Nat) (s : Int × Int) (d : Int), l[k]? = some (s, d) → itK s) := fun k s d hr => sok_k hk _ (List.mem_of_getElem? hr)
  have HA : Hid (∀ k : Nat, absum (eachT 3 (l.take k)) ≤ 439804651110400) := fun k => by have h1 := each_abs 3 (l.take k); have h2 := sok_take hk k; omega
  have hmm := @run_makeMap Tryz.prog
  go_enter Tryz.func95, Tryz.ntmps95
  go_wp2_with fail
  refine (wayOf_3 _).mono ?_
  rintro e w0 ⟨rfl, hb0⟩
  go_wp2_with fail
  refine (implSetOk_eq hk (h.keep hb0)).mono ?_
  rintro e w1 ⟨rfl, hb1⟩
  have hbw1 := bStep hb0 hb1
  have hs1 := hbw1.size
  obtain ⟨a, cap, rfl, hc, hm, hn, hcells⟩ := Is.open (h.keep hbw1)
  unfold maxLen at hm
  have HC := (show Hid _ from hcells)
  clear hcells h hk hb0 hb1
  have m0 : MapIs thV thOk (w1.alloc (.map #[] 0)) w1.heap.size [] := MapIs.new w1 rfl
  have hbm : Below w1.heap.size w1 (w1.alloc (.map #[] 0)) := bAlloc (Below.refl _ _) _
  go_wp2_with fail
  clear hmm
  go_loopw [27] (fun i wr => ∃ (k : Nat) (M : List It), k ≤ l.length ∧ i = .int .i64 k ∧ MapIs thV thOk wr w1.heap.size M ∧ (∀ s, tot M s = tot (eachT 3 (l.take k)) s) ∧ M.length ≤ k ∧ Below w1.heap.size w1 wr) (fun i _ => l.length - (intOf i).toNat)
  case atStart => exact ⟨0, [], by omega, rfl, m0, fun s => by simp [eachT], by simp, hbm⟩
  case round =>
    clear m0 hbm
    obtain ⟨k, M, hkl, rfl, hmap, htot, hML, hb⟩ := hrel
    have HT := (show Hid _ from htot)
    clear htot
    by_cases hlt : k < l.length
    · obtain ⟨g, off, K, V, D, rfl, hg, hr, c0, c1, c2⟩ := HC.out k hlt
      have hit := HK.out k _ _ hr
      have d0 := cell_below hb c0
      have d1 := cell_below hb c1
      have d2 := cell_below hb c2
      have HR := (show Hid _ from hr)
      have ik : ((k : Int) < (l.length : Int)) := by omega
      have bx := Bk.new (w := wr) #[.int .i64 K, .int .i64 V, .int .i64 D] 63 rfl
      have hbx0 : Below wr.heap.size wr (wr.alloc (.cells #[.int .i64 K, .int .i64 V, .int .i64 D] 63)) := bAlloc (Below.refl _ _) _
      have hbx := bStep hb hbx0
      have mx := hmap.keep hbx0
      obtain ⟨i1, i2, i3, i4⟩ := hit
      have HIT : Hid (thOk (wayM 3 (K, V))) := it_th (way_k ⟨i1, i2, i3, i4⟩)
      simp only at i1 i2 i3 i4
      clear c0 c1 c2 hr hmap hbx0 hb
      go_upto_region 8 with fail
      clear d0 d1 d2
      generalize wr.heap.size = tb at *
      generalize World.alloc _ _ = wx at *
      obtain ⟨q0, q1, q2⟩ := bx.three
      go_wp2_with fail
      refine (way3_any K V _ i1 i2 i3 i4).mono ?_
      rintro e wy ⟨rfl, hby⟩
      have by1 := bx.keep hby
      have my := mx.keep hby
      have hbn := bStep hbx hby
      have HM : Hid (wayM 3 (K, V) = ((wayM 3 (K, V)).1, (wayM 3 (K, V)).2)) := rfl
      have HYES : Hid (wayP 3 (K, V) = true → eachT 3 (l.take (k + 1)) = eachT 3 (l.take k) ++ [(wayM 3 (K, V), D)]) := fun hp => eachT_yes HR.out hp
      have HNO : Hid (wayP 3 (K, V) = false → eachT 3 (l.take (k + 1)) = eachT 3 (l.take k)) := fun hp => eachT_no HR.out hp
      clear q0 q1 q2 bx mx hbx hby
      generalize (wayM 3 (K, V)).1 = K2 at *
      generalize (wayM 3 (K, V)).2 = V2 at *
      generalize hP : wayP 3 (K, V) = r at *
      clear hP
      have bt0 := Bk.new (w := wy) #[.int .i64 K2, .int .i64 V2] 82 rfl
      have hbt : Below wy.heap.size wy (wy.alloc (.cells #[.int .i64 K2, .int .i64 V2] 82)) := bAlloc (Below.refl _ _) _
      have bz := by1.keep hbt
      have mz := my.keep hbt
      have hbz := bStep hbn hbt
      have hmt := mz.lt
      go_upto_region 9 with fail
      clear by1 my hbn hbt
      generalize wy.heap.size = ub at *
      generalize World.alloc _ _ = wt at *
      cases r
      · have HZ : Hid (eachT 3 (l.take (k + 1)) = eachT 3 (l.take k)) := HNO.out rfl
        go_wp2_with fail
        go_roundw
        case rel => exact ⟨k + 1, M, by omega, by go_num, mz, (by rw [HZ.out]; exact HT.out), by omega, hbz⟩
        case measure => simp [intOf]; omega
      · have HZ : Hid (eachT 3 (l.take (k + 1)) = eachT 3 (l.take k) ++ [((K2, V2), D)]) := by show _ = _; rw [HYES.out rfl, HM.out]
        have hok : thOk (K2, V2) := by have := HIT.out; rw [HM.out] at this; exact this
        have hAk := HA.out (k + 1)
        rw [HZ.out, absum_append] at hAk
        obtain ⟨st, o1, o2, M', e1, e2, e3, hM', ht', hl2⟩ := MapIs.enter (mz.move (w1 := wt.drew) rfl) encT Tryz.underlying77 zeroI hok (tot M (K2, V2) + D)
        change (Instr.entryStore _ _ (.int .i64 (st : Int)) _).run _ _ = _ at e3
        have e0 := MapIs.look (mz.move (w1 := wt.drew) rfl) encT Tryz.underlying77 zeroI hok
        obtain ⟨y0, y1, y2⟩ := bz.three
        obtain ⟨t0, t1, _, _⟩ := bt0.two
        have hsum : -4611686018427387904 ≤ tot M (K2, V2) + D ∧ tot M (K2, V2) + D ≤ 4611686018427387904 := by
          have h1 := tot_abs (eachT 3 (l.take k)) (K2, V2)
          rw [← HT.out] at h1
          simp only [absum] at hAk
          have := absum_pos (eachT 3 (l.take k))
          omega
        have HN : Hid (∀ s, tot M' s = tot (eachT 3 (l.take (k + 1))) s) := fun s => by
          rw [ht', HZ.out, tot_snoc]
          by_cases e : (K2, V2) = s
          · rw [if_pos e, if_pos e, ← HT.out, e]
          · rw [if_neg e, if_neg e, HT.out]; omega
        clear ht' hAk
        obtain ⟨hs1', hs2'⟩ := hsum
        generalize hT : tot M (K2, V2) = T at *
        have hTT : Hid (tot M (K2, V2) = T) := hT
        clear hT
        have iw : IntKind.i64.wrap (T + D) = T + D := by rw [IntKind.wrap_i64]; omega
        go_upto_region 10 with fail
        go_region
        clear e0 e1 e2 e3
        have hb2 : Below w1.heap.size w1 (setBlock wt.drew w1.heap.size o2) := below_setBlock hbz.drew (Nat.le_refl _)
        generalize setBlock wt.drew w1.heap.size o2 = w7 at *
        go_wp2_with fail
        go_roundw
        case rel => exact ⟨k + 1, M', by omega, by go_num, hM', HN.out, by omega, hb2⟩
        case measure => simp [intOf]; omega
    · obtain rfl : k = l.length := by omega
      have HT2 : Hid (∀ s, tot M s = tot (eachT 3 l) s) := fun s => by rw [HT.out, List.take_length]
      have hbr := bStep hbw1 hb
      have hbrs := hbr.size
      clear HT
      go_wp2_with fail
      refine (itemsOf_k w1.heap.size wr hmap (by omega) HT2.out).mono ?_
      rintro e w8 ⟨o8, rfl, own8, hb8⟩
      have O8 : Hid (OwnI w8 wr.heap.size o8 (sumL ltT (eachT 3 l))) := own8
      clear own8
      go_wp2_with fail
      go_ret
      refine ⟨_, rfl, ?_, bStep hbr hb8⟩
      rw [HF.out]
      exact own_less O8.out hbrs
end Go.Proofs.YtldejkhemkjcgaaGreatDoor
namespace Go.Proofs.YtldejkhemkjcgaaGreatDoor
open Go.RowKit
open Go.ChangeMaps (setBlock)
set_option maxHeartbeats 2000000 in
theorem wayOf_4 (w : World) : Calls Tryz.prog 87 #[.int .i64 4] w fun e w' => e = .returned (.tuple #[.func (.func 134) #[] #[], .bool true]) ∧ Below w.heap.size w w' := by
  go_enter Tryz.func87, Tryz.ntmps87
  go_wp2_with fail
  refine bodyPost_ret (by simp [results, Tryz.results87, go_sem]; try rfl) rfl ?_
  exact ⟨rfl, bAlloc (Below.refl _ _) _⟩
set_option maxRecDepth 100000 in
set_option maxHeartbeats 8000000 in
theorem implSetEach_4 (v : Value) (l : List It) (w : World) (h : Is w v l) :
    Calls Tryz.prog 95 #[v, .int .i64 4] w fun e w' => ∃ o : Value, e = .returned o ∧ OwnI w' w.heap.size o (eachS l 4) ∧ Below w.heap.size w w' := by
  cases hk : sokB l
  · have HF : Hid (eachS l 4 = []) := each_no1 hk
    go_enter Tryz.func95, Tryz.ntmps95
    go_wp2_with fail
    refine (wayOf_4 _).mono ?_
    rintro e w1 ⟨rfl, hb1⟩
    go_wp2_with fail
    refine (implSetOk_eq hk (h.keep hb1)).mono ?_
    rintro e w2 ⟨rfl, hb2⟩
    go_wp2_with fail
    go_ret
    refine ⟨_, rfl, ?_, bStep hb1 hb2⟩
    rw [HF.out]
    exact ownK_nil _ _ _ _ _
  have HF : Hid (eachS l 4 = sumL ltT (eachT 4 l)) := each_yes hk (by decide)
  have hl := sok_len hk
  have HK : Hid (∀ (k : Nat) (s : Int × Int) (d : Int), l[k]? = some (s, d) → itK s) := fun k s d hr => sok_k hk _ (List.mem_of_getElem? hr)
  have HA : Hid (∀ k : Nat, absum (eachT 4 (l.take k)) ≤ 439804651110400) := fun k => by have h1 := each_abs 4 (l.take k); have h2 := sok_take hk k; omega
  have hmm := @run_makeMap Tryz.prog
  go_enter Tryz.func95, Tryz.ntmps95
  go_wp2_with fail
  refine (wayOf_4 _).mono ?_
  rintro e w0 ⟨rfl, hb0⟩
  go_wp2_with fail
  refine (implSetOk_eq hk (h.keep hb0)).mono ?_
  rintro e w1 ⟨rfl, hb1⟩
  have hbw1 := bStep hb0 hb1
  have hs1 := hbw1.size
  obtain ⟨a, cap, rfl, hc, hm, hn, hcells⟩ := Is.open (h.keep hbw1)
  unfold maxLen at hm
  have HC := (show Hid _ from hcells)
  clear hcells h hk hb0 hb1
  have m0 : MapIs thV thOk (w1.alloc (.map #[] 0)) w1.heap.size [] := MapIs.new w1 rfl
  have hbm : Below w1.heap.size w1 (w1.alloc (.map #[] 0)) := bAlloc (Below.refl _ _) _
  go_wp2_with fail
  clear hmm
  go_loopw [27] (fun i wr => ∃ (k : Nat) (M : List It), k ≤ l.length ∧ i = .int .i64 k ∧ MapIs thV thOk wr w1.heap.size M ∧ (∀ s, tot M s = tot (eachT 4 (l.take k)) s) ∧ M.length ≤ k ∧ Below w1.heap.size w1 wr) (fun i _ => l.length - (intOf i).toNat)
  case atStart => exact ⟨0, [], by omega, rfl, m0, fun s => by simp [eachT], by simp, hbm⟩
  case round =>
    clear m0 hbm
    obtain ⟨k, M, hkl, rfl, hmap, htot, hML, hb⟩ := hrel
    have HT := (show Hid _ from htot)
    clear htot
    by_cases hlt : k < l.length
    · obtain ⟨g, off, K, V, D, rfl, hg, hr, c0, c1, c2⟩ := HC.out k hlt
      have hit := HK.out k _ _ hr
      have d0 := cell_below hb c0
      have d1 := cell_below hb c1
      have d2 := cell_below hb c2
      have HR := (show Hid _ from hr)
      have ik : ((k : Int) < (l.length : Int)) := by omega
      have bx := Bk.new (w := wr) #[.int .i64 K, .int .i64 V, .int .i64 D] 63 rfl
      have hbx0 : Below wr.heap.size wr (wr.alloc (.cells #[.int .i64 K, .int .i64 V, .int .i64 D] 63)) := bAlloc (Below.refl _ _) _
      have hbx := bStep hb hbx0
      have mx := hmap.keep hbx0
      obtain ⟨i1, i2, i3, i4⟩ := hit
      have HIT : Hid (thOk (wayM 4 (K, V))) := it_th (way_k ⟨i1, i2, i3, i4⟩)
      simp only at i1 i2 i3 i4
      clear c0 c1 c2 hr hmap hbx0 hb
      go_upto_region 8 with fail
      clear d0 d1 d2
      generalize wr.heap.size = tb at *
      generalize World.alloc _ _ = wx at *
      obtain ⟨q0, q1, q2⟩ := bx.three
      go_wp2_with fail
      refine (way4_any K V _ i1 i2 i3 i4).mono ?_
      rintro e wy ⟨rfl, hby⟩
      have by1 := bx.keep hby
      have my := mx.keep hby
      have hbn := bStep hbx hby
      have HM : Hid (wayM 4 (K, V) = ((wayM 4 (K, V)).1, (wayM 4 (K, V)).2)) := rfl
      have HYES : Hid (wayP 4 (K, V) = true → eachT 4 (l.take (k + 1)) = eachT 4 (l.take k) ++ [(wayM 4 (K, V), D)]) := fun hp => eachT_yes HR.out hp
      have HNO : Hid (wayP 4 (K, V) = false → eachT 4 (l.take (k + 1)) = eachT 4 (l.take k)) := fun hp => eachT_no HR.out hp
      clear q0 q1 q2 bx mx hbx hby
      generalize (wayM 4 (K, V)).1 = K2 at *
      generalize (wayM 4 (K, V)).2 = V2 at *
      generalize hP : wayP 4 (K, V) = r at *
      clear hP
      have bt0 := Bk.new (w := wy) #[.int .i64 K2, .int .i64 V2] 82 rfl
      have hbt : Below wy.heap.size wy (wy.alloc (.cells #[.int .i64 K2, .int .i64 V2] 82)) := bAlloc (Below.refl _ _) _
      have bz := by1.keep hbt
      have mz := my.keep hbt
      have hbz := bStep hbn hbt
      have hmt := mz.lt
      go_upto_region 9 with fail
      clear by1 my hbn hbt
      generalize wy.heap.size = ub at *
      generalize World.alloc _ _ = wt at *
      cases r
      · have HZ : Hid (eachT 4 (l.take (k + 1)) = eachT 4 (l.take k)) := HNO.out rfl
        go_wp2_with fail
        go_roundw
        case rel => exact ⟨k + 1, M, by omega, by go_num, mz, (by rw [HZ.out]; exact HT.out), by omega, hbz⟩
        case measure => simp [intOf]; omega
      · have HZ : Hid (eachT 4 (l.take (k + 1)) = eachT 4 (l.take k) ++ [((K2, V2), D)]) := by show _ = _; rw [HYES.out rfl, HM.out]
        have hok : thOk (K2, V2) := by have := HIT.out; rw [HM.out] at this; exact this
        have hAk := HA.out (k + 1)
        rw [HZ.out, absum_append] at hAk
        obtain ⟨st, o1, o2, M', e1, e2, e3, hM', ht', hl2⟩ := MapIs.enter (mz.move (w1 := wt.drew) rfl) encT Tryz.underlying77 zeroI hok (tot M (K2, V2) + D)
        change (Instr.entryStore _ _ (.int .i64 (st : Int)) _).run _ _ = _ at e3
        have e0 := MapIs.look (mz.move (w1 := wt.drew) rfl) encT Tryz.underlying77 zeroI hok
        obtain ⟨y0, y1, y2⟩ := bz.three
        obtain ⟨t0, t1, _, _⟩ := bt0.two
        have hsum : -4611686018427387904 ≤ tot M (K2, V2) + D ∧ tot M (K2, V2) + D ≤ 4611686018427387904 := by
          have h1 := tot_abs (eachT 4 (l.take k)) (K2, V2)
          rw [← HT.out] at h1
          simp only [absum] at hAk
          have := absum_pos (eachT 4 (l.take k))
          omega
        have HN : Hid (∀ s, tot M' s = tot (eachT 4 (l.take (k + 1))) s) := fun s => by
          rw [ht', HZ.out, tot_snoc]
          by_cases e : (K2, V2) = s
          · rw [if_pos e, if_pos e, ← HT.out, e]
          · rw [if_neg e, if_neg e, HT.out]; omega
        clear ht' hAk
        obtain ⟨hs1', hs2'⟩ := hsum
        generalize hT : tot M (K2, V2) = T at *
        have hTT : Hid (tot M (K2, V2) = T) := hT
        clear hT
        have iw : IntKind.i64.wrap (T + D) = T + D := by rw [IntKind.wrap_i64]; omega
        go_upto_region 10 with fail
        go_region
        clear e0 e1 e2 e3
        have hb2 : Below w1.heap.size w1 (setBlock wt.drew w1.heap.size o2) := below_setBlock hbz.drew (Nat.le_refl _)
        generalize setBlock wt.drew w1.heap.size o2 = w7 at *
        go_wp2_with fail
        go_roundw
        case rel => exact ⟨k + 1, M', by omega, by go_num, hM', HN.out, by omega, hb2⟩
        case measure => simp [intOf]; omega
    · obtain rfl : k = l.length := by omega
      have HT2 : Hid (∀ s, tot M s = tot (eachT 4 l) s) := fun s => by rw [HT.out, List.take_length]
      have hbr := bStep hbw1 hb
      have hbrs := hbr.size
      clear HT
      go_wp2_with fail
      refine (itemsOf_k w1.heap.size wr hmap (by omega) HT2.out).mono ?_
      rintro e w8 ⟨o8, rfl, own8, hb8⟩
      have O8 : Hid (OwnI w8 wr.heap.size o8 (sumL ltT (eachT 4 l))) := own8
      clear own8
      go_wp2_with fail
      go_ret
      refine ⟨_, rfl, ?_, bStep hbr hb8⟩
      rw [HF.out]
      exact own_less O8.out hbrs
set_option maxHeartbeats 2000000 in
theorem wayOf_5 (w : World) : Calls Tryz.prog 87 #[.int .i64 5] w fun e w' => e = .returned (.tuple #[.func (.func 135) #[] #[], .bool true]) ∧ Below w.heap.size w w' := by
  go_enter Tryz.func87, Tryz.ntmps87
  go_wp2_with fail
  refine bodyPost_ret (by simp [results, Tryz.results87, go_sem]; try rfl) rfl ?_
  exact ⟨rfl, bAlloc (Below.refl _ _) _⟩
set_option maxRecDepth 100000 in
set_option maxHeartbeats 8000000 in
theorem implSetEach_5 (v : Value) (l : List It) (w : World) (h : Is w v l) :
    Calls Tryz.prog 95 #[v, .int .i64 5] w fun e w' => ∃ o : Value, e = .returned o ∧ OwnI w' w.heap.size o (eachS l 5) ∧ Below w.heap.size w w' := by
  cases hk : sokB l
  · have HF : Hid (eachS l 5 = []) := each_no1 hk
    go_enter Tryz.func95, Tryz.ntmps95
    go_wp2_with fail
    refine (wayOf_5 _).mono ?_
    rintro e w1 ⟨rfl, hb1⟩
    go_wp2_with fail
    refine (implSetOk_eq hk (h.keep hb1)).mono ?_
    rintro e w2 ⟨rfl, hb2⟩
    go_wp2_with fail
    go_ret
    refine ⟨_, rfl, ?_, bStep hb1 hb2⟩
    rw [HF.out]
    exact ownK_nil _ _ _ _ _
  have HF : Hid (eachS l 5 = sumL ltT (eachT 5 l)) := each_yes hk (by decide)
  have hl := sok_len hk
  have HK : Hid (∀ (k : Nat) (s : Int × Int) (d : Int), l[k]? = some (s, d) → itK s) := fun k s d hr => sok_k hk _ (List.mem_of_getElem? hr)
  have HA : Hid (∀ k : Nat, absum (eachT 5 (l.take k)) ≤ 439804651110400) := fun k => by have h1 := each_abs 5 (l.take k); have h2 := sok_take hk k; omega
  have hmm := @run_makeMap Tryz.prog
  go_enter Tryz.func95, Tryz.ntmps95
  go_wp2_with fail
  refine (wayOf_5 _).mono ?_
  rintro e w0 ⟨rfl, hb0⟩
  go_wp2_with fail
  refine (implSetOk_eq hk (h.keep hb0)).mono ?_
  rintro e w1 ⟨rfl, hb1⟩
  have hbw1 := bStep hb0 hb1
  have hs1 := hbw1.size
  obtain ⟨a, cap, rfl, hc, hm, hn, hcells⟩ := Is.open (h.keep hbw1)
  unfold maxLen at hm
  have HC := (show Hid _ from hcells)
  clear hcells h hk hb0 hb1
  have m0 : MapIs thV thOk (w1.alloc (.map #[] 0)) w1.heap.size [] := MapIs.new w1 rfl
  have hbm : Below w1.heap.size w1 (w1.alloc (.map #[] 0)) := bAlloc (Below.refl _ _) _
  go_wp2_with fail
  clear hmm
  go_loopw [27] (fun i wr => ∃ (k : Nat) (M : List It), k ≤ l.length ∧ i = .int .i64 k ∧ MapIs thV thOk wr w1.heap.size M ∧ (∀ s, tot M s = tot (eachT 5 (l.take k)) s) ∧ M.length ≤ k ∧ Below w1.heap.size w1 wr) (fun i _ => l.length - (intOf i).toNat)
  case atStart => exact ⟨0, [], by omega, rfl, m0, fun s => by simp [eachT], by simp, hbm⟩
  case round =>
    clear m0 hbm
    obtain ⟨k, M, hkl, rfl, hmap, htot, hML, hb⟩ := hrel
    have HT := (show Hid _ from htot)
    clear htot
    by_cases hlt : k < l.length
    · obtain ⟨g, off, K, V, D, rfl, hg, hr, c0, c1, c2⟩ := HC.out k hlt
      have hit := HK.out k _ _ hr
      have d0 := cell_below hb c0
      have d1 := cell_below hb c1
      have d2 := cell_below hb c2
      have HR := (show Hid _ from hr)
      have ik : ((k : Int) < (l.length : Int)) := by omega
      have bx := Bk.new (w := wr) #[.int .i64 K, .int .i64 V, .int .i64 D] 63 rfl
      have hbx0 : Below wr.heap.size wr (wr.alloc (.cells #[.int .i64 K, .int .i64 V, .int .i64 D] 63)) := bAlloc (Below.refl _ _) _
      have hbx := bStep hb hbx0
      have mx := hmap.keep hbx0
      obtain ⟨i1, i2, i3, i4⟩ := hit
      have HIT : Hid (thOk (wayM 5 (K, V))) := it_th (way_k ⟨i1, i2, i3, i4⟩)
      simp only at i1 i2 i3 i4
      clear c0 c1 c2 hr hmap hbx0 hb
      go_upto_region 8 with fail
      clear d0 d1 d2
      generalize wr.heap.size = tb at *
      generalize World.alloc _ _ = wx at *
      obtain ⟨q0, q1, q2⟩ := bx.three
      go_wp2_with fail
      refine (way5_any K V _ i1 i2 i3 i4).mono ?_
      rintro e wy ⟨rfl, hby⟩
      have by1 := bx.keep hby
      have my := mx.keep hby
      have hbn := bStep hbx hby
      have HM : Hid (wayM 5 (K, V) = ((wayM 5 (K, V)).1, (wayM 5 (K, V)).2)) := rfl
      have HYES : Hid (wayP 5 (K, V) = true → eachT 5 (l.take (k + 1)) = eachT 5 (l.take k) ++ [(wayM 5 (K, V), D)]) := fun hp => eachT_yes HR.out hp
      have HNO : Hid (wayP 5 (K, V) = false → eachT 5 (l.take (k + 1)) = eachT 5 (l.take k)) := fun hp => eachT_no HR.out hp
      clear q0 q1 q2 bx mx hbx hby
      generalize (wayM 5 (K, V)).1 = K2 at *
      generalize (wayM 5 (K, V)).2 = V2 at *
      generalize hP : wayP 5 (K, V) = r at *
      clear hP
      have bt0 := Bk.new (w := wy) #[.int .i64 K2, .int .i64 V2] 82 rfl
      have hbt : Below wy.heap.size wy (wy.alloc (.cells #[.int .i64 K2, .int .i64 V2] 82)) := bAlloc (Below.refl _ _) _
      have bz := by1.keep hbt
      have mz := my.keep hbt
      have hbz := bStep hbn hbt
      have hmt := mz.lt
      go_upto_region 9 with fail
      clear by1 my hbn hbt
      generalize wy.heap.size = ub at *
      generalize World.alloc _ _ = wt at *
      cases r
      · have HZ : Hid (eachT 5 (l.take (k + 1)) = eachT 5 (l.take k)) := HNO.out rfl
        go_wp2_with fail
        go_roundw
        case rel => exact ⟨k + 1, M, by omega, by go_num, mz, (by rw [HZ.out]; exact HT.out), by omega, hbz⟩
        case measure => simp [intOf]; omega
      · have HZ : Hid (eachT 5 (l.take (k + 1)) = eachT 5 (l.take k) ++ [((K2, V2), D)]) := by show _ = _; rw [HYES.out rfl, HM.out]
        have hok : thOk (K2, V2) := by have := HIT.out; rw [HM.out] at this; exact this
        have hAk := HA.out (k + 1)
        rw [HZ.out, absum_append] at hAk
        obtain ⟨st, o1, o2, M', e1, e2, e3, hM', ht', hl2⟩ := MapIs.enter (mz.move (w1 := wt.drew) rfl) encT Tryz.underlying77 zeroI hok (tot M (K2, V2) + D)
        change (Instr.entryStore _ _ (.int .i64 (st : Int)) _).run _ _ = _ at e3
        have e0 := MapIs.look (mz.move (w1 := wt.drew) rfl) encT Tryz.underlying77 zeroI hok
        obtain ⟨y0, y1, y2⟩ := bz.three
        obtain ⟨t0, t1, _, _⟩ := bt0.two
        have hsum : -4611686018427387904 ≤ tot M (K2, V2) + D ∧ tot M (K2, V2) + D ≤ 4611686018427387904 := by
          have h1 := tot_abs (eachT 5 (l.take k)) (K2, V2)
          rw [← HT.out] at h1
          simp only [absum] at hAk
          have := absum_pos (eachT 5 (l.take k))
          omega
        have HN : Hid (∀ s, tot M' s = tot (eachT 5 (l.take (k + 1))) s) := fun s => by
          rw [ht', HZ.out, tot_snoc]
          by_cases e : (K2, V2) = s
          · rw [if_pos e, if_pos e, ← HT.out, e]
          · rw [if_neg e, if_neg e, HT.out]; omega
        clear ht' hAk
        obtain ⟨hs1', hs2'⟩ := hsum
        generalize hT : tot M (K2, V2) = T at *
        have hTT : Hid (tot M (K2, V2) = T) := hT
        clear hT
        have iw : IntKind.i64.wrap (T + D) = T + D := by rw [IntKind.wrap_i64]; omega
        go_upto_region 10 with fail
        go_region
        clear e0 e1 e2 e3
        have hb2 : Below w1.heap.size w1 (setBlock wt.drew w1.heap.size o2) := below_setBlock hbz.drew (Nat.le_refl _)
        generalize setBlock wt.drew w1.heap.size o2 = w7 at *
        go_wp2_with fail
        go_roundw
        case rel => exact ⟨k + 1, M', by omega, by go_num, hM', HN.out, by omega, hb2⟩
        case measure => simp [intOf]; omega
    · obtain rfl : k = l.length := by omega
      have HT2 : Hid (∀ s, tot M s = tot (eachT 5 l) s) := fun s => by rw [HT.out, List.take_length]
      have hbr := bStep hbw1 hb
      have hbrs := hbr.size
      clear HT
      go_wp2_with fail
      refine (itemsOf_k w1.heap.size wr hmap (by omega) HT2.out).mono ?_
      rintro e w8 ⟨o8, rfl, own8, hb8⟩
      have O8 : Hid (OwnI w8 wr.heap.size o8 (sumL ltT (eachT 5 l))) := own8
      clear own8
      go_wp2_with fail
      go_ret
      refine ⟨_, rfl, ?_, bStep hbr hb8⟩
      rw [HF.out]
      exact own_less O8.out hbrs
set_option maxHeartbeats 2000000 in
theorem wayOf_6 (w : World) : Calls Tryz.prog 87 #[.int .i64 6] w fun e w' => e = .returned (.tuple #[.func (.func 136) #[] #[], .bool true]) ∧ Below w.heap.size w w' := by
  go_enter Tryz.func87, Tryz.ntmps87
  go_wp2_with fail
  refine bodyPost_ret (by simp [results, Tryz.results87, go_sem]; try rfl) rfl ?_
  exact ⟨rfl, bAlloc (Below.refl _ _) _⟩
set_option maxRecDepth 100000 in
set_option maxHeartbeats 8000000 in
theorem implSetEach_6 (v : Value) (l : List It) (w : World) (h : Is w v l) :
    Calls Tryz.prog 95 #[v, .int .i64 6] w fun e w' => ∃ o : Value, e = .returned o ∧ OwnI w' w.heap.size o (eachS l 6) ∧ Below w.heap.size w w' := by
  cases hk : sokB l
  · have HF : Hid (eachS l 6 = []) := each_no1 hk
    go_enter Tryz.func95, Tryz.ntmps95
    go_wp2_with fail
    refine (wayOf_6 _).mono ?_
    rintro e w1 ⟨rfl, hb1⟩
    go_wp2_with fail
    refine (implSetOk_eq hk (h.keep hb1)).mono ?_
    rintro e w2 ⟨rfl, hb2⟩
    go_wp2_with fail
    go_ret
    refine ⟨_, rfl, ?_, bStep hb1 hb2⟩
    rw [HF.out]
    exact ownK_nil _ _ _ _ _
  have HF : Hid (eachS l 6 = sumL ltT (eachT 6 l)) := each_yes hk (by decide)
  have hl := sok_len hk
  have HK : Hid (∀ (k : Nat) (s : Int × Int) (d : Int), l[k]? = some (s, d) → itK s) := fun k s d hr => sok_k hk _ (List.mem_of_getElem? hr)
  have HA : Hid (∀ k : Nat, absum (eachT 6 (l.take k)) ≤ 439804651110400) := fun k => by have h1 := each_abs 6 (l.take k); have h2 := sok_take hk k; omega
  have hmm := @run_makeMap Tryz.prog
  go_enter Tryz.func95, Tryz.ntmps95
  go_wp2_with fail
  refine (wayOf_6 _).mono ?_
  rintro e w0 ⟨rfl, hb0⟩
  go_wp2_with fail
  refine (implSetOk_eq hk (h.keep hb0)).mono ?_
  rintro e w1 ⟨rfl, hb1⟩
  have hbw1 := bStep hb0 hb1
  have hs1 := hbw1.size
  obtain ⟨a, cap, rfl, hc, hm, hn, hcells⟩ := Is.open (h.keep hbw1)
  unfold maxLen at hm
  have HC := (show Hid _ from hcells)
  clear hcells h hk hb0 hb1
  have m0 : MapIs thV thOk (w1.alloc (.map #[] 0)) w1.heap.size [] := MapIs.new w1 rfl
  have hbm : Below w1.heap.size w1 (w1.alloc (.map #[] 0)) := bAlloc (Below.refl _ _) _
  go_wp2_with fail
  clear hmm
  go_loopw [27] (fun i wr => ∃ (k : Nat) (M : List It), k ≤ l.length ∧ i = .int .i64 k ∧ MapIs thV thOk wr w1.heap.size M ∧ (∀ s, tot M s = tot (eachT 6 (l.take k)) s) ∧ M.length ≤ k ∧ Below w1.heap.size w1 wr) (fun i _ => l.length - (intOf i).toNat)
  case atStart => exact ⟨0, [], by omega, rfl, m0, fun s => by simp [eachT], by simp, hbm⟩
  case round =>
    clear m0 hbm
    obtain ⟨k, M, hkl, rfl, hmap, htot, hML, hb⟩ := hrel
    have HT := (show Hid _ from htot)
    clear htot
    by_cases hlt : k < l.length
    · obtain ⟨g, off, K, V, D, rfl, hg, hr, c0, c1, c2⟩ := HC.out k hlt
      have hit := HK.out k _ _ hr
      have d0 := cell_below hb c0
      have d1 := cell_below hb c1
      have d2 := cell_below hb c2
      have HR := (show Hid _ from hr)
      have ik : ((k : Int) < (l.length : Int)) := by omega
      have bx := Bk.new (w := wr) #[.int .i64 K, .int .i64 V, .int .i64 D] 63 rfl
      have hbx0 : Below wr.heap.size wr (wr.alloc (.cells #[.int .i64 K, .int .i64 V, .int .i64 D] 63)) := bAlloc (Below.refl _ _) _
      have hbx := bStep hb hbx0
      have mx := hmap.keep hbx0
      obtain ⟨i1, i2, i3, i4⟩ := hit
      have HIT : Hid (thOk (wayM 6 (K, V))) := it_th (way_k ⟨i1, i2, i3, i4⟩)
      simp only at i1 i2 i3 i4
      clear c0 c1 c2 hr hmap hbx0 hb
      go_upto_region 8 with fail
      clear d0 d1 d2
      generalize wr.heap.size = tb at *
      generalize World.alloc _ _ = wx at *
      obtain ⟨q0, q1, q2⟩ := bx.three
      go_wp2_with fail
      refine (way6_any K V _ i1 i2 i3 i4).mono ?_
      rintro e wy ⟨rfl, hby⟩
      have by1 := bx.keep hby
      have my := mx.keep hby
      have hbn := bStep hbx hby
      have HM : Hid (wayM 6 (K, V) = ((wayM 6 (K, V)).1, (wayM 6 (K, V)).2)) := rfl
      have HYES : Hid (wayP 6 (K, V) = true → eachT 6 (l.take (k + 1)) = eachT 6 (l.take k) ++ [(wayM 6 (K, V), D)]) := fun hp => eachT_yes HR.out hp
      have HNO : Hid (wayP 6 (K, V) = false → eachT 6 (l.take (k + 1)) = eachT 6 (l.take k)) := fun hp => eachT_no HR.out hp
      clear q0 q1 q2 bx mx hbx hby
      generalize (wayM 6 (K, V)).1 = K2 at *
      generalize (wayM 6 (K, V)).2 = V2 at *
      generalize hP : wayP 6 (K, V) = r at *
      clear hP
      have bt0 := Bk.new (w := wy) #[.int .i64 K2, .int .i64 V2] 82 rfl
      have hbt : Below wy.heap.size wy (wy.alloc (.cells #[.int .i64 K2, .int .i64 V2] 82)) := bAlloc (Below.refl _ _) _
      have bz := by1.keep hbt
      have mz := my.keep hbt
      have hbz := bStep hbn hbt
      have hmt := mz.lt
      go_upto_region 9 with fail
      clear by1 my hbn hbt
      generalize wy.heap.size = ub at *
      generalize World.alloc _ _ = wt at *
      cases r
      · have HZ : Hid (eachT 6 (l.take (k + 1)) = eachT 6 (l.take k)) := HNO.out rfl
        go_wp2_with fail
        go_roundw
        case rel => exact ⟨k + 1, M, by omega, by go_num, mz, (by rw [HZ.out]; exact HT.out), by omega, hbz⟩
        case measure => simp [intOf]; omega
      · have HZ : Hid (eachT 6 (l.take (k + 1)) = eachT 6 (l.take k) ++ [((K2, V2), D)]) := by show _ = _; rw [HYES.out rfl, HM.out]
        have hok : thOk (K2, V2) := by have := HIT.out; rw [HM.out] at this; exact this
        have hAk := HA.out (k + 1)
        rw [HZ.out, absum_append] at hAk
        obtain ⟨st, o1, o2, M', e1, e2, e3, hM', ht', hl2⟩ := MapIs.enter (mz.move (w1 := wt.drew) rfl) encT Tryz.underlying77 zeroI hok (tot M (K2, V2) + D)
        change (Instr.entryStore _ _ (.int .i64 (st : Int)) _).run _ _ = _ at e3
        have e0 := MapIs.look (mz.move (w1 := wt.drew) rfl) encT Tryz.underlying77 zeroI hok
        obtain ⟨y0, y1, y2⟩ := bz.three
        obtain ⟨t0, t1, _, _⟩ := bt0.two
        have hsum : -4611686018427387904 ≤ tot M (K2, V2) + D ∧ tot M (K2, V2) + D ≤ 4611686018427387904 := by
          have h1 := tot_abs (eachT 6 (l.take k)) (K2, V2)
          rw [← HT.out] at h1
          simp only [absum] at hAk
          have := absum_pos (eachT 6 (l.take k))
          omega
        have HN : Hid (∀ s, tot M' s = tot (eachT 6 (l.take (k + 1))) s) := fun s => by
          rw [ht', HZ.out, tot_snoc]
          by_cases e : (K2, V2) = s
          · rw [if_pos e, if_pos e, ← HT.out, e]
          · rw [if_neg e, if_neg e, HT.out]; omega
        clear ht' hAk
        obtain ⟨hs1', hs2'⟩ := hsum
        generalize hT : tot M (K2, V2) = T at *
        have hTT : Hid (tot M (K2, V2) = T) := hT
        clear hT
        have iw : IntKind.i64.wrap (T + D) = T + D := by rw [IntKind.wrap_i64]; omega
        go_upto_region 10 with fail
        go_region
        clear e0 e1 e2 e3
        have hb2 : Below w1.heap.size w1 (setBlock wt.drew w1.heap.size o2) := below_setBlock hbz.drew (Nat.le_refl _)
        generalize setBlock wt.drew w1.heap.size o2 = w7 at *
        go_wp2_with fail
        go_roundw
        case rel => exact ⟨k + 1, M', by omega, by go_num, hM', HN.out, by omega, hb2⟩
        case measure => simp [intOf]; omega
    · obtain rfl : k = l.length := by omega
      have HT2 : Hid (∀ s, tot M s = tot (eachT 6 l) s) := fun s => by rw [HT.out, List.take_length]
      have hbr := bStep hbw1 hb
      have hbrs := hbr.size
      clear HT
      go_wp2_with fail
      refine (itemsOf_k w1.heap.size wr hmap (by omega) HT2.out).mono ?_
      rintro e w8 ⟨o8, rfl, own8, hb8⟩
      have O8 : Hid (OwnI w8 wr.heap.size o8 (sumL ltT (eachT 6 l))) := own8
      clear own8
      go_wp2_with fail
      go_ret
      refine ⟨_, rfl, ?_, bStep hbr hb8⟩
      rw [HF.out]
      exact own_less O8.out hbrs
set_option maxHeartbeats 2000000 in
theorem wayOf_7 (w : World) : Calls Tryz.prog 87 #[.int .i64 7] w fun e w' => e = .returned (.tuple #[.func (.func 137) #[] #[], .bool true]) ∧ Below w.heap.size w w' := by
  go_enter Tryz.func87, Tryz.ntmps87
  go_wp2_with fail
  refine bodyPost_ret (by simp [results, Tryz.results87, go_sem]; try rfl) rfl ?_
  exact ⟨rfl, bAlloc (Below.refl _ _) _⟩
set_option maxRecDepth 100000 in
set_option maxHeartbeats 8000000 in
theorem implSetEach_7 (v : Value) (l : List It) (w : World) (h : Is w v l) :
    Calls Tryz.prog 95 #[v, .int .i64 7] w fun e w' => ∃ o : Value, e = .returned o ∧ OwnI w' w.heap.size o (eachS l 7) ∧ Below w.heap.size w w' := by
  cases hk : sokB l
  · have HF : Hid (eachS l 7 = []) := each_no1 hk
    go_enter Tryz.func95, Tryz.ntmps95
    go_wp2_with fail
    refine (wayOf_7 _).mono ?_
    rintro e w1 ⟨rfl, hb1⟩
    go_wp2_with fail
    refine (implSetOk_eq hk (h.keep hb1)).mono ?_
    rintro e w2 ⟨rfl, hb2⟩
    go_wp2_with fail
    go_ret
    refine ⟨_, rfl, ?_, bStep hb1 hb2⟩
    rw [HF.out]
    exact ownK_nil _ _ _ _ _
  have HF : Hid (eachS l 7 = sumL ltT (eachT 7 l)) := each_yes hk (by decide)
  have hl := sok_len hk
  have HK : Hid (∀ (k : Nat) (s : Int × Int) (d : Int), l[k]? = some (s, d) → itK s) := fun k s d hr => sok_k hk _ (List.mem_of_getElem? hr)
  have HA : Hid (∀ k : Nat, absum (eachT 7 (l.take k)) ≤ 439804651110400) := fun k => by have h1 := each_abs 7 (l.take k); have h2 := sok_take hk k; omega
  have hmm := @run_makeMap Tryz.prog
  go_enter Tryz.func95, Tryz.ntmps95
  go_wp2_with fail
  refine (wayOf_7 _).mono ?_
  rintro e w0 ⟨rfl, hb0⟩
  go_wp2_with fail
  refine (implSetOk_eq hk (h.keep hb0)).mono ?_
  rintro e w1 ⟨rfl, hb1⟩
  have hbw1 := bStep hb0 hb1
  have hs1 := hbw1.size
  obtain ⟨a, cap, rfl, hc, hm, hn, hcells⟩ := Is.open (h.keep hbw1)
  unfold maxLen at hm
  have HC := (show Hid _ from hcells)
  clear hcells h hk hb0 hb1
  have m0 : MapIs thV thOk (w1.alloc (.map #[] 0)) w1.heap.size [] := MapIs.new w1 rfl
  have hbm : Below w1.heap.size w1 (w1.alloc (.map #[] 0)) := bAlloc (Below.refl _ _) _
  go_wp2_with fail
  clear hmm
  go_loopw [27] (fun i wr => ∃ (k : Nat) (M : List It), k ≤ l.length ∧ i = .int .i64 k ∧ MapIs thV thOk wr w1.heap.size M ∧ (∀ s, tot M s = tot (eachT 7 (l.take k)) s) ∧ M.length ≤ k ∧ Below w1.heap.size w1 wr) (fun i _ => l.length - (intOf i).toNat)
  case atStart => exact ⟨0, [], by omega, rfl, m0, fun s => by simp [eachT], by simp, hbm⟩
  case round =>
    clear m0 hbm
    obtain ⟨k, M, hkl, rfl, hmap, htot, hML, hb⟩ := hrel
    have HT := (show Hid _ from htot)
    clear htot
    by_cases hlt : k < l.length
    · obtain ⟨g, off, K, V, D, rfl, hg, hr, c0, c1, c2⟩ := HC.out k hlt
      have hit := HK.out k _ _ hr
      have d0 := cell_below hb c0
      have d1 := cell_below hb c1
      have d2 := cell_below hb c2
      have HR := (show Hid _ from hr)
      have ik : ((k : Int) < (l.length : Int)) := by omega
      have bx := Bk.new (w := wr) #[.int .i64 K, .int .i64 V, .int .i64 D] 63 rfl
      have hbx0 : Below wr.heap.size wr (wr.alloc (.cells #[.int .i64 K, .int .i64 V, .int .i64 D] 63)) := bAlloc (Below.refl _ _) _
      have hbx := bStep hb hbx0
      have mx := hmap.keep hbx0
      obtain ⟨i1, i2, i3, i4⟩ := hit
      have HIT : Hid (thOk (wayM 7 (K, V))) := it_th (way_k ⟨i1, i2, i3, i4⟩)
      simp only at i1 i2 i3 i4
      clear c0 c1 c2 hr hmap hbx0 hb
      go_upto_region 8 with fail
      clear d0 d1 d2
      generalize wr.heap.size = tb at *
      generalize World.alloc _ _ = wx at *
      obtain ⟨q0, q1, q2⟩ := bx.three
      go_wp2_with fail
      refine (way7_any K V _ i1 i2 i3 i4).mono ?_
      rintro e wy ⟨rfl, hby⟩
      have by1 := bx.keep hby
      have my := mx.keep hby
      have hbn := bStep hbx hby
      have HM : Hid (wayM 7 (K, V) = ((wayM 7 (K, V)).1, (wayM 7 (K, V)).2)) := rfl
      have HYES : Hid (wayP 7 (K, V) = true → eachT 7 (l.take (k + 1)) = eachT 7 (l.take k) ++ [(wayM 7 (K, V), D)]) := fun hp => eachT_yes HR.out hp
      have HNO : Hid (wayP 7 (K, V) = false → eachT 7 (l.take (k + 1)) = eachT 7 (l.take k)) := fun hp => eachT_no HR.out hp
      clear q0 q1 q2 bx mx hbx hby
      generalize (wayM 7 (K, V)).1 = K2 at *
      generalize (wayM 7 (K, V)).2 = V2 at *
      generalize hP : wayP 7 (K, V) = r at *
      clear hP
      have bt0 := Bk.new (w := wy) #[.int .i64 K2, .int .i64 V2] 82 rfl
      have hbt : Below wy.heap.size wy (wy.alloc (.cells #[.int .i64 K2, .int .i64 V2] 82)) := bAlloc (Below.refl _ _) _
      have bz := by1.keep hbt
      have mz := my.keep hbt
      have hbz := bStep hbn hbt
      have hmt := mz.lt
      go_upto_region 9 with fail
      clear by1 my hbn hbt
      generalize wy.heap.size = ub at *
      generalize World.alloc _ _ = wt at *
      cases r
      · have HZ : Hid (eachT 7 (l.take (k + 1)) = eachT 7 (l.take k)) := HNO.out rfl
        go_wp2_with fail
        go_roundw
        case rel => exact ⟨k + 1, M, by omega, by go_num, mz, (by rw [HZ.out]; exact HT.out), by omega, hbz⟩
        case measure => simp [intOf]; omega
      · have HZ : Hid (eachT 7 (l.take (k + 1)) = eachT 7 (l.take k) ++ [((K2, V2), D)]) := by show _ = _; rw [HYES.out rfl, HM.out]
        have hok : thOk (K2, V2) := by have := HIT.out; rw [HM.out] at this; exact this
        have hAk := HA.out (k + 1)
        rw [HZ.out, absum_append] at hAk
        obtain ⟨st, o1, o2, M', e1, e2, e3, hM', ht', hl2⟩ := MapIs.enter (mz.move (w1 := wt.drew) rfl) encT Tryz.underlying77 zeroI hok (tot M (K2, V2) + D)
        change (Instr.entryStore _ _ (.int .i64 (st : Int)) _).run _ _ = _ at e3
        have e0 := MapIs.look (mz.move (w1 := wt.drew) rfl) encT Tryz.underlying77 zeroI hok
        obtain ⟨y0, y1, y2⟩ := bz.three
        obtain ⟨t0, t1, _, _⟩ := bt0.two
        have hsum : -4611686018427387904 ≤ tot M (K2, V2) + D ∧ tot M (K2, V2) + D ≤ 4611686018427387904 := by
          have h1 := tot_abs (eachT 7 (l.take k)) (K2, V2)
          rw [← HT.out] at h1
          simp only [absum] at hAk
          have := absum_pos (eachT 7 (l.take k))
          omega
        have HN : Hid (∀ s, tot M' s = tot (eachT 7 (l.take (k + 1))) s) := fun s => by
          rw [ht', HZ.out, tot_snoc]
          by_cases e : (K2, V2) = s
          · rw [if_pos e, if_pos e, ← HT.out, e]
          · rw [if_neg e, if_neg e, HT.out]; omega
        clear ht' hAk
        obtain ⟨hs1', hs2'⟩ := hsum
        generalize hT : tot M (K2, V2) = T at *
        have hTT : Hid (tot M (K2, V2) = T) := hT
        clear hT
        have iw : IntKind.i64.wrap (T + D) = T + D := by rw [IntKind.wrap_i64]; omega
        go_upto_region 10 with fail
        go_region
        clear e0 e1 e2 e3
        have hb2 : Below w1.heap.size w1 (setBlock wt.drew w1.heap.size o2) := below_setBlock hbz.drew (Nat.le_refl _)
        generalize setBlock wt.drew w1.heap.size o2 = w7 at *
        go_wp2_with fail
        go_roundw
        case rel => exact ⟨k + 1, M', by omega, by go_num, hM', HN.out, by omega, hb2⟩
        case measure => simp [intOf]; omega
    · obtain rfl : k = l.length := by omega
      have HT2 : Hid (∀ s, tot M s = tot (eachT 7 l) s) := fun s => by rw [HT.out, List.take_length]
      have hbr := bStep hbw1 hb
      have hbrs := hbr.size
      clear HT
      go_wp2_with fail
      refine (itemsOf_k w1.heap.size wr hmap (by omega) HT2.out).mono ?_
      rintro e w8 ⟨o8, rfl, own8, hb8⟩
      have O8 : Hid (OwnI w8 wr.heap.size o8 (sumL ltT (eachT 7 l))) := own8
      clear own8
      go_wp2_with fail
      go_ret
      refine ⟨_, rfl, ?_, bStep hbr hb8⟩
      rw [HF.out]
      exact own_less O8.out hbrs
set_option maxHeartbeats 2000000 in
theorem wayOf_no (how : Int) (h : how < 1 ∨ 8 ≤ how) (w : World) : Calls Tryz.prog 87 #[.int .i64 how] w fun e w' => (∃ z, e = .returned (.tuple #[z, .bool false])) ∧ Below w.heap.size w w' := by
  by_cases h1 : how < 1
  · go_enter Tryz.func87, Tryz.ntmps87
    go_wp2_with fail
    refine bodyPost_ret (by simp [results, Tryz.results87, go_sem]; try rfl) rfl ?_
    exact ⟨⟨_, rfl⟩, bAlloc (Below.refl _ _) _⟩
  · have h2 : 8 ≤ how := by omega
    go_enter Tryz.func87, Tryz.ntmps87
    go_wp2_with fail
    refine bodyPost_ret (by simp [results, Tryz.results87, go_sem]; try rfl) rfl ?_
    exact ⟨⟨_, rfl⟩, bAlloc (Below.refl _ _) _⟩
set_option maxHeartbeats 2000000 in
theorem implSetEach_any (v : Value) (l : List It) (how : Int) (w : World) (h : Is w v l) :
    Calls Tryz.prog 95 #[v, .int .i64 how] w fun e w' => ∃ o : Value, e = .returned o ∧ OwnI w' w.heap.size o (eachS l how) ∧ Below w.heap.size w w' := by
  by_cases hw : how < 1 ∨ 8 ≤ how
  · have HF : Hid (eachS l how = []) := each_no2 (by simp [inB]; omega)
    go_enter Tryz.func95, Tryz.ntmps95
    go_wp2_with fail
    refine (wayOf_no how hw _).mono ?_
    rintro e w1 ⟨⟨z, rfl⟩, hb1⟩
    go_wp2_with fail
    go_ret
    refine ⟨_, rfl, ?_, hb1⟩
    rw [HF.out]
    exact ownK_nil _ _ _ _ _
  · obtain rfl | rfl | rfl | rfl | rfl | rfl | rfl : how = 1 ∨ how = 2 ∨ how = 3 ∨ how = 4 ∨ how = 5 ∨ how = 6 ∨ how = 7 := by omega
    · exact implSetEach_1 v l w h
    · exact implSetEach_2 v l w h
    · exact implSetEach_3 v l w h
    · exact implSetEach_4 v l w h
    · exact implSetEach_5 v l w h
    · exact implSetEach_6 v l w h
    · exact implSetEach_7 v l w h
end Go.Proofs.YtldejkhemkjcgaaGreatDoor
