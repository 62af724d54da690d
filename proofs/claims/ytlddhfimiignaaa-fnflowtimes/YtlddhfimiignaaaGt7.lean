/- What the ways of making others of things answer, of the program: contracts. -/
import Derived.Test.YtlddhfimiignaaaGt4
import Derived.Test.YtlddhfimiignaaaGm1
namespace Go.Proofs.Ytlddhfimiignaaa
open Go.RowKit

theorem ret_way {a b c d : Int} {x y : Bool} (h1 : a = c) (h2 : b = d) (h3 : x = y) : Ending.returned (.tuple #[.agg #[.int .i64 a, .int .i64 b], .bool x]) = .returned (.tuple #[.agg #[.int .i64 c, .int .i64 d], .bool y]) := by rw [h1, h2, h3]
abbrev thC (K V : Int) : Obj := .cells #[.int .i64 K, .int .i64 V] 69
theorem th_box (K V : Int) (w : World) : Bk ((w.alloc (thC K V)).alloc (thC 0 0)) w.heap.size #[.int .i64 K, .int .i64 V] 69 ∧ Bk ((w.alloc (thC K V)).alloc (thC 0 0)) (w.heap.size + 1) #[.int .i64 0, .int .i64 0] 69 ∧ Below w.heap.size w ((w.alloc (thC K V)).alloc (thC 0 0)) :=
  ⟨(Bk.new _ _ rfl).alloc _, Bk.new _ _ (by simp), bAlloc (bAlloc (Below.refl _ _) _) _⟩
set_option maxHeartbeats 4000000 in
theorem way1_any (K V : Int) (w : World) (hk0 : 0 ≤ K) (hk1 : K ≤ 3) (hv0 : 0 ≤ V) (hv1 : V ≤ 99) :
    Calls Try.prog 102 #[.agg #[.int .i64 K, .int .i64 V]] w fun e w' => e = .returned (.tuple #[.agg #[.int .i64 (wayM 1 (K, V)).1, .int .i64 (wayM 1 (K, V)).2], .bool (wayP 1 (K, V))]) ∧ Below w.heap.size w w' := by
  have _u : (0 ≤ K ∧ K ≤ 3) ∧ (0 ≤ V ∧ V ≤ 99) := ⟨⟨hk0, hk1⟩, ⟨hv0, hv1⟩⟩
  obtain ⟨bi, br, hb⟩ := th_box K V w
  obtain ⟨i0, i1, _, _⟩ := bi.two
  obtain ⟨r0, r1, f0, f1⟩ := br.two
  have ne : w.heap.size ≠ w.heap.size + 1 := by omega
  go_enter Try.func102, Try.ntmps102
  go_upto_region 1 with fail
  generalize ((w.alloc (thC K V)).alloc (thC 0 0)) = wb at *
  go_wp2_with fail
  refine bodyPost_ret (by simp [results, Try.results102, go_sem, set1a br, set2b br]; try rfl) rfl ?_
  refine ⟨ret_way ?_ ?_ ?_, (hb.setCell (by simp) _).setCell (by simp) _⟩
  all_goals simp only [wayM, wayP]
  all_goals (simp <;> omega)
set_option maxHeartbeats 4000000 in
theorem way2_any (K V : Int) (w : World) (hk0 : 0 ≤ K) (hk1 : K ≤ 3) (hv0 : 0 ≤ V) (hv1 : V ≤ 99) :
    Calls Try.prog 103 #[.agg #[.int .i64 K, .int .i64 V]] w fun e w' => e = .returned (.tuple #[.agg #[.int .i64 (wayM 2 (K, V)).1, .int .i64 (wayM 2 (K, V)).2], .bool (wayP 2 (K, V))]) ∧ Below w.heap.size w w' := by
  have _u : (0 ≤ K ∧ K ≤ 3) ∧ (0 ≤ V ∧ V ≤ 99) := ⟨⟨hk0, hk1⟩, ⟨hv0, hv1⟩⟩
  obtain ⟨bi, br, hb⟩ := th_box K V w
  obtain ⟨i0, i1, _, _⟩ := bi.two
  obtain ⟨r0, r1, f0, f1⟩ := br.two
  have ne : w.heap.size ≠ w.heap.size + 1 := by omega
  go_enter Try.func103, Try.ntmps103
  go_upto_region 1 with fail
  generalize ((w.alloc (thC K V)).alloc (thC 0 0)) = wb at *
  have iw : IntKind.i64.wrap (V + 1) = V + 1 := by rw [IntKind.wrap_i64]; omega
  have HX : Hid (∀ W, Below wb.heap.size wb W → W.cell? ⟨w.heap.size, 0, none⟩ = some (.int .i64 K) ∧ W.cell? ⟨w.heap.size, 1, none⟩ = some (.int .i64 V)) := fun W hW => ⟨(bi.keep hW).two.1, (bi.keep hW).two.2.1⟩
  have hbD : Below wb.heap.size wb wb.drew := (Below.refl _ _).drew
  clear i0 i1 r0 r1 f0 f1
  obtain ⟨i0, i1⟩ := HX.out _ hbD
  go_region_held3 (fun W => W.cell? ⟨w.heap.size, 0, none⟩ = some (.int .i64 K) ∧ W.cell? ⟨w.heap.size, 1, none⟩ = some (.int .i64 V))
    (first | exact HX.out _ hbD | exact HX.out _ hbna | exact ⟨cell_apart (cell_apart (HX.out _ hbna).1 (by simp)) (by simp), cell_apart (cell_apart (HX.out _ hbna).2 (by simp)) (by simp)⟩)
    (first
      | (go_at_call 117; refine (valOf_any (V + 1) _).mono ?_; rintro e wa ⟨rfl, hba⟩; have hbna := bStep hbD hba; have br2 := br.keep hbna; obtain ⟨r0, r1, f0, f1⟩ := br2.two))
  have bo := br2.set01 (.int .i64 K) (.int .i64 ((V + 1) % 100))
  have hbo : Below w.heap.size w ((wa.setCell ⟨w.heap.size + 1, 0, none⟩ (.int .i64 K)).setCell ⟨w.heap.size + 1, 1, none⟩ (.int .i64 ((V + 1) % 100))) := ((hb.trans (hbna.mono hb.size)).setCell (by simp) _).setCell (by simp) _
  obtain ⟨y0, y1, _, _⟩ := bo.two
  go_wp2_with fail
  refine bodyPost_ret (v := .tuple #[.agg #[.int .i64 K, .int .i64 ((V + 1) % 100)], .bool true]) (by simp [results, Try.results103, go_sem, y0, y1]) rfl ?_
  exact ⟨rfl, hbo⟩
set_option maxHeartbeats 4000000 in
theorem way3_any (K V : Int) (w : World) (hk0 : 0 ≤ K) (hk1 : K ≤ 3) (hv0 : 0 ≤ V) (hv1 : V ≤ 99) :
    Calls Try.prog 104 #[.agg #[.int .i64 K, .int .i64 V]] w fun e w' => e = .returned (.tuple #[.agg #[.int .i64 (wayM 3 (K, V)).1, .int .i64 (wayM 3 (K, V)).2], .bool (wayP 3 (K, V))]) ∧ Below w.heap.size w w' := by
  have _u : (0 ≤ K ∧ K ≤ 3) ∧ (0 ≤ V ∧ V ≤ 99) := ⟨⟨hk0, hk1⟩, ⟨hv0, hv1⟩⟩
  obtain ⟨bi, br, hb⟩ := th_box K V w
  obtain ⟨i0, i1, _, _⟩ := bi.two
  obtain ⟨r0, r1, f0, f1⟩ := br.two
  have ne : w.heap.size ≠ w.heap.size + 1 := by omega
  go_enter Try.func104, Try.ntmps104
  go_upto_region 1 with fail
  generalize ((w.alloc (thC K V)).alloc (thC 0 0)) = wb at *
  go_wp2_with fail
  refine bodyPost_ret (by simp [results, Try.results104, go_sem, set1a br, set2b br]; try rfl) rfl ?_
  refine ⟨ret_way ?_ ?_ ?_, (hb.setCell (by simp) _).setCell (by simp) _⟩
  all_goals simp only [wayM, wayP]
  all_goals (simp <;> omega)
set_option maxHeartbeats 4000000 in
theorem way4_any (K V : Int) (w : World) (hk0 : 0 ≤ K) (hk1 : K ≤ 3) (hv0 : 0 ≤ V) (hv1 : V ≤ 99) :
    Calls Try.prog 105 #[.agg #[.int .i64 K, .int .i64 V]] w fun e w' => e = .returned (.tuple #[.agg #[.int .i64 (wayM 4 (K, V)).1, .int .i64 (wayM 4 (K, V)).2], .bool (wayP 4 (K, V))]) ∧ Below w.heap.size w w' := by
  have _u : (0 ≤ K ∧ K ≤ 3) ∧ (0 ≤ V ∧ V ≤ 99) := ⟨⟨hk0, hk1⟩, ⟨hv0, hv1⟩⟩
  obtain ⟨bi, br, hb⟩ := th_box K V w
  obtain ⟨i0, i1, _, _⟩ := bi.two
  obtain ⟨r0, r1, f0, f1⟩ := br.two
  have ne : w.heap.size ≠ w.heap.size + 1 := by omega
  go_enter Try.func105, Try.ntmps105
  go_upto_region 1 with fail
  generalize ((w.alloc (thC K V)).alloc (thC 0 0)) = wb at *
  go_wp2_with fail
  refine bodyPost_ret (by simp [results, Try.results105, go_sem, set1a br, set2b br]; try rfl) rfl ?_
  refine ⟨ret_way ?_ ?_ ?_, (hb.setCell (by simp) _).setCell (by simp) _⟩
  all_goals simp only [wayM, wayP]
  all_goals (simp <;> omega)
set_option maxHeartbeats 4000000 in
theorem way5_any (K V : Int) (w : World) (hk0 : 0 ≤ K) (hk1 : K ≤ 3) (hv0 : 0 ≤ V) (hv1 : V ≤ 99) :
    Calls Try.prog 106 #[.agg #[.int .i64 K, .int .i64 V]] w fun e w' => e = .returned (.tuple #[.agg #[.int .i64 (wayM 5 (K, V)).1, .int .i64 (wayM 5 (K, V)).2], .bool (wayP 5 (K, V))]) ∧ Below w.heap.size w w' := by
  have _u : (0 ≤ K ∧ K ≤ 3) ∧ (0 ≤ V ∧ V ≤ 99) := ⟨⟨hk0, hk1⟩, ⟨hv0, hv1⟩⟩
  obtain ⟨bi, br, hb⟩ := th_box K V w
  obtain ⟨i0, i1, _, _⟩ := bi.two
  obtain ⟨r0, r1, f0, f1⟩ := br.two
  have ne : w.heap.size ≠ w.heap.size + 1 := by omega
  go_enter Try.func106, Try.ntmps106
  go_upto_region 1 with fail
  generalize ((w.alloc (thC K V)).alloc (thC 0 0)) = wb at *
  go_region
  have bo := (br.set01 (.int .i64 K) (.int .i64 V)).drew
  have hbo : Below w.heap.size w ((wb.setCell ⟨w.heap.size + 1, 0, none⟩ (.int .i64 K)).setCell ⟨w.heap.size + 1, 1, none⟩ (.int .i64 V)).drew := ((hb.setCell (by simp) _).setCell (by simp) _).drew
  obtain ⟨y0, y1, _, _⟩ := bo.two
  go_wp2_with fail
  refine bodyPost_ret (v := .tuple #[.agg #[.int .i64 K, .int .i64 V], .bool (V % 2 == 0)]) (by simp [results, Try.results106, go_sem, y0, y1]) rfl ?_
  refine ⟨ret_way (by simp [wayM]) (by simp [wayM]) ?_, hbo⟩
  simp [wayP] <;> (rw [Bool.eq_iff_iff]; simp)
set_option maxHeartbeats 4000000 in
theorem way6_any (K V : Int) (w : World) (hk0 : 0 ≤ K) (hk1 : K ≤ 3) (hv0 : 0 ≤ V) (hv1 : V ≤ 99) :
    Calls Try.prog 107 #[.agg #[.int .i64 K, .int .i64 V]] w fun e w' => e = .returned (.tuple #[.agg #[.int .i64 (wayM 6 (K, V)).1, .int .i64 (wayM 6 (K, V)).2], .bool (wayP 6 (K, V))]) ∧ Below w.heap.size w w' := by
  have _u : (0 ≤ K ∧ K ≤ 3) ∧ (0 ≤ V ∧ V ≤ 99) := ⟨⟨hk0, hk1⟩, ⟨hv0, hv1⟩⟩
  obtain ⟨bi, br, hb⟩ := th_box K V w
  obtain ⟨i0, i1, _, _⟩ := bi.two
  obtain ⟨r0, r1, f0, f1⟩ := br.two
  have ne : w.heap.size ≠ w.heap.size + 1 := by omega
  go_enter Try.func107, Try.ntmps107
  go_upto_region 1 with fail
  generalize ((w.alloc (thC K V)).alloc (thC 0 0)) = wb at *
  go_region
  have bo := (br.set01 (.int .i64 K) (.int .i64 V)).drew
  have hbo : Below w.heap.size w ((wb.setCell ⟨w.heap.size + 1, 0, none⟩ (.int .i64 K)).setCell ⟨w.heap.size + 1, 1, none⟩ (.int .i64 V)).drew := ((hb.setCell (by simp) _).setCell (by simp) _).drew
  obtain ⟨y0, y1, _, _⟩ := bo.two
  go_wp2_with fail
  refine bodyPost_ret (v := .tuple #[.agg #[.int .i64 K, .int .i64 V], .bool (K % 2 == 0)]) (by simp [results, Try.results107, go_sem, y0, y1]) rfl ?_
  refine ⟨ret_way (by simp [wayM]) (by simp [wayM]) ?_, hbo⟩
  simp [wayP] <;> (rw [Bool.eq_iff_iff]; simp)
set_option maxHeartbeats 4000000 in
theorem way7_any (K V : Int) (w : World) (hk0 : 0 ≤ K) (hk1 : K ≤ 3) (hv0 : 0 ≤ V) (hv1 : V ≤ 99) :
    Calls Try.prog 108 #[.agg #[.int .i64 K, .int .i64 V]] w fun e w' => e = .returned (.tuple #[.agg #[.int .i64 (wayM 7 (K, V)).1, .int .i64 (wayM 7 (K, V)).2], .bool (wayP 7 (K, V))]) ∧ Below w.heap.size w w' := by
  have _u : (0 ≤ K ∧ K ≤ 3) ∧ (0 ≤ V ∧ V ≤ 99) := ⟨⟨hk0, hk1⟩, ⟨hv0, hv1⟩⟩
  obtain ⟨bi, br, hb⟩ := th_box K V w
  obtain ⟨i0, i1, _, _⟩ := bi.two
  obtain ⟨r0, r1, f0, f1⟩ := br.two
  have ne : w.heap.size ≠ w.heap.size + 1 := by omega
  go_enter Try.func108, Try.ntmps108
  go_upto_region 1 with fail
  generalize ((w.alloc (thC K V)).alloc (thC 0 0)) = wb at *
  go_region
  have bo := (br.set01 (.int .i64 K) (.int .i64 V)).drew
  have hbo : Below w.heap.size w ((wb.setCell ⟨w.heap.size + 1, 0, none⟩ (.int .i64 K)).setCell ⟨w.heap.size + 1, 1, none⟩ (.int .i64 V)).drew := ((hb.setCell (by simp) _).setCell (by simp) _).drew
  obtain ⟨y0, y1, _, _⟩ := bo.two
  go_wp2_with fail
  refine bodyPost_ret (v := .tuple #[.agg #[.int .i64 K, .int .i64 V], .bool (decide (V < 10))]) (by simp [results, Try.results108, go_sem, y0, y1]) rfl ?_
  refine ⟨ret_way (by simp [wayM]) (by simp [wayM]) ?_, hbo⟩
  simp [wayP] <;> (rw [Bool.eq_iff_iff]; simp)
end Go.Proofs.Ytlddhfimiignaaa
