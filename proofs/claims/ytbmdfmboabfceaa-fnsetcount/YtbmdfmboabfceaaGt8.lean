/- SetEach of the model: the contract. -/
import Derived.Test.YtbmdfmboabfceaaGt5
import Derived.Test.YtbmdfmboabfceaaGt7
namespace Go.Proofs.Ytbmdfmboabfceaa
open Go.RowKit

theorem ret_one {a b c d : Int} {x y : Bool} (h1 : a = c) (h2 : b = d) (h3 : x = y) : Ending.returned (.tuple #[.int .i64 a, .int .i64 b, .bool x]) = .returned (.tuple #[.int .i64 c, .int .i64 d, .bool y]) := by rw [h1, h2, h3]
set_option maxHeartbeats 4000000 in
theorem l3One_1 (K V : Int) (w : World) (hk0 : 0 ≤ K) (hk1 : K ≤ 3) (hv0 : 0 ≤ V) (hv1 : V ≤ 99) :
    Calls Try.prog 139 #[.int .i64 K, .int .i64 V, .int .i64 1] w fun e w' => e = .returned (.tuple #[.int .i64 (wayM 1 (K, V)).1, .int .i64 (wayM 1 (K, V)).2, .bool (wayP 1 (K, V))]) ∧ Below w.heap.size w w' := by
  have _u : (0 ≤ K ∧ K ≤ 3) ∧ (0 ≤ V ∧ V ≤ 99) := ⟨⟨hk0, hk1⟩, ⟨hv0, hv1⟩⟩
  go_enter Try.func139, Try.ntmps139
  go_wp2_with fail
  refine bodyPost_ret (by simp [results, Try.results139, go_sem]; try rfl) rfl ?_
  refine ⟨ret_one ?_ ?_ ?_, Below.refl _ _⟩
  all_goals simp only [wayM, wayP]
  all_goals first | (simp; done) | (simp; omega) | (rw [Bool.eq_iff_iff]; simp)
set_option maxHeartbeats 4000000 in
theorem l3One_2 (K V : Int) (w : World) (hk0 : 0 ≤ K) (hk1 : K ≤ 3) (hv0 : 0 ≤ V) (hv1 : V ≤ 99) :
    Calls Try.prog 139 #[.int .i64 K, .int .i64 V, .int .i64 2] w fun e w' => e = .returned (.tuple #[.int .i64 (wayM 2 (K, V)).1, .int .i64 (wayM 2 (K, V)).2, .bool (wayP 2 (K, V))]) ∧ Below w.heap.size w w' := by
  have _u : (0 ≤ K ∧ K ≤ 3) ∧ (0 ≤ V ∧ V ≤ 99) := ⟨⟨hk0, hk1⟩, ⟨hv0, hv1⟩⟩
  go_enter Try.func139, Try.ntmps139
  go_wp2_with fail
  refine bodyPost_ret (by simp [results, Try.results139, go_sem]; try rfl) rfl ?_
  refine ⟨ret_one ?_ ?_ ?_, Below.refl _ _⟩
  all_goals simp only [wayM, wayP]
  all_goals first | (simp; done) | (simp; omega) | (rw [Bool.eq_iff_iff]; simp)
set_option maxHeartbeats 4000000 in
theorem l3One_3 (K V : Int) (w : World) (hk0 : 0 ≤ K) (hk1 : K ≤ 3) (hv0 : 0 ≤ V) (hv1 : V ≤ 99) :
    Calls Try.prog 139 #[.int .i64 K, .int .i64 V, .int .i64 3] w fun e w' => e = .returned (.tuple #[.int .i64 (wayM 3 (K, V)).1, .int .i64 (wayM 3 (K, V)).2, .bool (wayP 3 (K, V))]) ∧ Below w.heap.size w w' := by
  have _u : (0 ≤ K ∧ K ≤ 3) ∧ (0 ≤ V ∧ V ≤ 99) := ⟨⟨hk0, hk1⟩, ⟨hv0, hv1⟩⟩
  go_enter Try.func139, Try.ntmps139
  go_wp2_with fail
  refine bodyPost_ret (by simp [results, Try.results139, go_sem]; try rfl) rfl ?_
  refine ⟨ret_one ?_ ?_ ?_, Below.refl _ _⟩
  all_goals simp only [wayM, wayP]
  all_goals first | (simp; done) | (simp; omega) | (rw [Bool.eq_iff_iff]; simp)
set_option maxHeartbeats 4000000 in
theorem l3One_4 (K V : Int) (w : World) (hk0 : 0 ≤ K) (hk1 : K ≤ 3) (hv0 : 0 ≤ V) (hv1 : V ≤ 99) :
    Calls Try.prog 139 #[.int .i64 K, .int .i64 V, .int .i64 4] w fun e w' => e = .returned (.tuple #[.int .i64 (wayM 4 (K, V)).1, .int .i64 (wayM 4 (K, V)).2, .bool (wayP 4 (K, V))]) ∧ Below w.heap.size w w' := by
  have _u : (0 ≤ K ∧ K ≤ 3) ∧ (0 ≤ V ∧ V ≤ 99) := ⟨⟨hk0, hk1⟩, ⟨hv0, hv1⟩⟩
  go_enter Try.func139, Try.ntmps139
  go_wp2_with fail
  refine bodyPost_ret (by simp [results, Try.results139, go_sem]; try rfl) rfl ?_
  refine ⟨ret_one ?_ ?_ ?_, Below.refl _ _⟩
  all_goals simp only [wayM, wayP]
  all_goals first | (simp; done) | (simp; omega) | (rw [Bool.eq_iff_iff]; simp)
set_option maxHeartbeats 4000000 in
theorem l3One_5 (K V : Int) (w : World) (hk0 : 0 ≤ K) (hk1 : K ≤ 3) (hv0 : 0 ≤ V) (hv1 : V ≤ 99) :
    Calls Try.prog 139 #[.int .i64 K, .int .i64 V, .int .i64 5] w fun e w' => e = .returned (.tuple #[.int .i64 (wayM 5 (K, V)).1, .int .i64 (wayM 5 (K, V)).2, .bool (wayP 5 (K, V))]) ∧ Below w.heap.size w w' := by
  have _u : (0 ≤ K ∧ K ≤ 3) ∧ (0 ≤ V ∧ V ≤ 99) := ⟨⟨hk0, hk1⟩, ⟨hv0, hv1⟩⟩
  go_enter Try.func139, Try.ntmps139
  go_wp2_with fail
  refine bodyPost_ret (by simp [results, Try.results139, go_sem]; try rfl) rfl ?_
  refine ⟨ret_one ?_ ?_ ?_, Below.refl _ _⟩
  all_goals simp only [wayM, wayP]
  all_goals first | (simp; done) | (simp; omega) | (rw [Bool.eq_iff_iff]; simp)
set_option maxHeartbeats 4000000 in
theorem l3One_6 (K V : Int) (w : World) (hk0 : 0 ≤ K) (hk1 : K ≤ 3) (hv0 : 0 ≤ V) (hv1 : V ≤ 99) :
    Calls Try.prog 139 #[.int .i64 K, .int .i64 V, .int .i64 6] w fun e w' => e = .returned (.tuple #[.int .i64 (wayM 6 (K, V)).1, .int .i64 (wayM 6 (K, V)).2, .bool (wayP 6 (K, V))]) ∧ Below w.heap.size w w' := by
  have _u : (0 ≤ K ∧ K ≤ 3) ∧ (0 ≤ V ∧ V ≤ 99) := ⟨⟨hk0, hk1⟩, ⟨hv0, hv1⟩⟩
  go_enter Try.func139, Try.ntmps139
  go_wp2_with fail
  refine bodyPost_ret (by simp [results, Try.results139, go_sem]; try rfl) rfl ?_
  refine ⟨ret_one ?_ ?_ ?_, Below.refl _ _⟩
  all_goals simp only [wayM, wayP]
  all_goals first | (simp; done) | (simp; omega) | (rw [Bool.eq_iff_iff]; simp)
set_option maxHeartbeats 4000000 in
theorem l3One_7 (K V : Int) (w : World) (hk0 : 0 ≤ K) (hk1 : K ≤ 3) (hv0 : 0 ≤ V) (hv1 : V ≤ 99) :
    Calls Try.prog 139 #[.int .i64 K, .int .i64 V, .int .i64 7] w fun e w' => e = .returned (.tuple #[.int .i64 (wayM 7 (K, V)).1, .int .i64 (wayM 7 (K, V)).2, .bool (wayP 7 (K, V))]) ∧ Below w.heap.size w w' := by
  have _u : (0 ≤ K ∧ K ≤ 3) ∧ (0 ≤ V ∧ V ≤ 99) := ⟨⟨hk0, hk1⟩, ⟨hv0, hv1⟩⟩
  go_enter Try.func139, Try.ntmps139
  go_wp2_with fail
  refine bodyPost_ret (by simp [results, Try.results139, go_sem]; try rfl) rfl ?_
  refine ⟨ret_one ?_ ?_ ?_, Below.refl _ _⟩
  all_goals simp only [wayM, wayP]
  all_goals first | (simp; done) | (simp; omega) | (rw [Bool.eq_iff_iff]; simp)
theorem l3One_eq {K V how : Int} {r : Bool} (h : wayP how (K, V) = r) (hw : inB how 1 7 = true) (hk : itK (K, V)) (w : World) :
    Calls Try.prog 139 #[.int .i64 K, .int .i64 V, .int .i64 how] w fun e w' => e = .returned (.tuple #[.int .i64 (wayM how (K, V)).1, .int .i64 (wayM how (K, V)).2, .bool r]) ∧ Below w.heap.size w w' := by
  rw [← h]
  obtain ⟨h1, h2, h3, h4⟩ := hk
  simp only [inB, decide_eq_true_eq] at hw
  obtain rfl | rfl | rfl | rfl | rfl | rfl | rfl : how = 1 ∨ how = 2 ∨ how = 3 ∨ how = 4 ∨ how = 5 ∨ how = 6 ∨ how = 7 := by omega
  · exact l3One_1 K V w h1 h2 h3 h4
  · exact l3One_2 K V w h1 h2 h3 h4
  · exact l3One_3 K V w h1 h2 h3 h4
  · exact l3One_4 K V w h1 h2 h3 h4
  · exact l3One_5 K V w h1 h2 h3 h4
  · exact l3One_6 K V w h1 h2 h3 h4
  · exact l3One_7 K V w h1 h2 h3 h4
set_option maxHeartbeats 1000000 in
theorem l3Way_eq {how : Int} {r : Bool} (h : inB how 1 7 = r) (w : World) : Calls Try.prog 138 #[.int .i64 how] w fun e w' => e = .returned (.bool r) ∧ Below w.heap.size w w' := by
  go_enter Try.func138, Try.ntmps138
  go_wp2_with fail
  refine (l6In_eq h _).mono ?_
  rintro e w1 ⟨rfl, rfl⟩
  go_wp2_with fail
  go_ret
  exact ⟨rfl, Below.refl _ _⟩
theorem eachT_yes {how : Int} {l : List It} {k : Nat} {s : Int × Int} {d : Int} (h : l[k]? = some (s, d)) (hp : wayP how s = true) : eachT how (l.take (k + 1)) = eachT how (l.take k) ++ [(wayM how s, d)] := by
  unfold eachT; rw [take_snoc h, List.filter_append, List.map_append]; simp [hp]
theorem eachT_no {how : Int} {l : List It} {k : Nat} {s : Int × Int} {d : Int} (h : l[k]? = some (s, d)) (hp : wayP how s = false) : eachT how (l.take (k + 1)) = eachT how (l.take k) := by
  unfold eachT; rw [take_snoc h, List.filter_append, List.map_append]; simp [hp]
theorem sumT_nil : sumL ltT ([] : List It) = [] := rfl
set_option maxRecDepth 100000 in
set_option maxHeartbeats 8000000 in
theorem specSetEach_any (v : Value) (l : List It) (how : Int) (w : World) (h : Is w v l) :
    Calls Try.prog 73 #[v, .int .i64 how] w fun e w' => ∃ o : Value, e = .returned o ∧ OwnI w' w.heap.size o (eachS l how) ∧ Below w.heap.size w w' := by
  have H0 : Hid (Is w v l) := h
  obtain ⟨a, cap, rfl, hc, hm, hn, hcells⟩ := Is.open h
  have HI : Hid (Is w (.slice a l.length cap) l) := H0.out
  unfold maxLen at hm
  have HC := (show Hid _ from hcells)
  clear hcells h H0
  have oE := ownI_empty w rfl
  have hbE := bAlloc (Below.refl _ w) (.cells #[] 64)
  have hsE := hbE.size
  cases hk : sokB l
  · have HF : Hid (eachS l how = sumL ltT []) := by show _ = _; rw [each_no1 hk]; rfl
    have hpos := sok_pos hk
    have ip : (0 : Int) < (l.length : Int) := by omega
    go_enter Try.func73, Try.ntmps73
    go_wp2_with fail
    refine wp_loop_rounds 1 ?_
    rw [rounds_succ]
    go_wp2_with fail
    refine (specSetOk_eq hk (HI.out.keep hbE)).mono ?_
    rintro e w1 ⟨rfl, hb1⟩
    have R1 : Is w1 _ [] := OwnI.is (own_keep oE hb1) (by simp)
    have hbw1 := bStep hbE hb1
    have hs1 := hbw1.size
    go_wp2_with fail
    refine (l2Items_any _ [] _ R1 (by simp) (by simp [absum])).mono ?_
    rintro e w2 ⟨o2, rfl, own2, hb2⟩
    have O2 : Hid (OwnI w2 w1.heap.size o2 (sumL ltT [])) := own2
    clear own2
    go_wp2_with fail
    go_ret
    refine ⟨_, rfl, ?_, bStep hbw1 hb2⟩
    rw [HF.out]
    exact own_less O2.out hs1
  cases hw : inB how 1 7
  · have HF : Hid (eachS l how = sumL ltT []) := by show _ = _; rw [each_no2 hw]; rfl
    have R0 : Is (w.alloc (.cells #[] 64)) _ [] := OwnI.is oE (by simp)
    by_cases hpos : 0 < l.length
    · have ip : (0 : Int) < (l.length : Int) := by omega
      go_enter Try.func73, Try.ntmps73
      go_wp2_with fail
      refine wp_loop_rounds 1 ?_
      rw [rounds_succ]
      go_wp2_with fail
      refine (specSetOk_eq hk (HI.out.keep hbE)).mono ?_
      rintro e w1 ⟨rfl, hb1⟩
      have hbw1 := bStep hbE hb1
      go_wp2_with fail
      refine (l3Way_eq hw _).mono ?_
      rintro e w1' ⟨rfl, hb1'⟩
      have R1 := (R0.keep hb1).keep hb1'
      have hbw1' := bStep hbw1 hb1'
      have hs1 := hbw1'.size
      go_wp2_with fail
      refine (l2Items_any _ [] _ R1 (by simp) (by simp [absum])).mono ?_
      rintro e w2 ⟨o2, rfl, own2, hb2⟩
      have O2 : Hid (OwnI w2 w1'.heap.size o2 (sumL ltT [])) := own2
      clear own2
      go_wp2_with fail
      go_ret
      refine ⟨_, rfl, ?_, bStep hbw1' hb2⟩
      rw [HF.out]
      exact own_less O2.out hs1
    · obtain rfl : l = [] := List.eq_nil_of_length_eq_zero (by omega)
      simp only [List.length_nil] at *
      go_enter Try.func73, Try.ntmps73
      go_wp2_with fail
      refine wp_loop_rounds 1 ?_
      rw [rounds_succ]
      go_wp2_with fail
      refine (l2Items_any _ [] _ R0 (by simp) (by simp [absum])).mono ?_
      rintro e w2 ⟨o2, rfl, own2, hb2⟩
      have O2 : Hid (OwnI w2 (w.alloc (.cells #[] 64)).heap.size o2 (sumL ltT [])) := own2
      clear own2
      go_wp2_with fail
      go_ret
      refine ⟨_, rfl, ?_, bStep hbE hb2⟩
      rw [HF.out]
      exact own_less O2.out hsE
  have HF : Hid (eachS l how = sumL ltT (eachT how l)) := each_yes hk hw
  have hl := sok_len hk
  have HK : Hid (∀ (k : Nat) (s : Int × Int) (d : Int), l[k]? = some (s, d) → itK s) := fun k s d hr => sok_k hk _ (List.mem_of_getElem? hr)
  have HA : Hid (absum (eachT how l) ≤ 2305843009213693952) := by have h1 := each_abs how l; have h2 := sok_abs hk; show _ ≤ _; omega
  go_enter Try.func73, Try.ntmps73
  go_wp2_with fail
  go_loopw [5, 6] (fun o i wr => ∃ k : Nat, k ≤ l.length ∧ i = .int .i64 k ∧ OwnI wr w.heap.size o (eachT how (l.take k)) ∧ Below w.heap.size w wr) (fun _ i _ => l.length - (intOf i).toNat)
  case atStart => exact ⟨0, by omega, rfl, oE, hbE⟩
  case round =>
    clear oE hbE hsE
    obtain ⟨k, hkl, rfl, hown, hb⟩ := hrel
    have HO : Hid (OwnI wr w.heap.size u5 (eachT how (l.take k))) := hown
    clear hown
    have hsz := hb.size
    by_cases hlt : k < l.length
    · go_wp2_with fail
      refine (specSetOk_eq hk (HI.out.keep hb)).mono ?_
      rintro e w1 ⟨rfl, hb1⟩
      have hbn1 := bStep hb hb1
      go_wp2_with fail
      refine (l3Way_eq hw _).mono ?_
      rintro e w2 ⟨rfl, hb2⟩
      have hbn := bStep hbn1 hb2
      have hsn := hbn.size
      obtain ⟨g, off, K, V, D, rfl, hg, hr, c0, c1, c2⟩ := HC.out k hlt
      have hit := HK.out k _ _ hr
      have ik : ((k : Int) < (l.length : Int)) := by omega
      have hL : (eachT how (l.take k)).length ≤ 1000000 := by have := each_len how (l.take k); simp at this; omega
      have HO2 : Hid (OwnI w2 w.heap.size u5 (eachT how (l.take k))) := own_keep (own_keep HO.out hb1) hb2
      have d0 : ∀ p : Bel w2, p.ww.cell? ⟨g, off + k * 3, none⟩ = some (.int .i64 K) := fun p => cell_below p.below (cell_below hbn c0)
      have d1 : ∀ p : Bel w2, p.ww.cell? ⟨g, off + k * 3 + 1, none⟩ = some (.int .i64 V) := fun p => cell_below p.below (cell_below hbn c1)
      have C2 : Hid (w.cell? ⟨g, off + k * 3 + 2, none⟩ = some (.int .i64 D)) := c2
      have HR := (show Hid _ from hr)
      have hne := bel_some w2
      clear c0 c1 c2 hr HO hb hb1 hb2 hbn1
      cases hP : wayP how (K, V)
      · have HZ := (show Hid _ from eachT_no HR.out hP)
        go_wp2_with fail
        (refine wp_region_bel (by kernel_rfl) (by kernel_rfl) ?_; (repeat (go_big_quiet_step ((first | (go_at_call 139; exact calls_bel (l3One_eq (by with_reducible assumption) (by with_reducible assumption) (by with_reducible assumption) _)))))); refine wpQuiet_nil ?_)
        intro w3 hw3
        replace hw3 := bel_out hw3
        have hb3 := bStep hbn hw3
        have O3 : Hid (OwnI w3 w.heap.size u5 (eachT how (l.take k))) := own_keep HO2.out hw3
        go_wp2_with fail
        go_roundw
        case rel => exact ⟨k + 1, by omega, by go_num, by rw [HZ.out]; exact O3.out, hb3⟩
        case measure => simp [intOf]; omega
      · have HZ := (show Hid _ from eachT_yes HR.out hP)
        go_wp2_with fail
        (refine wp_region_bel (by kernel_rfl) (by kernel_rfl) ?_; (repeat (go_big_quiet_step ((first | (go_at_call 139; exact calls_bel (l3One_eq (by with_reducible assumption) (by with_reducible assumption) (by with_reducible assumption) _)))))); refine wpQuiet_nil ?_)
        intro w3 hw3
        replace hw3 := bel_out hw3
        have hb3 := bStep hbn hw3
        have hs3 := hb3.size
        have O3 : OwnI w3 w.heap.size u5 (eachT how (l.take k)) := own_keep HO2.out hw3
        have c2 := cell_below hb3 C2.out
        have eM : wayM how (K, V) = ((wayM how (K, V)).1, (wayM how (K, V)).2) := rfl
        have HM : Hid (wayM how (K, V) = ((wayM how (K, V)).1, (wayM how (K, V)).2)) := eM
        clear eM HO2
        generalize (wayM how (K, V)).1 = K2 at *
        generalize (wayM how (K, V)).2 = V2 at *
        generalize eachT how (l.take k) = LL at *
        go_wp2_with (at_builtin; refine appI _ rfl _ _ rfl w.heap.size _ LL rfl (O3.alloc _) _ K2 V2 D rfl (Bk.new _ _ rfl) (by omega) (by simp; omega) ?_; intro g9 cap9 w9 own9 hgrow hlg)
        have hb9 : Below w.heap.size w w9 := Below.grew (bAlloc hb3 _) hgrow (by simp; omega) (ownK_base O3)
        exact ⟨⟨k + 1, by omega, by go_num, by rw [HZ.out, HM.out]; exact own9, hb9⟩, by simp [intOf]; omega⟩
    · obtain rfl : k = l.length := by omega
      have R1 : Is wr u5 (eachT how l) := by have := HO.out; rw [List.take_length] at this; exact OwnI.is this (by have := each_len how l; omega)
      clear HO
      have hle := each_len how l
      go_wp2_with fail
      refine (l2Items_any _ (eachT how l) _ R1 (by omega) HA.out).mono ?_
      rintro e w2 ⟨o2, rfl, own2, hb2⟩
      have O2 : Hid (OwnI w2 wr.heap.size o2 (sumL ltT (eachT how l))) := own2
      clear own2
      go_wp2_with fail
      go_ret
      refine ⟨_, rfl, ?_, bStep hb hb2⟩
      rw [HF.out]
      exact own_less O2.out hsz
end Go.Proofs.Ytbmdfmboabfceaa
