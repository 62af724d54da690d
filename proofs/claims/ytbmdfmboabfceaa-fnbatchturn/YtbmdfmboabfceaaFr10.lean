/- What FrontOf of the model answers: a contract. -/
import Derived.Test.YtbmdfmboabfceaaFr9
namespace Go.Proofs.Ytbmdfmboabfceaa
open Go.RowKit
set_option maxRecDepth 100000 in
set_option maxHeartbeats 16000000 in
theorem specFrontOf_any (v : Value) (l : List (Int × Int)) (w : World) (h : Ts w v l) :
    Calls Try.prog 186 #[v] w fun e w' => ∃ o : Value, e = .returned o ∧ Own w' w.heap.size o (frontL l) ∧ Below w.heap.size w w' := by
  obtain ⟨i0, hi, hz0, hz1, hz2⟩ := info_parts infoT
  have hb0 : Below w.heap.size w (w.alloc (.cells #[] 31)) := bAlloc (Below.refl _ _) _
  have o0 := own_empty w 31 2
  go_enter Try.func186, Try.ntmps186
  go_wp2_with fail
  refine (l1Ok_any v l _ (h.keep hb0)).mono ?_
  rintro e w1 ⟨rfl, hb1⟩
  have hbw1 := bStep hb0 hb1
  have o1 := own_keep o0 hb1
  clear o0 hb0 hb1
  cases hok : aokB l
  · have HK : Hid (frontL l = []) := by show _ = []; simp [frontL, hok]
    go_wp2_with fail
    go_ret
    refine ⟨_, rfl, ?_, hbw1⟩
    rw [HK.out]; exact o1
  have HK : Hid (frontL l = frTo l 64) := by show _ = _; simp [frontL, hok]
  clear hok
  obtain ⟨a, cap, rfl, hc, hm, hn, hcells⟩ := h
  unfold maxLen at hm
  have HC := (show Hid _ from hcells)
  clear hcells
  generalize hN : l.length = n at *
  have HN : Hid (l.length = n) := hN
  clear hN
  go_wp2_with fail
  go_loopw [3, 4] (fun o i wr => ∃ k : Nat, k ≤ 8 ∧ i = .int .i64 k ∧ Own wr w.heap.size o (frTo l (8 * k)) ∧ Below w.heap.size w wr) (fun _ i _ => 8 - (intOf i).toNat)
  case atStart => exact ⟨0, by omega, rfl, o1, hbw1⟩
  case round =>
    clear o1 hbw1
    obtain ⟨k, hk, rfl, hown, hb⟩ := hrel
    have HO := (show Hid _ from hown)
    clear hown
    by_cases hlt : k < 8
    · have hk7 : decide ((k : Int) ≤ 7) = true := by simp; omega
      go_wp2_with fail
      go_loopw [3, 5] (fun o i wq => ∃ j : Nat, j ≤ 8 ∧ i = .int .i64 (7 - (j : Int)) ∧ Own wq w.heap.size o (frTo l (8 * k + j)) ∧ Below w.heap.size w wq) (fun _ i _ => (intOf i + 1).toNat)
      case atStart => exact ⟨0, by omega, rfl, HO.out, hb⟩
      case round =>
        clear HO hb
        obtain ⟨j, hj, rfl, hown, hb⟩ := hrel
        have HO := (show Hid _ from hown)
        clear hown
        by_cases hjt : j < 8
        · have hj7 : decide ((j : Int) ≤ 7) = true := by simp; omega
          have hj8 : decide (0 ≤ 7 - (j : Int)) = true := by simp; omega
          have bt0 := Bk.new (w := wr) #[.int .i64 (k : Int), .int .i64 (7 - (j : Int))] 31 rfl
          have hbt := bAlloc hb (.cells #[.int .i64 (k : Int), .int .i64 (7 - (j : Int))] 31)
          have OT := (show Hid _ from own_keep HO.out (bAlloc (Below.refl _ wr) (.cells #[.int .i64 (k : Int), .int .i64 (7 - (j : Int))] 31)))
          clear HO hb
          go_wp2_with fail
          generalize (wr.alloc (.cells #[.int .i64 (k : Int), .int .i64 (7 - (j : Int))] 31)) = wt at *
          generalize wr.heap.size = tb at *
          go_loopw [7, 8] (fun lb i wq => ∃ m : Nat, m ≤ n ∧ i = .int .i64 m ∧ lb = .bool (memTo l k (7 - (j : Int)) m) ∧ Below wt.heap.size wt wq) (fun _ i _ => n - (intOf i).toNat)
          case atStart => exact ⟨0, by omega, rfl, rfl, Below.refl _ _⟩
          case round =>
            obtain ⟨m, hmn, rfl, rfl, hb⟩ := hrel
            by_cases hmt : m < n
            · obtain ⟨g, off, rfl, hg, c0, c1⟩ := HC.out m hmt
              have d0 := cell_below hb (cell_below hbt c0)
              have d1 := cell_below hb (cell_below hbt c1)
              clear c0 c1
              obtain ⟨t0, t1, _, _⟩ := (bt0.keep hb).two
              have HS := (show Hid _ from memTo_succ l k (7 - (j : Int)) m)
              have HE := (show Hid (eqAt l k (7 - (j : Int)) m = decide (tA l m = k ∧ tB l m = 7 - (j : Int))) from rfl)
              generalize hX : tA l m = X at *
              generalize hY : tB l m = Y at *
              clear hX hY
              have im : ((m : Int) < (n : Int)) := by omega
              by_cases hXk : X = k
              · by_cases hYj : Y = 7 - (j : Int)
                · subst hXk hYj
                  go_wp2_with fail
                  go_quiet (fail)
                  go_wp2_with fail
                  go_roundw
                  case rel => exact ⟨m + 1, by omega, by go_num, by rw [HS.out, HE.out]; simp, bDrewN hb _⟩
                  case measure => simp [intOf]; omega
                · subst hXk
                  have ny : (Y == 7 - (j : Int)) = false := beq_eq_false_iff_ne.2 hYj
                  go_wp2_with fail
                  go_quiet (fail)
                  go_wp2_with fail
                  go_roundw
                  case rel => exact ⟨m + 1, by omega, by go_num, by rw [HS.out, HE.out]; simp [hYj], bDrewN hb _⟩
                  case measure => simp [intOf]; omega
              · have nx : (X == (k : Int)) = false := beq_eq_false_iff_ne.2 hXk
                go_wp2_with fail
                go_quiet (fail)
                go_wp2_with fail
                go_roundw
                case rel => exact ⟨m + 1, by omega, by go_num, by rw [HS.out, HE.out]; simp [hXk], bDrewN hb _⟩
                case measure => simp [intOf]; omega
            · obtain rfl : m = n := by omega
              obtain ⟨w5, hw5⟩ : ∃ w5, w5 = wr := ⟨_, rfl⟩
              subst hw5
              have hb5 := bStep hbt hb
              have bt5 := bt0.keep hb
              have O5 := (show Hid _ from own_keep OT.out hb)
              have HL : Hid (leastB l k (7 - (j : Int)) = (memTo l k (7 - (j : Int)) m && !lowTo l k (7 - (j : Int)) m)) := by show _ = _; unfold leastB; rw [HN.out]
              clear hb hbt bt0 OT
              generalize hme : memTo l k (7 - (j : Int)) m = me at *
              clear hme
              go_wp2_with fail
              go_loopw [7, 9] (fun lb i wq => ∃ q : Nat, q ≤ m ∧ i = .int .i64 q ∧ lb = .bool (me && !lowTo l k (7 - (j : Int)) q) ∧ Below w5.heap.size w5 wq) (fun _ i _ => m - (intOf i).toNat)
              case atStart => exact ⟨0, by omega, rfl, by simp [lowTo], Below.refl _ _⟩
              case round =>
                obtain ⟨q, hqm, rfl, rfl, hb⟩ := hrel
                by_cases hqt : q < m
                · obtain ⟨g, off, rfl, hg, c0, c1⟩ := HC.out q hqt
                  have HS := (show Hid _ from lowTo_succ l k (7 - (j : Int)) q)
                  have HE := (show Hid (lowAt l k (7 - (j : Int)) q = (!decide (tA l q = k ∧ tB l q = 7 - (j : Int)) && leB (tA l q) (tB l q) k (7 - (j : Int)))) from rfl)
                  generalize hX : tA l q = X at *
                  generalize hY : tB l q = Y at *
                  clear hX hY
                  generalize hlo : lowTo l k (7 - (j : Int)) q = lo at *
                  clear hlo
                  have d0 : ∀ p : Bel wr, p.ww.cell? ⟨g, off + q * 2, none⟩ = some (.int .i64 X) := fun p => cell_below p.below (cell_below hb (cell_below hb5 c0))
                  have d1 : ∀ p : Bel wr, p.ww.cell? ⟨g, off + q * 2 + 1, none⟩ = some (.int .i64 Y) := fun p => cell_below p.below (cell_below hb (cell_below hb5 c1))
                  have t0 := (bt5.keep hb).bel0
                  have t1 := (bt5.keep hb).bel1
                  have hne := bel_some wr
                  clear c0 c1
                  have iq : ((q : Int) < (m : Int)) := by omega
                  by_cases heq : X = k ∧ Y = 7 - (j : Int)
                  · obtain ⟨rfl, rfl⟩ := heq
                    go_wp2_with fail
                    (refine wp_region_bel (by kernel_rfl) (by kernel_rfl) ?_; (repeat (go_big_quiet_step ((first | (go_at_call 129; exact calls_bel (specLess_eq (by with_reducible assumption) _)))))); refine wpQuiet_nil ?_)
                    intro w6 hw6
                    replace hw6 := bel_out hw6
                    have hb6 := bStep hb hw6
                    go_wp2_with fail
                    go_roundw
                    case rel => exact ⟨q + 1, by omega, by go_num, by rw [HS.out, HE.out]; simp, hb6⟩
                    case measure => simp [intOf]; omega
                  · have hor : (X == (k : Int)) = false ∨ (X = k ∧ (Y == 7 - (j : Int)) = false) := by
                      by_cases hx : X = k
                      · exact .inr ⟨hx, beq_eq_false_iff_ne.2 fun h => heq ⟨hx, h⟩⟩
                      · exact .inl (beq_eq_false_iff_ne.2 hx)
                    have hde : decide (X = k ∧ Y = 7 - (j : Int)) = false := by simpa using heq
                    cases hp : leB X Y k (7 - (j : Int))
                    · have hfi : Hid ((lo || (!decide (X = k ∧ Y = 7 - (j : Int)) && leB X Y k (7 - (j : Int)))) = lo) := by show _ = lo; rw [hde, hp]; simp
                      clear heq hde
                      rcases hor with nx | ⟨rfl, ny⟩
                      all_goals go_wp2_with fail
                      all_goals (refine wp_region_bel (by kernel_rfl) (by kernel_rfl) ?_; (repeat (go_big_quiet_step ((first | (go_at_call 129; exact calls_bel (specLess_eq (by with_reducible assumption) _)))))); refine wpQuiet_nil ?_)
                      all_goals intro w6 hw6
                      all_goals replace hw6 := bel_out hw6
                      all_goals have hb6 := bStep hb hw6
                      all_goals go_wp2_with fail
                      all_goals go_roundw
                      case rel => exact ⟨q + 1, by omega, by go_num, by rw [HS.out, HE.out, hfi.out], hb6⟩
                      case measure => simp [intOf]; omega
                      case rel => exact ⟨q + 1, by omega, by go_num, by rw [HS.out, HE.out, hfi.out], hb6⟩
                      case measure => simp [intOf]; omega
                    · have hfi : Hid ((lo || (!decide (X = k ∧ Y = 7 - (j : Int)) && leB X Y k (7 - (j : Int)))) = true) := by show _ = true; rw [hde, hp]; simp
                      clear heq hde
                      rcases hor with nx | ⟨rfl, ny⟩
                      all_goals go_wp2_with fail
                      all_goals (refine wp_region_bel (by kernel_rfl) (by kernel_rfl) ?_; (repeat (go_big_quiet_step ((first | (go_at_call 129; exact calls_bel (specLess_eq (by with_reducible assumption) _)))))); refine wpQuiet_nil ?_)
                      all_goals intro w6 hw6
                      all_goals replace hw6 := bel_out hw6
                      all_goals have hb6 := bStep hb hw6
                      all_goals go_wp2_with fail
                      all_goals go_roundw
                      case rel => exact ⟨q + 1, by omega, by go_num, by rw [HS.out, HE.out, hfi.out]; simp, hb6⟩
                      case measure => simp [intOf]; omega
                      case rel => exact ⟨q + 1, by omega, by go_num, by rw [HS.out, HE.out, hfi.out]; simp, hb6⟩
                      case measure => simp [intOf]; omega
                · obtain rfl : q = m := by omega
                  have OW := own_keep O5.out hb
                  have hbw := bStep hb5 hb
                  obtain ⟨t0, t1, _, _⟩ := (bt5.keep hb).two
                  have hlen := frTo_len l (8 * k + j)
                  have HL2 := HL
                  cases hle : (me && !lowTo l k (7 - (j : Int)) q)
                  · have HZ : Hid (frTo l (8 * k + (j + 1)) = frTo l (8 * k + j)) := frTo_no l hjt (by rw [HL2.out]; exact hle)
                    have HOW := (show Hid _ from OW)
                    clear OW
                    go_wp2_with fail
                    go_roundw
                    case rel =>
                      refine ⟨j + 1, by omega, by go_num, ?_, hbw⟩
                      rw [HZ.out]; exact HOW.out
                    case measure => simp [intOf]; omega
                  · have HZ : Hid (frTo l (8 * k + (j + 1)) = frTo l (8 * k + j) ++ [((k : Int), 7 - (j : Int))]) := frTo_yes l hjt (by rw [HL2.out]; exact hle)
                    have hsz := hbw.size
                    go_wp2_with (at_builtin; refine wpList_append_lies _ rfl _ _ 37 rfl w.heap.size 31 i0 (.agg #[.int .i64 0, .int .i64 0]) 2 16 Try.underlying37 hi hz0 hz1 hz2 rfl (by decide) _ _ _ rfl (OW.alloc _) ⟨wr.heap.size, 0, none⟩ 1 1 [.int .i64 (k : Int), .int .i64 (7 - (j : Int))] rfl rfl (news2 _ _ _ _) (ones2 _ _) (by omega) (by unfold maxLen; omega) (by omega) (by simp; omega) (wr.heap.size + 1) (by simp) ?_; intro g3 cap3 w3 hown3 hgrow hat hlg)
                    have hb3 : Below w.heap.size w w3 := (bAlloc hbw _).grown hgrow (by simp; omega) (own_base OW)
                    go_roundw
                    case rel =>
                      refine ⟨j + 1, by omega, by go_num, ?_, hb3⟩
                      rw [HZ.out]
                      show w3.ownsRow _ _ _ _ _ _
                      rw [cellsL_snoc]; simpa using hown3
                    case measure => simp [intOf]; omega
        · obtain rfl : j = 8 := by omega
          go_wp2_with fail
          go_roundw
          case rel => exact ⟨k + 1, by omega, by go_num, HO.out, hb⟩
          case measure => simp [intOf]; omega
    · obtain rfl : k = 8 := by omega
      go_wp2_with fail
      go_ret
      refine ⟨_, rfl, ?_, hb⟩
      rw [HK.out]; exact HO.out
end Go.Proofs.Ytbmdfmboabfceaa
