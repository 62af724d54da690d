/- BatchTimes of the model: the contract. -/
import Derived.Test.YtbmdfmboabfceaaSf2
import Derived.Test.YtbmdfmboabfceaaFr12
namespace Go.Proofs.Ytbmdfmboabfceaa
open Go.RowKit

theorem gT_at {k j : Nat} (h : j < 8) : gT (8 * k + j) = ((k : Int), (j : Int)) := by
  unfold gT
  rw [show (8 * k + j) / 8 = k by omega, show (8 * k + j) % 8 = j by omega]
theorem timesTo_no {l : List Rw} {k j : Nat} (hj : j < 8) (h : ∀ (i : Nat) (r : Rw), l[i]? = some r → r.1.2 ≠ ((k : Int), (j : Int))) : timesTo l (8 * k + (j + 1)) = timesTo l (8 * k + j) := by
  rw [← Nat.add_assoc, timesTo_succ, gT_at hj]
  have : hasT l ((k : Int), (j : Int)) = false := by
    rw [← Bool.not_eq_true, has_iff]
    rintro ⟨r, hr, e⟩
    obtain ⟨i, hi, rfl⟩ := List.getElem_of_mem hr
    exact h i _ (List.getElem?_eq_getElem hi) e
  rw [this]; simp
theorem timesTo_yes {l : List Rw} {k j i : Nat} {r : Rw} (hj : j < 8) (h : l[i]? = some r) (e : r.1.2 = ((k : Int), (j : Int))) : timesTo l (8 * k + (j + 1)) = timesTo l (8 * k + j) ++ [((k : Int), (j : Int))] := by
  rw [← Nat.add_assoc, timesTo_succ, gT_at hj, if_pos (has_iff.2 ⟨r, List.mem_of_getElem? h, e⟩)]
theorem own_empT (w : World) {B : Nat} (hB : B = w.heap.size) : Own (w.alloc (.cells #[] 31)) B (.slice (some ⟨B, 0, none⟩) 0 0) [] := by
  subst hB; exact own_empty w _ 2
set_option maxRecDepth 100000 in
set_option maxHeartbeats 8000000 in
theorem specTimes2_any (v : Value) (l : List Rw) (w : World) (h : Rs w v l) :
    Calls Try.prog 63 #[v] w fun e w' => ∃ o : Value, e = .returned o ∧ Own w' w.heap.size o (timesL l) ∧ Below w.heap.size w w' := by
  have o0 := own_empT w rfl
  have hb0 := bAlloc (Below.refl w.heap.size w) (.cells #[] 31)
  cases hk : rokB l
  · have HF : Hid (timesL l = []) := times_no hk
    go_enter Try.func63, Try.ntmps63
    go_wp2_with fail
    refine wp_loop_rounds 1 ?_
    rw [rounds_succ]
    go_wp2_with fail
    refine (specRowsOk_eq hk (h.keep hb0)).mono ?_
    rintro e w1 ⟨rfl, hb1⟩
    have O1 : Hid (Own w1 w.heap.size (.slice (some ⟨w.heap.size, 0, none⟩) 0 0) []) := own_keep o0 hb1
    clear o0
    go_wp2_with fail
    go_ret
    refine ⟨_, rfl, ?_, bStep hb0 hb1⟩
    rw [HF.out]
    exact O1.out
  have HF : Hid (timesL l = timesTo l (8 * 8)) := times_yes hk
  have HH : Hid (Rs w v l) := h
  obtain ⟨a, cap, rfl, hc, hm, hn, hcells⟩ := Rs.open h
  unfold maxLen at hm
  have HC := (show Hid _ from hcells)
  have hl := rok_len hk
  clear hcells h
  go_enter Try.func63, Try.ntmps63
  go_wp2_with fail
  go_loopw [3, 4] (fun o i wr => ∃ k : Nat, k ≤ 8 ∧ i = .int .i64 k ∧ Own wr w.heap.size o (timesTo l (8 * k)) ∧ Below w.heap.size w wr) (fun _ i _ => 8 - (intOf i).toNat)
  case atStart => exact ⟨0, by omega, rfl, o0, hb0⟩
  case round =>
    clear o0 hb0
    obtain ⟨k, hk8, rfl, hown, hb⟩ := hrel
    have HO : Hid (Own wr w.heap.size u3 (timesTo l (8 * k))) := hown
    clear hown
    by_cases hlt : k < 8
    · have hk7 : decide ((k : Int) ≤ 7) = true := by simp; omega
      go_wp2_with fail
      refine (specRowsOk_eq hk (HH.out.keep hb)).mono ?_
      rintro e w1 ⟨rfl, hb1⟩
      have O1 : Hid (Own w1 w.heap.size u3 (timesTo l (8 * k))) := own_keep HO.out hb1
      have hbw := bStep hb hb1
      clear HO hb hb1
      go_wp2_with fail
      go_loopw [3, 5] (fun o i wq => ∃ j : Nat, j ≤ 8 ∧ i = .int .i64 j ∧ Own wq w.heap.size o (timesTo l (8 * k + j)) ∧ Below w.heap.size w wq) (fun _ i _ => 8 - (intOf i).toNat)
      case atStart => exact ⟨0, by omega, rfl, O1.out, hbw⟩
      case round =>
        clear O1 hbw
        obtain ⟨j, hj, rfl, hown, hb⟩ := hrel
        have HO := (show Hid _ from hown)
        clear hown
        by_cases hjt : j < 8
        · have hj7 : decide ((j : Int) ≤ 7) = true := by simp; omega
          have bt0 := Bk.new (w := wr) #[.int .i64 (k : Int), .int .i64 (j : Int)] 31 rfl
          have hbt := bAlloc hb (.cells #[.int .i64 (k : Int), .int .i64 (j : Int)] 31)
          have OT := (show Hid _ from own_keep HO.out (bAlloc (Below.refl _ wr) (.cells #[.int .i64 (k : Int), .int .i64 (j : Int)] 31)))
          clear HO hb
          go_wp2_with fail
          generalize (wr.alloc (.cells #[.int .i64 (k : Int), .int .i64 (j : Int)] 31)) = wt at *
          generalize wr.heap.size = tb at *
          generalize hov : u3 = ov at *
          clear hov
          go_loopw [3, 7] (fun o i wq => ∃ m : Nat, m ≤ l.length ∧ i = .int .i64 m ∧ o = ov ∧ (∀ i r, i < m → l[i]? = some r → r.1.2 ≠ ((k : Int), (j : Int))) ∧ Below wt.heap.size wt wq) (fun _ i _ => l.length - (intOf i).toNat)
          case atStart => exact ⟨0, by omega, rfl, rfl, fun i r h => by omega, Below.refl _ _⟩
          case round =>
            obtain ⟨m, hml, rfl, rfl, hno, hb⟩ := hrel
            have HN := (show Hid _ from hno)
            clear hno
            have hlen := timesTo_len l (8 * k + j)
            have hbw := bStep hbt hb
            have hsz := hbw.size
            by_cases hmt : m < l.length
            · obtain ⟨g, off, K, V, A, B, D, rfl, hg, hr, c0, c1, c2, c3, c4⟩ := HC.out m hmt
              have d2 := cell_below hb (cell_below hbt c2)
              have d3 := cell_below hb (cell_below hbt c3)
              have HR := (show Hid _ from hr)
              clear c0 c1 c2 c3 c4 hr
              obtain ⟨t0, t1, _, _⟩ := (bt0.keep hb).two
              have im : ((m : Int) < (l.length : Int)) := by omega
              have hsplit : (A = (k : Int) ∧ B = (j : Int)) ∨ (A == (k : Int)) = false ∨ (A = (k : Int) ∧ (B == (j : Int)) = false) := by
                by_cases e1 : A = (k : Int)
                · by_cases e2 : B = (j : Int)
                  · exact .inl ⟨e1, e2⟩
                  · exact .inr (.inr ⟨e1, beq_eq_false_iff_ne.2 e2⟩)
                · exact .inr (.inl (beq_eq_false_iff_ne.2 e1))
              rcases hsplit with ⟨rfl, rfl⟩ | hne
              · have HZ : Hid (timesTo l (8 * k + (j + 1)) = timesTo l (8 * k + j) ++ [((k : Int), (j : Int))]) := timesTo_yes hjt HR.out rfl
                have OW := own_keep OT.out hb
                generalize timesTo l (8 * k + j) = L at *
                go_wp2_with fail
                go_quiet (fail)
                have O2 : Own (wr.drewN nq) w.heap.size u3 L := OW
                have hb2 := bDrewN hbw nq
                have hsz2 := hb2.size
                have s0 : (wr.drewN nq).cell? ⟨tb, 0, none⟩ = some (.int .i64 (k : Int)) := t0
                have s1 : (wr.drewN nq).cell? ⟨tb, 1, none⟩ = some (.int .i64 (j : Int)) := t1
                clear OW t0 t1 d2 d3
                generalize (wr.drewN nq) = wx at *
                go_wp2_with (at_builtin; refine appT _ rfl _ _ rfl w.heap.size _ _ rfl (O2.alloc _) _ _ _ rfl (Bk.new _ _ rfl) (by omega) (by simp; omega) ?_; intro g7 cap7 w7 own7 hgrow hlg)
                have hb7 : Below w.heap.size w w7 := Below.grew (bAlloc hb2 _) hgrow (by simp; omega) (ownK_base O2)
                go_roundw
                case rel =>
                  refine ⟨j + 1, by omega, by go_num, ?_, hb7⟩
                  rw [HZ.out]; exact own7
                case measure => simp [intOf]; omega
              · have HK : Hid (∀ i r, i < m + 1 → l[i]? = some r → r.1.2 ≠ ((k : Int), (j : Int))) := fun i r hi hx => by
                  by_cases e : i = m
                  · subst e
                    rw [HR.out] at hx
                    cases hx
                    intro e
                    cases e
                    rcases hne with h | ⟨_, h⟩ <;> simp at h
                  · exact HN.out i r (by omega) hx
                clear HN HR
                rcases hne with hne | ⟨rfl, hne⟩
                all_goals
                  go_wp2_with fail
                  go_quiet (fail)
                  go_wp2_with fail
                  go_roundw
                  case rel => exact ⟨m + 1, by omega, by go_num, rfl, HK.out, bDrewN hb _⟩
                  case measure => simp [intOf]; omega
            · have HZ : Hid (timesTo l (8 * k + (j + 1)) = timesTo l (8 * k + j)) := timesTo_no hjt fun i r hr => HN.out i r (by have := (List.getElem?_eq_some_iff.1 hr).1; omega) hr
              have OW := (show Hid _ from own_keep OT.out hb)
              obtain rfl : m = l.length := by omega
              go_wp2_with fail
              go_roundw
              case rel =>
                refine ⟨j + 1, by omega, by go_num, ?_, hbw⟩
                rw [HZ.out]; exact OW.out
              case measure => simp [intOf]; omega
        · obtain rfl : j = 8 := by omega
          go_wp2_with fail
          go_roundw
          case rel => exact ⟨k + 1, by omega, by go_num, HO.out, hb⟩
          case measure => simp [intOf]; omega
    · obtain rfl : k = 8 := by omega
      go_wp2_with fail
      go_ret
      refine ⟨_, rfl, ?_, hb⟩
      rw [HF.out]; exact HO.out
end Go.Proofs.Ytbmdfmboabfceaa
