/- What a word of a plan's text is, by the program: the contracts. -/
import Derived.Test.YtfofchgcbdbikaaDoorLp5
import Derived.Test.YtfofchgcbdbikaaDoorGa5
namespace Go.Proofs.YtfofchgcbdbikaaDoor
open Go.RowKit Go.Shelf

set_option maxRecDepth 100000 in
set_option maxHeartbeats 8000000 in
theorem shapeOf_any {k n : Int} (h1 : 1 ≤ k) (h6 : k ≤ 6) (h0 : 0 ≤ n) (h9 : n ≤ 9) (a : Option Addr) (i c : Nat) (w : World) :
    Calls Tryd.prog 49 #[pl k n (.slice a i c)] w fun e w' => e = .returned (shV (baS (headB k n)) (kidN k) (numLo k) (numHi k)) ∧ Below w.heap.size w w' := by
  obtain ⟨F, H, HW⟩ := word_of (k := k) (by simp only [inB, decide_eq_true_eq]; exact ⟨h1, h6⟩)
  have HSW := (show Hid (ShapeW k F) from HW)
  have HK := (show Hid _ from H.kind)
  have hme := H.meth
  have hen := H.enters
  have bP : Bk ((w.alloc (.cells #[.int .i64 k, .int .i64 n, .slice a i c] 25)).alloc (.cells #[.string ⟨#[]⟩, .int .i64 0, .int .i64 0, .int .i64 0] 75)) w.heap.size #[.int .i64 k, .int .i64 n, .slice a i c] 25 := (Bk.new _ _ rfl).alloc _
  have bR : Bk ((w.alloc (.cells #[.int .i64 k, .int .i64 n, .slice a i c] 25)).alloc (.cells #[.string ⟨#[]⟩, .int .i64 0, .int .i64 0, .int .i64 0] 75)) (w.heap.size + 1) #[.string ⟨#[]⟩, .int .i64 0, .int .i64 0, .int .i64 0] 75 := Bk.new _ _ (by simp)
  have hb0 : Below w.heap.size w ((w.alloc (.cells #[.int .i64 k, .int .i64 n, .slice a i c] 25)).alloc (.cells #[.string ⟨#[]⟩, .int .i64 0, .int .i64 0, .int .i64 0] 75)) := bAlloc (bAlloc (Below.refl _ _) _) _
  obtain ⟨x0, x1, x2⟩ := bP.three'
  clear H HW bP
  go_enter Tryd.func49, Tryd.ntmps49
  go_wp2_with fail
  generalize ((w.alloc (.cells #[.int .i64 k, .int .i64 n, .slice a i c] 25)).alloc (.cells #[.string ⟨#[]⟩, .int .i64 0, .int .i64 0, .int .i64 0] 75)) = W0 at *
  refine (HK.out n _ _).mono ?_
  rintro e w1 ⟨rfl, hb1⟩
  have bR1 := bR.keep hb1
  have hbw1 := bStep hb0 hb1
  clear x0 x1 x2 bR hb0 hb1
  go_wp2_with fail
  refine (HSW.out n _ h0 h9).mono ?_
  rintro e w2 ⟨rfl, hb2⟩
  have bR2 := bR1.keep hb2
  have hbw2 := bStep hbw1 hb2
  clear bR1 hbw1 hb2 hme hen
  have sf0 := bR2.free 0
  have sq0 := bR2.set 0 (.string (baS (headB k n)))
  have sf1 := sq0.free 1
  have sq1 := sq0.set 1 (.int .i64 (kidN k))
  have sf2 := sq1.free 2
  have sq2 := sq1.set 2 (.int .i64 (numLo k))
  have sf3 := sq2.free 3
  have sq3 := sq2.set 3 (.int .i64 (numHi k))
  have sN : Bk ((((w2.setCell ⟨w.heap.size + 1, 0, none⟩ (.string (baS (headB k n)))).setCell ⟨w.heap.size + 1, 1, none⟩ (.int .i64 (kidN k))).setCell ⟨w.heap.size + 1, 2, none⟩ (.int .i64 (numLo k))).setCell ⟨w.heap.size + 1, 3, none⟩ (.int .i64 (numHi k))) (w.heap.size + 1) #[.string (baS (headB k n)), .int .i64 (kidN k), .int .i64 (numLo k), .int .i64 (numHi k)] 75 := sq3
  obtain ⟨sy0, sy1, sy2, sy3⟩ := bR2.four'
  obtain ⟨sr0, sr1, sr2, sr3⟩ := sN.four'
  clear sq0 sq1 sq2 sq3
  have HBF : Hid (Below w.heap.size w ((((w2.setCell ⟨w.heap.size + 1, 0, none⟩ (.string (baS (headB k n)))).setCell ⟨w.heap.size + 1, 1, none⟩ (.int .i64 (kidN k))).setCell ⟨w.heap.size + 1, 2, none⟩ (.int .i64 (numLo k))).setCell ⟨w.heap.size + 1, 3, none⟩ (.int .i64 (numHi k)))) := ((((hbw2.setCell (by simp) _).setCell (by simp) _).setCell (by simp) _).setCell (by simp) _)
  clear sN bR2
  go_wp2_with fail
  refine bodyPost_ret (v := shV (baS (headB k n)) (kidN k) (numLo k) (numHi k)) (by simp [results, Tryd.results49, go_sem, sr0, sr1, sr2, sr3]; try rfl) rfl ?_
  exact ⟨rfl, HBF.out⟩
theorem look_none {x : By} (h : ∀ p ∈ cand, headB p.1 p.2 ≠ x) : lookW x = none := by
  unfold lookW
  rw [List.find?_eq_none]
  intro p hp
  simpa using h p hp
theorem look_is {k n : Int} {x : By} (h1 : 1 ≤ k) (h6 : k ≤ 6) (hl : numLo k ≤ n) (hh : n ≤ numHi k) (he : headB k n = x) : lookW x = some (k, n) := by
  subst he
  exact look_head (k, n) (cand_of h1 h6 hl hh)
theorem hi_le {k : Nat} (h1 : 1 ≤ k) (h6 : k ≤ 6) : 0 ≤ numLo k ∧ numLo k ≤ 1 ∧ 0 ≤ numHi k ∧ numHi k ≤ 7 := by
  obtain rfl | rfl | rfl | rfl | rfl | rfl : k = 1 ∨ k = 2 ∨ k = 3 ∨ k = 4 ∨ k = 5 ∨ k = 6 := by omega
  all_goals decide
/-- What planOfWord answers. -/
def WordPost (x : By) (w : World) (e : Ending) (w' : World) : Prop :=
  ((∃ p, lookW x = some p ∧ e = .returned (.tuple #[pl p.1 p.2 (.slice none 0 0), .int .i64 (kidN p.1), .bool true])) ∨ (lookW x = none ∧ e = .returned (.tuple #[pl 0 0 (.slice none 0 0), .int .i64 0, .bool false]))) ∧ Below w.heap.size w w'
set_option maxRecDepth 100000 in
set_option maxHeartbeats 8000000 in
theorem planOfWord_any (x : By) (w : World) : Calls Tryd.prog 45 #[.string (baS x)] w (WordPost x w) := by
  have b0 : Bk (w.alloc (.cells #[.int .i64 0, .int .i64 0, .slice none 0 0] 25)) w.heap.size #[.int .i64 0, .int .i64 0, .slice none 0 0] 25 := Bk.new _ _ rfl
  have hb0 : Below w.heap.size w (w.alloc (.cells #[.int .i64 0, .int .i64 0, .slice none 0 0] 25)) := bAlloc (Below.refl _ _) _
  go_enter Tryd.func45, Tryd.ntmps45
  go_wp2_with fail
  generalize w.alloc (.cells #[.int .i64 0, .int .i64 0, .slice none 0 0] 25) = W0 at *
  go_loopw [5] (fun kd wr => ∃ k : Nat, 1 ≤ k ∧ k ≤ 7 ∧ kd = .int .i64 k ∧ (∀ p ∈ cand, p.1 < (k : Int) → headB p.1 p.2 ≠ x) ∧ Bk wr w.heap.size #[.int .i64 0, .int .i64 0, .slice none 0 0] 25 ∧ Below w.heap.size w wr) (fun kd _ => 7 - (intOf kd).toNat)
  case atStart => exact ⟨1, by omega, by omega, rfl, fun p hp h => by have := (cand_in p hp).1; omega, b0, hb0⟩
  case round =>
    clear b0 hb0
    obtain ⟨k, k1, k7, rfl, hno, b0, hb⟩ := hrel
    have HNO := (show Hid (∀ p ∈ cand, p.1 < (k : Int) → headB p.1 p.2 ≠ x) from hno)
    clear hno
    by_cases k6 : k ≤ 6
    · have ik : (k : Int) ≤ 6 := by omega
      obtain ⟨l0, l1, m0, m7⟩ := hi_le k1 k6
      go_wp2_with fail
      refine (shapeOf_any (k := k) (n := 0) (by omega) (by omega) (by omega) (by omega) none 0 0 _).mono ?_
      rintro e w5 ⟨rfl, hb5⟩
      have b6 : Bk (w5.alloc (.cells #[.string (baS (headB k 0)), .int .i64 (kidN k), .int .i64 (numLo k), .int .i64 (numHi k)] 75)) w5.heap.size #[.string (baS (headB k 0)), .int .i64 (kidN k), .int .i64 (numLo k), .int .i64 (numHi k)] 75 := Bk.new _ _ rfl
      have b05 := (b0.keep hb5).alloc (.cells #[.string (baS (headB k 0)), .int .i64 (kidN k), .int .i64 (numLo k), .int .i64 (numHi k)] 75)
      have hb6 := bStep (bStep hb hb5) (bAlloc (Below.refl _ _) (.cells #[.string (baS (headB k 0)), .int .i64 (kidN k), .int .i64 (numLo k), .int .i64 (numHi k)] 75))
      have hlt := b05.lt
      have hne : w5.heap.size ≠ w.heap.size := by have := (b0.keep hb5).lt; omega
      obtain ⟨y0, y1, y2, y3⟩ := b6.four'
      clear b0 hb hb5
      go_wp2_with fail
      clear y0 y1 y2 y3
      generalize (w5.alloc (.cells #[.string (baS (headB k 0)), .int .i64 (kidN k), .int .i64 (numLo k), .int .i64 (numHi k)] 75)) = W6 at *
      generalize w5.heap.size = sb at *
      obtain ⟨lo, hlo⟩ := Int.eq_ofNat_of_zero_le l0
      rw [hlo]
      have HLO := (show Hid (numLo k = (lo : Int)) from hlo)
      clear hlo
      go_loopw [7] (fun nm wi => ∃ n : Nat, lo ≤ n ∧ (n : Int) ≤ numHi k + 1 ∧ nm = .int .i64 n ∧ (∀ p ∈ cand, p.1 = (k : Int) → p.2 < (n : Int) → headB p.1 p.2 ≠ x) ∧ Bk wi sb #[.string (baS (headB k 0)), .int .i64 (kidN k), .int .i64 (numLo k), .int .i64 (numHi k)] 75 ∧ Bk wi w.heap.size #[.int .i64 0, .int .i64 0, .slice none 0 0] 25 ∧ Below w.heap.size w wi) (fun nm _ => 10 - (intOf nm).toNat)
      case atStart => exact ⟨lo, Nat.le_refl _, by have := HLO.out; omega, rfl, fun p hp h1 h2 => by have := (cand_in p hp).2.2.1; rw [h1] at this; have := HLO.out; omega, b6, b05, hb6⟩
      case round =>
        clear b6 b05 hb6
        obtain ⟨n, ln, nh, rfl, hnn, b6, b0, hb⟩ := hrel
        have HNN := (show Hid _ from hnn)
        clear hnn
        obtain ⟨y0, y1, y2, y3⟩ := b6.four'
        by_cases nle : (n : Int) ≤ numHi k
        · go_wp2_with fail
          have b8 : Bk (wr.alloc (.cells #[.int .i64 k, .int .i64 n, .slice none 0 0] 25)) wr.heap.size #[.int .i64 k, .int .i64 n, .slice none 0 0] 25 := Bk.new _ _ rfl
          refine (shapeOf_any (k := k) (n := n) (by omega) (by omega) (by omega) (by omega) none 0 0 _).mono ?_
          rintro e w9 ⟨rfl, hb9⟩
          have b9 : Bk (w9.alloc (.cells #[.string (baS (headB k n)), .int .i64 (kidN k), .int .i64 (numLo k), .int .i64 (numHi k)] 75)) w9.heap.size #[.string (baS (headB k n)), .int .i64 (kidN k), .int .i64 (numLo k), .int .i64 (numHi k)] 75 := Bk.new _ _ rfl
          have h8 := (b8.keep hb9).alloc (.cells #[.string (baS (headB k n)), .int .i64 (kidN k), .int .i64 (numLo k), .int .i64 (numHi k)] 75)
          have h6 := ((b6.alloc (.cells #[.int .i64 k, .int .i64 n, .slice none 0 0] 25)).keep hb9).alloc (.cells #[.string (baS (headB k n)), .int .i64 (kidN k), .int .i64 (numLo k), .int .i64 (numHi k)] 75)
          have h0 := ((b0.alloc (.cells #[.int .i64 k, .int .i64 n, .slice none 0 0] 25)).keep hb9).alloc (.cells #[.string (baS (headB k n)), .int .i64 (kidN k), .int .i64 (numLo k), .int .i64 (numHi k)] 75)
          have hbN := bStep (bStep (bAlloc hb (.cells #[.int .i64 k, .int .i64 n, .slice none 0 0] 25)) hb9) (bAlloc (Below.refl _ _) (.cells #[.string (baS (headB k n)), .int .i64 (kidN k), .int .i64 (numLo k), .int .i64 (numHi k)] 75))
          obtain ⟨z0, z1, z2, z3⟩ := b9.four'
          obtain ⟨v0, v1, v2⟩ := h8.three'
          have hw0 : wr.heap.size ≠ w.heap.size := by have := b0.lt; omega
          have h90 : w9.heap.size ≠ w.heap.size := by have := (b0.alloc (.cells #[.int .i64 k, .int .i64 n, .slice none 0 0] 25)).keep hb9 |>.lt; omega
          clear y0 y1 y2 y3 b6 b0 hb b8 hb9
          have hcs : (headB k n == x) = true ∨ (headB k n == x) = false := by cases headB k n == x <;> simp
          rcases hcs with hq | hq
          · have he0 : headB k n = x := by simpa using hq
            have HE := (show Hid (headB k n = x) from he0)
            clear he0
            go_upto_region 11 with fail
            generalize (w9.alloc (.cells #[.string (baS (headB k n)), .int .i64 (kidN k), .int .i64 (numLo k), .int .i64 (numHi k)] 75)) = W9 at *
            generalize w9.heap.size = s9 at *
            generalize wr.heap.size = s8 at *
            have pf0 := h0.free 0
            have pq0 := h0.set 0 (.int .i64 k)
            have pf1 := pq0.free 1
            have pq1 := pq0.set 1 (.int .i64 n)
            have pf2 := pq1.free 2
            have pq2 := pq1.set 2 (.slice none 0 0)
            have pN : Bk (((W9.setCell ⟨w.heap.size, 0, none⟩ (.int .i64 k)).setCell ⟨w.heap.size, 1, none⟩ (.int .i64 n)).setCell ⟨w.heap.size, 2, none⟩ (.slice none 0 0)) (w.heap.size) #[.int .i64 k, .int .i64 n, .slice none 0 0] 25 := pq2
            obtain ⟨py0, py1, py2⟩ := h0.three'
            obtain ⟨pr0, pr1, pr2⟩ := pN.three'
            clear pq0 pq1 pq2
            have HBF : Hid (Below w.heap.size w ((((W9.setCell ⟨w.heap.size, 0, none⟩ (.int .i64 k)).setCell ⟨w.heap.size, 1, none⟩ (.int .i64 n)).setCell ⟨w.heap.size, 2, none⟩ (.slice none 0 0))).drew) := ((((hbN.setCell (by simp) _).setCell (by simp) _).setCell (by simp) _)).drew
            have zd : W9.drew.cell? ⟨s9, 1, none⟩ = some (.int .i64 (kidN k)) := z1
            have vd0 : W9.drew.cell? ⟨s8, 0, none⟩ = some (.int .i64 k) := v0
            have vd1 : W9.drew.cell? ⟨s8, 1, none⟩ = some (.int .i64 n) := v1
            have vd2 : W9.drew.cell? ⟨s8, 2, none⟩ = some (.slice none 0 0) := v2
            go_region
            all_goals
              go_wp2_with fail
              refine bodyPost_ret (v := .tuple #[pl k n (.slice none 0 0), .int .i64 (kidN k), .bool true]) (by simp [results, Tryd.results45, go_sem, pr0, pr1, pr2]; try rfl) rfl ?_
              exact ⟨Or.inl ⟨(k, n), look_is (by omega) (by omega) (by have := HLO.out; omega) nle HE.out, rfl⟩, HBF.out⟩
          · have he0 : headB k n ≠ x := by simpa using hq
            have he := (show Hid (headB k n ≠ x) from he0)
            clear he0
            go_wp2_with fail
            refine ⟨⟨n + 1, by omega, by omega, by simp, ?_, h6, h0, hbN⟩, by simp [intOf]; omega⟩
            intro p hp h1 h2
            by_cases h3 : p.2 < (n : Int)
            · exact HNN.out p hp h1 h3
            · have h4 : p.2 = (n : Int) := by omega
              rw [h1, h4]
              exact he.out
        · go_wp2_with fail
          refine ⟨⟨k + 1, by omega, by omega, by simp, ?_, b0, hb⟩, by simp [intOf]; omega⟩
          intro p hp hlt
          by_cases h3 : p.1 < (k : Int)
          · exact HNO.out p hp h3
          · have h4 : p.1 = (k : Int) := by omega
            refine HNN.out p hp h4 ?_
            have := (cand_in p hp).2.2.2
            rw [h4] at this
            omega
    · have k7 : k = 7 := by omega
      subst k7
      have qf0 := b0.free 0
      have qq0 := b0.set 0 (.int .i64 0)
      have qf1 := qq0.free 1
      have qq1 := qq0.set 1 (.int .i64 0)
      have qf2 := qq1.free 2
      have qq2 := qq1.set 2 (.slice none 0 0)
      have qN : Bk (((wr.setCell ⟨w.heap.size, 0, none⟩ (.int .i64 0)).setCell ⟨w.heap.size, 1, none⟩ (.int .i64 0)).setCell ⟨w.heap.size, 2, none⟩ (.slice none 0 0)) (w.heap.size) #[.int .i64 0, .int .i64 0, .slice none 0 0] 25 := qq2
      obtain ⟨qy0, qy1, qy2⟩ := b0.three'
      obtain ⟨qr0, qr1, qr2⟩ := qN.three'
      clear qq0 qq1 qq2
      have HBF : Hid (Below w.heap.size w ((((wr.setCell ⟨w.heap.size, 0, none⟩ (.int .i64 0)).setCell ⟨w.heap.size, 1, none⟩ (.int .i64 0)).setCell ⟨w.heap.size, 2, none⟩ (.slice none 0 0)))) := (((hb.setCell (by simp) _).setCell (by simp) _).setCell (by simp) _)
      go_wp2_with fail
      refine bodyPost_ret (v := .tuple #[pl 0 0 (.slice none 0 0), .int .i64 0, .bool false]) (by simp [results, Tryd.results45, go_sem, qr0, qr1, qr2]; try rfl) rfl ?_
      exact ⟨Or.inr ⟨look_none fun p hp => HNO.out p hp (by have := (cand_in p hp).2.1; omega), rfl⟩, HBF.out⟩
end Go.Proofs.YtfofchgcbdbikaaDoor
