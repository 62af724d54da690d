/- BatchTimes of the program: the contract. -/
import Derived.Test.YtbmdfmboabfceaaSf1
import Derived.Test.YtbmdfmboabfceaaSb
namespace Go.Proofs.Ytbmdfmboabfceaa
open Go.RowKit

set_option maxHeartbeats 2000000 in
theorem compactN_any (w : World) :
    Calls Try.prog 124 #[.slice none 0 0] w fun e w' => e = .returned (.slice none 0 0) ∧ w' = w := by
  go_enter Try.func124, Try.ntmps124
  go_wp2_with fail
  go_ret
  exact ⟨rfl, rfl⟩
theorem compactO_any {B : Nat} {v : Value} {l : List (Int × Int)} {w : World} (h : Own w B v l) (hn : l.length ≤ 2097152) (hB : B ≤ w.heap.size) :
    Calls Try.prog 124 #[v] w fun e w' => ∃ o, e = .returned o ∧ Own w' B o (compTo l l.length) ∧ Below B w w' := by
  rcases own_open h with ⟨rfl, rfl⟩ | ⟨g, cap, c, rfl, hg, hb, hs, hc, hm, hfill⟩
  · refine (compactN_any w).mono ?_
    rintro e w' ⟨rfl, rfl⟩
    exact ⟨_, rfl, h, Below.refl _ _⟩
  · refine (compact_any g cap c l w hb hs hc hm hn hfill).mono ?_
    rintro e w' ⟨c', rfl, b', s', f', x'⟩
    have hle : (compTo l l.length).length ≤ cap := Nat.le_trans (comp_len _ _) hc
    exact ⟨_, rfl, own_of_fill b' f' s' hle hm hg, x'.bel hB hg⟩
theorem at_snoc {l : List Rw} {k : Nat} {r : Rw} (h : l[k]? = some r) : (l.take (k + 1)).map (fun r => r.1.2) = (l.take k).map (fun r => r.1.2) ++ [r.1.2] := by
  rw [take_snoc h, List.map_append]; rfl
set_option maxRecDepth 100000 in
set_option maxHeartbeats 4000000 in
theorem implTimes2_any (v : Value) (l : List Rw) (w : World) (h : Rs w v l) :
    Calls Try.prog 61 #[v] w fun e w' => ∃ o : Value, e = .returned o ∧ Own w' w.heap.size o (timesL l) ∧ Below w.heap.size w w' := by
  cases hk : rokB l
  · have HF : Hid (timesL l = []) := times_no hk
    go_enter Try.func61, Try.ntmps61
    go_wp2_with fail
    refine (implRowsOk_eq hk h).mono ?_
    rintro e w1 ⟨rfl, hb1⟩
    go_wp2_with fail
    go_ret
    refine ⟨_, rfl, ?_, hb1⟩
    rw [HF.out]
    exact ⟨rfl, .inl ⟨rfl, rfl⟩⟩
  have hl := rok_len hk
  have HT : Hid (∀ m : List (Int × Int), m.Perm (l.map fun r => r.1.2) → m.Pairwise (fun p q => ltT q p = false) → compTo m m.length = timesL l) := fun m => comp_times hk
  go_enter Try.func61, Try.ntmps61
  go_wp2_with fail
  refine (implRowsOk_eq hk h).mono ?_
  rintro e w1 ⟨rfl, hb1⟩
  have h1 := h.keep hb1
  clear h
  obtain ⟨a, cap, rfl, hc, hm, hn, hcells⟩ := Rs.open h1
  unfold maxLen at hm
  have HC := (show Hid _ from hcells)
  have hs1 := hb1.size
  clear hcells h1
  go_wp2_with fail
  go_loopw [3, 11] (fun o i wr => ∃ k : Nat, k ≤ l.length ∧ i = .int .i64 k ∧ Own wr w1.heap.size o ((l.take k).map fun r => r.1.2) ∧ Below w1.heap.size w1 wr) (fun _ i _ => l.length - (intOf i).toNat)
  case atStart => exact ⟨0, by omega, rfl, ⟨rfl, .inl ⟨rfl, rfl⟩⟩, Below.refl _ _⟩
  case round =>
    obtain ⟨k, hkl, rfl, hown, hb⟩ := hrel
    have HO : Hid (Own wr w1.heap.size u3 ((l.take k).map fun r => r.1.2)) := hown
    clear hown
    by_cases hlt : k < l.length
    · obtain ⟨g, off, K, V, A, B, D, rfl, hg, hr, c0, c1, c2, c3, c4⟩ := HC.out k hlt
      have HZ : Hid ((l.take (k + 1)).map (fun r => r.1.2) = (l.take k).map (fun r => r.1.2) ++ [(A, B)]) := at_snoc hr
      have d0 := cell_below hb c0
      have d1 := cell_below hb c1
      have d2 := cell_below hb c2
      have d3 := cell_below hb c3
      have d4 := cell_below hb c4
      have hL : ((l.take k).map fun r => r.1.2).length ≤ 400 := by simp; omega
      have ik : ((k : Int) < (l.length : Int)) := by omega
      have bt0 := Bk.new (w := wr) #[.int .i64 K, .int .i64 V, .int .i64 A, .int .i64 B, .int .i64 D] 33 rfl
      have hb' : Below w1.heap.size w1 (wr.alloc (.cells #[.int .i64 K, .int .i64 V, .int .i64 A, .int .i64 B, .int .i64 D] 33)) := bAlloc hb _
      have O1 : Own (wr.alloc (.cells #[.int .i64 K, .int .i64 V, .int .i64 A, .int .i64 B, .int .i64 D] 33)) w1.heap.size u3 ((l.take k).map fun r => r.1.2) := HO.out.alloc _
      clear c0 c1 c2 c3 c4 hr HO hb
      go_upto_region 7 with fail
      clear d0 d1 d2 d3 d4
      generalize wr.heap.size = tb at *
      generalize World.alloc _ _ = wt at *
      obtain ⟨y0, y1, y2, y3, y4⟩ := bt0.five
      have hs2 := hb'.size
      generalize (l.take k).map (fun r => r.1.2) = L at *
      go_wp2_with (at_builtin; refine appT _ rfl _ _ rfl w1.heap.size _ _ rfl (O1.alloc _) _ _ _ rfl (Bk.new _ _ rfl) (by omega) (by simp; omega) ?_; intro g7 cap7 w7 own7 hgrow hlg)
      have hb7 : Below w1.heap.size w1 w7 := Below.grew (bAlloc hb' _) hgrow (by simp; omega) (ownK_base O1)
      go_roundw
      case rel =>
        refine ⟨k + 1, by omega, by go_num, ?_, hb7⟩
        rw [HZ.out]; exact own7
      case measure => simp [intOf]; omega
    · obtain rfl : k = l.length := by omega
      have O1 : Own wr w1.heap.size u3 (l.map fun r => r.1.2) := by have := HO.out; rw [List.take_length] at this; exact this
      have hs2 := hb.size
      have hlen : (l.map fun r => r.1.2).length = l.length := by simp
      clear HO
      go_wp2_with fail
      refine (sortT_any O1 (by omega) hs2).mono ?_
      rintro e w2 ⟨rfl, m, hp, hso, own2, hb2⟩
      have hml : m.length = l.length := by rw [hp.length_eq, hlen]
      have HE : Hid (compTo m m.length = timesL l) := HT.out m hp hso
      have hb3 := hb.trans hb2
      have hs3 := hb3.size
      have O2 : Hid (Own w2 w1.heap.size u3 m) := own2
      clear own2 O1 HT hp hso
      go_wp2_with fail
      refine (compactO_any O2.out (by omega) hs3).mono ?_
      rintro e w3 ⟨o3, rfl, own3, hb4⟩
      have O3 : Hid (Own w3 w1.heap.size o3 (compTo m m.length)) := own3
      clear own3
      go_wp2_with fail
      go_ret
      refine ⟨_, rfl, ?_, bStep hb1 (hb3.trans hb4)⟩
      rw [← HE.out]
      exact own_less O3.out hs1
end Go.Proofs.Ytbmdfmboabfceaa
