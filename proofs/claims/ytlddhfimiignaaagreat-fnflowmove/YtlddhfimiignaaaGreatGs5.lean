/- BatchMove of the program: the contract. -/
import Derived.Test.YtlddhfimiignaaaGreatGs4
import Derived.Test.YtlddhfimiignaaaGreatGb2
import Derived.Test.YtlddhfimiignaaaGreatGa8
/-! BatchMove of the program: the contract. -/
namespace Go.Proofs.YtlddhfimiignaaaGreat
open Go.RowKit

/-- A row moved by a front. -/
def mvR (f : List (Int × Int)) (r : Rw) : Rw := ((r.1.1, moveV f r.1.2.1 r.1.2.2), r.2)
def moveL (f : List (Int × Int)) (l : List Rw) : List Rw := l.map (mvR f)
def bmoveL (l : List Rw) (f : List (Int × Int)) : List Rw := if rokB l && fokB f then sumF (moveL f l) else []
theorem bmove_no1 {l : List Rw} {f : List (Int × Int)} (h : rokB l = false) : bmoveL l f = [] := by simp [bmoveL, h]
theorem bmove_no2 {l : List Rw} {f : List (Int × Int)} (h : fokB f = false) : bmoveL l f = [] := by simp [bmoveL, h]
theorem bmove_yes {l : List Rw} {f : List (Int × Int)} (h : rokB l = true) (h' : fokB f = true) : bmoveL l f = sumF (moveL f l) := by simp [bmoveL, h, h']
theorem bmove_len (l : List Rw) (f : List (Int × Int)) : (bmoveL l f).length ≤ 400 := by
  unfold bmoveL; split
  · exact sumF_len4 _
  · simp
theorem move_abs (f : List (Int × Int)) (l : List Rw) : absum (moveL f l) = absum l := by
  unfold moveL
  induction l with
  | nil => rfl
  | cons r l ih => simp only [List.map_cons, absum, ih]; rfl
theorem move_sp {l : List Rw} {f : List (Int × Int)} (h : rokB l = true) (hf : fokB f = true) : ∀ r ∈ moveL f l, spOk r.1 := fun r hr => by
  obtain ⟨q, hq, rfl⟩ := List.mem_map.1 hr
  have h1 := rw_sp (rok_at h hq)
  have h2 := rw_time (rok_at h hq)
  have h3 := move_ok hf h2 (m1 := (moveV f q.1.2.1 q.1.2.2).1) (m2 := (moveV f q.1.2.1 q.1.2.2).2) rfl
  rw [okB_iff] at h3
  obtain ⟨s1, s2, _, _⟩ := h1
  exact ⟨s1, s2, by unfold fit63; simp only [mvR]; omega, by unfold fit63; simp only [mvR]; omega⟩
theorem FillK.time {c : Array Value} {L : List Rw} {n i : Nat} {t : Int × Int} {A B d : Int} (h : FillK rowC 5 c L n) (hi : L[i]? = some ((t, (A, B)), d)) (hin : i < n) (hs : i * 5 + 4 < c.size) (A' B' : Int) :
    FillK rowC 5 ((c.setIfInBounds (i * 5 + 2) (.int .i64 A')).setIfInBounds (i * 5 + 3) (.int .i64 B')) (L.set i ((t, (A', B')), d)) n := by
  intro j x hj hx q hq
  have hil := (List.getElem?_eq_some_iff.1 hi).1
  rw [List.getElem?_set] at hx
  rw [Array.getElem?_setIfInBounds, Array.getElem?_setIfInBounds, Array.size_setIfInBounds]
  by_cases e : i = j
  · subst e
    rw [if_pos rfl, if_pos hil] at hx
    cases hx
    obtain rfl | rfl | hq4 : q = 2 ∨ q = 3 ∨ (q ≠ 2 ∧ q ≠ 3) := by omega
    · rw [if_neg (by omega), if_pos rfl, if_pos (by omega)]; rfl
    · rw [if_pos rfl, if_pos (by omega)]; rfl
    · rw [if_neg (by omega), if_neg (by omega), h i _ hin hi q hq]
      obtain rfl | rfl | rfl : q = 0 ∨ q = 1 ∨ q = 4 := by omega
      all_goals rfl
  · rw [if_neg e] at hx
    rw [if_neg (by omega), if_neg (by omega)]
    exact h j x hj hx q hq
theorem implFrontOk_is {l : List (Int × Int)} {r : Bool} (h : fokB l = r) {v : Value} {w : World} (ht : Ts w v l) : Calls Tryz.prog 67 #[v] w fun e w' => e = .returned (.bool r) ∧ Below w.heap.size w w' := by
  rw [← h]; exact implFrontOk_any v l w ht
set_option maxHeartbeats 4000000 in
theorem implMove2_any (v v' : Value) (l : List Rw) (f : List (Int × Int)) (w : World) (h : Rs w v l) (h' : Ts w v' f) :
    Calls Tryz.prog 27 #[v, v'] w fun e w' => ∃ o : Value, e = .returned o ∧ OwnR w' w.heap.size o (bmoveL l f) ∧ Below w.heap.size w w' := by
  cases hk : rokB l
  · have HF : Hid (bmoveL l f = []) := bmove_no1 hk
    go_enter Tryz.func27, Tryz.ntmps27
    go_wp2_with fail
    refine (implRowsOk_eq hk h).mono ?_
    rintro e w1 ⟨rfl, hb1⟩
    go_wp2_with fail
    go_ret
    refine ⟨_, rfl, ?_, hb1⟩
    rw [HF.out]
    exact ownK_nil _ _ _ _ _
  cases hk' : fokB f
  · have HF : Hid (bmoveL l f = []) := bmove_no2 hk'
    go_enter Tryz.func27, Tryz.ntmps27
    go_wp2_with fail
    refine (implRowsOk_eq hk h).mono ?_
    rintro e w1 ⟨rfl, hb1⟩
    have h1' := h'.keep hb1
    go_wp2_with fail
    refine (implFrontOk_is hk' h1').mono ?_
    rintro e w2 ⟨rfl, hb2⟩
    go_wp2_with fail
    go_ret
    refine ⟨_, rfl, ?_, bStep hb1 hb2⟩
    rw [HF.out]
    exact ownK_nil _ _ _ _ _
  have HF : Hid (bmoveL l f = sumF (moveL f l)) := bmove_yes hk hk'
  have ha := rok_abs hk
  have hna := move_abs f l
  have hl := rok_len hk
  have hsp : Hid (∀ r ∈ moveL f l, spOk r.1) := move_sp hk hk'
  have hnl : (moveL f l).length = l.length := by simp [moveL]
  have HT : Hid (Ts w v' f) := h'
  obtain ⟨af, capf, rfl, -, -, -, -⟩ := h'
  go_enter Tryz.func27, Tryz.ntmps27
  go_wp2_with fail
  refine (implRowsOk_eq hk h).mono ?_
  rintro e w1 ⟨rfl, hb1⟩
  have h1 := h.keep hb1
  have ht1 := HT.out.keep hb1
  clear h
  go_wp2_with fail
  refine (implFrontOk_is hk' ht1).mono ?_
  rintro e w1' ⟨rfl, hb1'⟩
  have h2 := h1.keep hb1'
  have hbw1 := bStep hb1 hb1'
  have hs1 := hbw1.size
  clear h1 ht1
  go_wp2_with fail
  refine (clone_any _ l _ h2 (by omega)).mono ?_
  rintro e w2 ⟨o2, rfl, own2, hb2⟩
  have hbw2 := bStep hbw1 hb2
  have hs2 := hb2.size
  clear h2
  rcases ownK_open own2 rowC_len with ⟨rfl, rfl⟩ | ⟨g, cap, c, rfl, hg, hbk, hcs, hcc, hm, hfill⟩
  · have R2 : Rs w2 (.slice none 0 0) [] := OwnR.rs own2 (by simp)
    clear own2
    go_wp2_with fail
    refine wp_loop_rounds 1 ?_
    rw [rounds_succ]
    go_wp2_with fail
    refine (batchOf_any _ (moveL f []) _ R2 (by simp [moveL]) (by simp [moveL, absum]) hsp.out).mono ?_
    rintro e w3 ⟨o3, rfl, own3, hb3⟩
    have O3 : Hid (OwnR w3 w2.heap.size o3 (sumF (moveL f []))) := own3
    clear own3
    go_wp2_with fail
    go_ret
    refine ⟨_, rfl, ?_, bStep hbw2 hb3⟩
    rw [HF.out]
    exact own_less O3.out (by omega)
  · clear own2
    unfold maxLen at hm
    have HCS : Hid (c.size = cap * 5) := hcs
    have HFL : Hid (FillK rowC 5 c l l.length) := hfill
    have T2 := HT.out.keep hbw2
    have hgw : w.heap.size ≤ g := by omega
    clear hcs hfill
    go_wp2_with fail
    go_loopw [19] (fun i wr => ∃ (k : Nat) (c' : Array Value), k ≤ l.length ∧ i = .int .i64 k ∧ Bk wr g c' 41 ∧ c'.size = cap * 5 ∧ FillK rowC 5 c' (mixL (mvR f) l k) l.length ∧ Below w.heap.size w wr) (fun i _ => l.length - (intOf i).toNat)
    case atStart => exact ⟨0, c, by omega, rfl, hbk, HCS.out, by rw [mix_zero]; exact HFL.out, hbw2⟩
    case round =>
      clear hbk HCS HFL
      obtain ⟨k, c', hkl, rfl, hbk, hcs, hfill, hx⟩ := hrel
      have HCS : Hid (c'.size = cap * 5) := hcs
      have HFL : Hid (FillK rowC 5 c' (mixL (mvR f) l k) l.length) := hfill
      by_cases hlt : k < l.length
      · obtain ⟨⟨⟨t, A, B⟩, d⟩, hr⟩ : ∃ r, l[k]? = some r := ⟨_, List.getElem?_eq_getElem hlt⟩
        have hat := mix_at (mvR f) hr
        have x2 : c'[k * 5 + 2]? = some (.int .i64 A) := hfill k _ hlt hat 2 (by omega)
        have x3 : c'[k * 5 + 3]? = some (.int .i64 B) := hfill k _ hlt hat 3 (by omega)
        have d2 := hbk.cell x2
        have d3 := hbk.cell x3
        obtain ⟨m1, m2, hmv⟩ : ∃ m1 m2, moveV f A B = (m1, m2) := ⟨_, _, rfl⟩
        have HN : Hid (FillK rowC 5 ((c'.setIfInBounds (k * 5 + 2) (.int .i64 m1)).setIfInBounds (k * 5 + 3) (.int .i64 m2)) (mixL (mvR f) l (k + 1)) l.length) := by
          have h1 := FillK.time hfill hat hlt (by omega) m1 m2
          rw [← mix_set (mvR f) hr]
          have : mvR f ((t, (A, B)), d) = ((t, (m1, m2)), d) := by simp only [mvR, hmv]
          rw [this]; exact h1
        have T3 := HT.out.keep hx
        clear hcs hfill hr hat x2 x3
        have ik : ((k : Int) < (l.length : Int)) := by omega
        go_wp2_with fail
        refine (implFrontMove_eq hmv T3).mono ?_
        rintro e w3 ⟨rfl, hb3⟩
        have hbk3 := hbk.keep hb3
        have hx3 := bStep hx hb3
        obtain ⟨y2, q2⟩ := hbk3.held (i := k * 5 + 2) (by have := HCS.out; omega)
        obtain ⟨y3, q3⟩ := hbk3.held (i := k * 5 + 3) (by have := HCS.out; omega)
        have f2 := hbk3.free (k * 5 + 2)
        have f3 := hbk3.free (k * 5 + 3)
        have bk2 := (hbk3.set (k * 5 + 2) (.int .i64 m1)).set (k * 5 + 3) (.int .i64 m2)
        have hx4 : Below w.heap.size w ((w3.setCell ⟨g, k * 5 + 2, none⟩ (.int .i64 m1)).setCell ⟨g, k * 5 + 3, none⟩ (.int .i64 m2)) := (hx3.setCell (by simp; omega) _).setCell (by simp; omega) _
        clear hmv T3 d2 d3 hbk hx hb3
        go_wp2_with fail
        go_roundw
        case rel => exact ⟨k + 1, _, by omega, by go_num, bk2, by simpa using HCS.out, HN.out, hx4⟩
        case measure => simp [intOf]; omega
      · obtain rfl : k = l.length := by omega
        have R3 : Rs wr (.slice (some ⟨g, 0, none⟩) l.length cap) (moveL f l) := by
          have h1 := HFL.out
          rw [mix_all] at h1
          have := SlK.of_blk (l := moveL f l) hbk (by rw [hnl]; exact h1) rowC_len (by rw [hnl]; exact hcc) (by unfold maxLen; exact hm) (by omega)
          rwa [hnl] at this
        have hs3 := hx.size
        clear hcs hfill HCS HFL hbk
        go_wp2_with fail
        refine (batchOf_any _ (moveL f l) _ R3 (by omega) (by omega) hsp.out).mono ?_
        rintro e w3 ⟨o3, rfl, own3, hb4⟩
        have O3 : Hid (OwnR w3 wr.heap.size o3 (sumF (moveL f l))) := own3
        clear own3
        go_wp2_with fail
        go_ret
        refine ⟨_, rfl, ?_, bStep hx hb4⟩
        rw [HF.out]
        exact own_less O3.out hs3
end Go.Proofs.YtlddhfimiignaaaGreat

/-! BatchMove of the model: the contract. -/
namespace Go.Proofs.YtlddhfimiignaaaGreat
open Go.RowKit

theorem move_snoc {l : List Rw} {f : List (Int × Int)} {k : Nat} {r : Rw} (h : l[k]? = some r) : moveL f (l.take (k + 1)) = moveL f (l.take k) ++ [mvR f r] := by
  unfold moveL; rw [take_snoc h, List.map_append]; rfl
end Go.Proofs.YtlddhfimiignaaaGreat
