/- Clone of rows; rows written over one by one; BatchLess of the program and of its model: contracts. -/
import Derived.Test.YtlddhfimiignaaaGreatGs3
import Derived.Deep.Cut
/-! Clone of rows; rows written over one by one; BatchLess of the program and of its model: contracts. -/
namespace Go.Proofs.YtlddhfimiignaaaGreat
open Go.RowKit

theorem nil_eql (a : Option Addr) (n c : Nat) (w : World) : (binOp .eql 23 (.slice a n c) (.slice none 0 0)).run Tryz.prog w = .ok (.bool a.isNone) w := by
  simp [binOp, run_equal_slice_nil w 23 41 a n c Tryz.underlying23]
set_option maxRecDepth 100000 in
set_option maxHeartbeats 2000000 in
theorem clone_any (v : Value) (l : List Rw) (w : World) (h : Rs w v l) (hl : l.length ≤ 2000000) :
    Calls Tryz.prog 68 #[v] w fun e w' => ∃ o : Value, e = .returned o ∧ OwnR w' w.heap.size o l ∧ Below w.heap.size w w' := by
  have HH : Hid (Rs w v l) := h
  obtain ⟨a, cap, rfl, -, -, -, hcells⟩ := h
  cases a with
  | none =>
    have h0 : l = [] := by
      cases l with
      | nil => rfl
      | cons x l => obtain ⟨g, off, e, _⟩ := hcells 0 x rfl; cases e
    subst h0
    clear hcells
    have hq := nil_eql none 0 cap
    simp only [Option.isNone_none] at hq
    go_enter Tryz.func68, Tryz.ntmps68
    go_wp2_with fail
    go_ret
    exact ⟨_, rfl, ownK_nil _ _ _ _ _, Below.refl _ _⟩
  | some ad =>
    clear hcells
    have hq := nil_eql (some ad) l.length cap
    simp only [Option.isNone_some] at hq
    have O0 := ownR_empty w rfl
    have hb0 : Below w.heap.size w (w.alloc (.cells #[] 41)) := bAlloc (Below.refl _ _) _
    have R0 := HH.out.keep hb0
    go_enter Tryz.func68, Tryz.ntmps68
    go_wp2_with (at_builtin; refine appRs _ rfl _ _ rfl w.heap.size _ [] rfl O0 _ l rfl R0 (by simp; omega) (by simp) ?_; intro v4 w4 own4 hg4)
    have hb4 : Below w.heap.size w w4 := Below.grew hb0 hg4 (by simp) (ownK_base O0)
    have O4 : Hid (OwnR w4 w.heap.size v4 l) := by show OwnR _ _ _ _; simpa using own4
    clear own4
    go_ret
    exact ⟨_, rfl, O4.out, hb4⟩

/-- A list of which the first k are written over. -/
def mixL (f : Rw → Rw) (l : List Rw) (k : Nat) : List Rw := (l.take k).map f ++ l.drop k
theorem mix_len (f : Rw → Rw) (l : List Rw) (k : Nat) : (mixL f l k).length = l.length := by simp [mixL]; omega
theorem mix_zero (f : Rw → Rw) (l : List Rw) : mixL f l 0 = l := by simp [mixL]
theorem mix_all (f : Rw → Rw) (l : List Rw) : mixL f l l.length = l.map f := by simp [mixL]
theorem mix_at (f : Rw → Rw) {l : List Rw} {k : Nat} {x : Rw} (h : l[k]? = some x) : (mixL f l k)[k]? = some x := by
  have hk := (List.getElem?_eq_some_iff.1 h).1
  unfold mixL
  rw [List.getElem?_append_right (by simp; omega)]
  simp
  have : min k l.length = k := by omega
  rw [this]; simpa using h
theorem mix_set (f : Rw → Rw) {l : List Rw} {k : Nat} {x : Rw} (h : l[k]? = some x) : (mixL f l k).set k (f x) = mixL f l (k + 1) := by
  have hk := (List.getElem?_eq_some_iff.1 h).1
  unfold mixL
  rw [take_snoc h, drop_cons h, List.map_append, List.append_assoc]
  rw [List.set_append_right _ _ (by simp; omega)]
  have : k - ((l.take k).map f).length = 0 := by simp; omega
  rw [this]; simp
theorem FillK.diff {c : Array Value} {L : List Rw} {n i : Nat} {s : Sp} {d : Int} (h : FillK rowC 5 c L n) (hi : L[i]? = some (s, d)) (hin : i < n) (hs : i * 5 + 4 < c.size) (d' : Int) :
    FillK rowC 5 (c.setIfInBounds (i * 5 + 4) (.int .i64 d')) (L.set i (s, d')) n := by
  intro j x hj hx q hq
  have hil := (List.getElem?_eq_some_iff.1 hi).1
  rw [List.getElem?_set] at hx
  rw [Array.getElem?_setIfInBounds]
  by_cases e : i = j
  · subst e
    rw [if_pos rfl, if_pos hil] at hx
    cases hx
    obtain rfl | hq4 : q = 4 ∨ q < 4 := by omega
    · rw [if_pos rfl, if_pos hs]; rfl
    · rw [if_neg (by omega), h i _ hin hi q hq]
      obtain rfl | rfl | rfl | rfl : q = 0 ∨ q = 1 ∨ q = 2 ∨ q = 3 := by omega
      all_goals rfl
  · rw [if_neg e] at hx
    rw [if_neg (by omega)]
    exact h j x hj hx q hq
def negR (r : Rw) : Rw := (r.1, -r.2)
theorem negL_map (l : List Rw) : negL l = l.map negR := rfl
theorem less_no {l : List Rw} (h : rokB l = false) : lessL l = [] := by simp [lessL, h]
theorem less_yes {l : List Rw} (h : rokB l = true) : lessL l = sumF (negL l) := by simp [lessL, h]
theorem less_len (l : List Rw) : (lessL l).length ≤ 400 := by
  unfold lessL; split
  · exact sumF_len4 _
  · simp
theorem neg_abs (l : List Rw) : absum (negL l) = absum l := by
  unfold negL
  induction l with
  | nil => rfl
  | cons r l ih => simp only [List.map_cons, absum, ih]; omega
theorem neg_sp {l : List Rw} (h : rokB l = true) : ∀ r ∈ negL l, spOk r.1 := fun r hr => by
  obtain ⟨q, hq, rfl⟩ := List.mem_map.1 hr
  have : spOk q.1 := rw_sp (rok_at h hq)
  exact this
set_option maxHeartbeats 4000000 in
theorem implLess2_any (v : Value) (l : List Rw) (w : World) (h : Rs w v l) :
    Calls Tryz.prog 31 #[v] w fun e w' => ∃ o : Value, e = .returned o ∧ OwnR w' w.heap.size o (lessL l) ∧ Below w.heap.size w w' := by
  cases hk : rokB l
  · have HF : Hid (lessL l = []) := less_no hk
    go_enter Tryz.func31, Tryz.ntmps31
    go_wp2_with fail
    refine (implRowsOk_eq hk h).mono ?_
    rintro e w1 ⟨rfl, hb1⟩
    go_wp2_with fail
    go_ret
    refine ⟨_, rfl, ?_, hb1⟩
    rw [HF.out]
    exact ownK_nil _ _ _ _ _
  have HF : Hid (lessL l = sumF (negL l)) := less_yes hk
  have ha := rok_abs hk
  have hna := neg_abs l
  have hl := rok_len hk
  have hsp : Hid (∀ r ∈ negL l, spOk r.1) := neg_sp hk
  have HB : Hid (∀ i s d, l[i]? = some (s, d) → -99999 ≤ d ∧ d ≤ 99999) := fun i s d hi => rw_diff (rok_at hk (List.mem_of_getElem? hi))
  have hnl : (negL l).length = l.length := by simp [negL]
  go_enter Tryz.func31, Tryz.ntmps31
  go_wp2_with fail
  refine (implRowsOk_eq hk h).mono ?_
  rintro e w1 ⟨rfl, hb1⟩
  have h1 := h.keep hb1
  have hs1 := hb1.size
  clear h
  go_wp2_with fail
  refine (clone_any _ l _ h1 (by omega)).mono ?_
  rintro e w2 ⟨o2, rfl, own2, hb2⟩
  have hbw2 := bStep hb1 hb2
  have hs2 := hb2.size
  clear h1
  rcases ownK_open own2 rowC_len with ⟨rfl, rfl⟩ | ⟨g, cap, c, rfl, hg, hbk, hcs, hcc, hm, hfill⟩
  · have R2 : Rs w2 (.slice none 0 0) [] := OwnR.rs own2 (by simp)
    clear own2
    go_wp2_with fail
    refine wp_loop_rounds 1 ?_
    rw [rounds_succ]
    go_wp2_with fail
    refine (batchOf_any _ (negL []) _ R2 (by simp [negL]) (by simp [negL, absum]) hsp.out).mono ?_
    rintro e w3 ⟨o3, rfl, own3, hb3⟩
    have O3 : Hid (OwnR w3 w2.heap.size o3 (sumF (negL []))) := own3
    clear own3
    go_wp2_with fail
    go_ret
    refine ⟨_, rfl, ?_, bStep hbw2 hb3⟩
    rw [HF.out]
    exact own_less O3.out (by omega)
  · clear own2
    unfold maxLen at hm
    have HCS : Hid (c.size = cap * 5) := hcs
    have HFL : Hid (FillK rowC 5 c l l.length) := hfill
    clear hcs hfill
    go_wp2_with fail
    go_loopw [12] (fun i wr => ∃ (k : Nat) (c' : Array Value), k ≤ l.length ∧ i = .int .i64 k ∧ Bk wr g c' 41 ∧ c'.size = cap * 5 ∧ FillK rowC 5 c' (mixL negR l k) l.length ∧ Bx g w2 wr) (fun i _ => l.length - (intOf i).toNat)
    case atStart => exact ⟨0, c, by omega, rfl, hbk, HCS.out, by rw [mix_zero]; exact HFL.out, Bx.refl _ _⟩
    case round =>
      clear hbk HCS HFL
      obtain ⟨k, c', hkl, rfl, hbk, hcs, hfill, hx⟩ := hrel
      have HCS : Hid (c'.size = cap * 5) := hcs
      have HFL : Hid (FillK rowC 5 c' (mixL negR l k) l.length) := hfill
      by_cases hlt : k < l.length
      · obtain ⟨⟨s, d⟩, hr⟩ : ∃ r, l[k]? = some r := ⟨_, List.getElem?_eq_getElem hlt⟩
        obtain ⟨hd1, hd2⟩ := HB.out k s d hr
        have hat := mix_at negR hr
        have hcell : c'[k * 5 + 4]? = some (.int .i64 d) := hfill k (s, d) hlt hat 4 (by omega)
        have d4 := hbk.cell hcell
        have f4 := hbk.free (k * 5 + 4)
        have HN : Hid (FillK rowC 5 (c'.setIfInBounds (k * 5 + 4) (.int .i64 (-d))) (mixL negR l (k + 1)) l.length) := by
          have h1 := FillK.diff hfill hat hlt (by omega) (-d)
          rw [← mix_set negR hr]; exact h1
        have bk2 := hbk.set (k * 5 + 4) (.int .i64 (-d))
        have hx2 := hx.setG (p := ⟨g, k * 5 + 4, none⟩) rfl (.int .i64 (-d))
        clear hcs hfill hr hat hcell
        have ik : ((k : Int) < (l.length : Int)) := by omega
        go_wp2_with fail
        go_roundw
        case rel => exact ⟨k + 1, _, by omega, by go_num, bk2, by simpa using HCS.out, HN.out, hx2⟩
        case measure => simp [intOf]; omega
      · obtain rfl : k = l.length := by omega
        have R3 : Rs wr (.slice (some ⟨g, 0, none⟩) l.length cap) (negL l) := by
          have h1 := HFL.out
          rw [mix_all, ← negL_map] at h1
          have := SlK.of_blk (l := negL l) hbk (by rw [hnl]; exact h1) rowC_len (by rw [hnl]; exact hcc) (by unfold maxLen; exact hm) (by omega)
          rwa [hnl] at this
        have hb3 : Below w.heap.size w wr := hx.below hbw2 (by omega) (by omega)
        have hs3 := hb3.size
        clear hcs hfill HCS HFL hbk hx
        go_wp2_with fail
        refine (batchOf_any _ (negL l) _ R3 (by omega) (by omega) hsp.out).mono ?_
        rintro e w3 ⟨o3, rfl, own3, hb4⟩
        have O3 : Hid (OwnR w3 wr.heap.size o3 (sumF (negL l))) := own3
        clear own3
        go_wp2_with fail
        go_ret
        refine ⟨_, rfl, ?_, bStep hb3 hb4⟩
        rw [HF.out]
        exact own_less O3.out hs3
end Go.Proofs.YtlddhfimiignaaaGreat

/-! What BatchLess of the model answers: the contract. -/
namespace Go.Proofs.YtlddhfimiignaaaGreat
open Go.RowKit

theorem neg_snoc {l : List Rw} {k : Nat} {s : Sp} {d : Int} (h : l[k]? = some (s, d)) : negL (l.take (k + 1)) = negL (l.take k) ++ [(s, -d)] := by
  unfold negL; rw [take_snoc h, List.map_append]; rfl
theorem sumF_nil : sumF [] = [] := by unfold sumF sumL sumA; exact fit_eq bok_nil
end Go.Proofs.YtlddhfimiignaaaGreat
