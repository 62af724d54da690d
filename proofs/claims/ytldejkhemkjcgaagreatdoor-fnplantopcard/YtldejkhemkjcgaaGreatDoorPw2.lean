import Derived.Test.YtldejkhemkjcgaaGreatDoorGlk
import Derived.Test.YtldejkhemkjcgaaGreatDoorGs7
import Derived.Deep.RegionHeld3
namespace Go.Proofs.YtldejkhemkjcgaaGreatDoor
open Go.RowKit Go.Shelf
set_option maxRecDepth 100000 in
set_option maxHeartbeats 16000000 in
theorem lwAt_any (v : Value) (K : List (List Rw)) (X Y : Int) (w : World) (h : LyR w v K) (hl : K.length ≤ 2) :
    Calls Tryz.prog 19 #[v, tv X Y] w fun e w' => ∃ o : Value, e = .returned o ∧ LyI w' o (K.map fun l => itemsL l X Y) ∧ Below w.heap.size w w' := by
  have HH := (show Hid (LyR w v K) from h)
  obtain ⟨a, cap, rfl, hc, hm, hn, -⟩ := h.open
  unfold maxLen at hm
  have bT : Bk ((w.alloc (.cells #[.int .i64 X, .int .i64 Y] 41)).alloc (.cells #[] 35)) w.heap.size #[.int .i64 X, .int .i64 Y] 41 := (Bk.new _ _ rfl).alloc _
  have oV : OwnVI ((w.alloc (.cells #[.int .i64 X, .int .i64 Y] 41)).alloc (.cells #[] 35)) (w.heap.size + 1) (.slice (some ⟨w.heap.size + 1, 0, none⟩) 0 0) [] := ownVI_empty _ (by simp)
  have hb0 : Below w.heap.size w ((w.alloc (.cells #[.int .i64 X, .int .i64 Y] 41)).alloc (.cells #[] 35)) := bAlloc (bAlloc (Below.refl _ _) _) _
  clear h
  go_enter Tryz.func19, Tryz.ntmps19
  go_wp2_with fail
  go_loopw [5, 6] (fun o i wr => ∃ (k : Nat) (vs : List Value), k ≤ K.length ∧ i = .int .i64 k ∧ OwnVI wr (w.heap.size + 1) o vs ∧ EoI wr (w.heap.size + 1) vs ((K.take k).map fun l => itemsL l X Y) ∧ Bk wr w.heap.size #[.int .i64 X, .int .i64 Y] 41 ∧ Below w.heap.size w wr) (fun _ i _ => K.length - (intOf i).toNat)
  case atStart => exact ⟨0, [], by omega, rfl, oV, EoI.nil _ _, bT, hb0⟩
  case round =>
    clear hb0 oV bT
    obtain ⟨k, vs, hkl, rfl, hown, heo, bT, hb⟩ := hrel
    have HO := (show Hid (OwnVI wr (w.heap.size + 1) u5 vs) from hown)
    have HE := (show Hid (EoI wr (w.heap.size + 1) vs ((K.take k).map fun l => itemsL l X Y)) from heo)
    have HV : Hid (vs.length = k) := by show _ = _; rw [heo.1, List.length_map, List.length_take]; omega
    have hsz := hb.size
    have hbt := bT.lt
    clear hown heo
    by_cases hlt : k < K.length
    · obtain ⟨l, hl'⟩ : ∃ l, K[k]? = some l := ⟨_, List.getElem?_eq_getElem hlt⟩
      obtain ⟨a', cap', e', -, -, -, hcell⟩ := HH.out.open
      cases e'
      obtain ⟨g, off, ad, cp, rfl, hg, c00, hR0⟩ := hcell k l hl'
      have c0 := cell_below hb c00
      have hR := hR0.keep hb
      have HC0 := (show Hid (w.cell? ⟨g, off + k, none⟩ = some (.slice ad l.length cp)) from c00)
      have ik : ((k : Int) < (K.length : Int)) := by omega
      have HL := (show Hid (K[k]? = some l) from hl')
      obtain ⟨t0, t1, _, _⟩ := bT.two
      have hcur : Below wr.heap.size wr wr.drew := (Below.refl _ _).drew
      have HX : Hid (∀ W, Below wr.heap.size wr W → W.cell? ⟨g, off + k, none⟩ = some (.slice ad l.length cp) ∧ W.cell? ⟨w.heap.size, 0, none⟩ = some (.int .i64 X) ∧ W.cell? ⟨w.heap.size, 1, none⟩ = some (.int .i64 Y)) := fun W hW => ⟨cell_below hW c0, cell_below hW t0, cell_below hW t1⟩
      have rD := hR.keep hcur
      have hrl := items_len l X Y
      have HC : Hid (∀ (o7 : Value) (w7 : World), OwnI w7 wr.drew.heap.size o7 (itemsL l X Y) → Below wr.drew.heap.size wr.drew w7 → ∃ (a7 : Option Addr) (c7 : Nat), o7 = .slice a7 (itemsL l X Y).length c7 ∧ Below wr.heap.size wr w7 ∧
          Below wr.heap.size wr (w7.alloc (.cells #[.slice a7 (itemsL l X Y).length c7] 35)) ∧ Bk (w7.alloc (.cells #[.slice a7 (itemsL l X Y).length c7] 35)) w7.heap.size #[.slice a7 (itemsL l X Y).length c7] 35 ∧ OwnVI (w7.alloc (.cells #[.slice a7 (itemsL l X Y).length c7] 35)) (w.heap.size + 1) u5 vs ∧ EoI (w7.alloc (.cells #[.slice a7 (itemsL l X Y).length c7] 35)) (w.heap.size + 1) (vs ++ [.slice a7 (itemsL l X Y).length c7]) ((K.take (k + 1)).map fun l => itemsL l X Y) ∧ w.heap.size + 1 ≤ (w7.alloc (.cells #[.slice a7 (itemsL l X Y).length c7] 35)).heap.size) := fun o7 w7 own7 hb7 => by
        have hb7' : Below wr.heap.size wr w7 := bStep hcur hb7
        obtain ⟨a7, c7, e7, -⟩ := Is.open (OwnI.is own7 (by omega))
        subst e7
        have hbn : Below w7.heap.size w7 (w7.alloc (.cells #[.slice a7 (itemsL l X Y).length c7] 35)) := bAlloc (Below.refl _ _) _
        have hbn2 := bStep hb7' hbn
        refine ⟨a7, c7, rfl, hb7', hbn2, Bk.new _ _ rfl, own_keep HO.out hbn2, ?_, by have := hbn2.size; omega⟩
        rw [take_snoc HL.out, List.map_append]
        exact (HE.out.keep hbn2).snoc (own_keep (own_less own7 (by show _ ≤ wr.heap.size; omega)) hbn) (Nat.le_trans hrl (by decide))
      have HD : Hid (∀ (w8 w9 : World), Below wr.heap.size wr w8 → OwnVI w8 (w.heap.size + 1) u5 vs → w.heap.size + 1 ≤ w8.heap.size → w8.grownBy w9 u5.ownBlock → Below w.heap.size w w9 ∧ Bk w9 w.heap.size #[.int .i64 X, .int .i64 Y] 41 ∧ (w9.cell? ⟨g, off + k, none⟩ = some (.slice ad l.length cp) ∧ w9.cell? ⟨w.heap.size, 0, none⟩ = some (.int .i64 X) ∧ w9.cell? ⟨w.heap.size, 1, none⟩ = some (.int .i64 Y))) := fun w8 w9 hc8 ov8 hz8 hg9 => by
        have hb9 : Below w.heap.size w w9 := Below.grew (bStep hb hc8) hg9 (by omega) (fun q e => by have := ownK_base ov8 q e; omega)
        have bT9 : Bk w9 w.heap.size #[.int .i64 X, .int .i64 Y] 41 := Bk.grew (bT.keep hc8) hg9 (fun q e => by have := ownK_base ov8 q e; omega)
        exact ⟨hb9, bT9, cell_below hb9 HC0.out, bT9.two.1, bT9.two.2.1⟩
      have hvl2 : vs.length ≤ 2000000 := by have := HV.out; omega
      clear hcell hl' c0 t0 t1 c00 hR0 hR
      go_wp2_with fail
      go_region_held3 (fun W => W.cell? ⟨g, off + k, none⟩ = some (.slice ad l.length cp) ∧ W.cell? ⟨w.heap.size, 0, none⟩ = some (.int .i64 X) ∧ W.cell? ⟨w.heap.size, 1, none⟩ = some (.int .i64 Y))
        (first | exact HX.out _ hcur | exact HX.out _ hc7 | exact HX.out _ hc8 | exact HX9)
        (first
          | (go_at_call 21; with_reducible refine (implAt_any _ l X Y _ rD).mono ?_; rintro e w7 ⟨o7, rfl, own7, hb7⟩; obtain ⟨a7, c7, e7, hc7, hc8, bn8, ov8, eo8, hz8⟩ := HC.out o7 w7 own7 hb7; subst e7)
          | (refine stepVI _ (by rfl) _ _ (by rfl) (w.heap.size + 1) _ vs (by rfl) ov8 _ _ _ _ (by rfl) bn8 hvl2 hz8 ?_; intro g9 cap9 w9 own9 hg9 hlg; obtain ⟨hb9, bT9, HX9⟩ := HD.out _ w9 hc8 ov8 hz8 hg9; have eo9 := eo8.grew ov8 hg9))
      all_goals
        go_wp2_with fail
        go_roundw
        case rel => exact ⟨k + 1, _, by omega, by go_num, own9, eo9, bT9, hb9⟩
        case measure => simp [intOf]; omega
    · obtain rfl : k = K.length := by omega
      rw [List.take_length] at HE
      have ik : ¬ ((K.length : Int) < (K.length : Int)) := by omega
      have LK := (show Hid _ from HE.out.ly HO.out (by have := HV.out; omega))
      go_wp2_with fail
      go_ret
      exact ⟨_, rfl, LK.out, hb⟩
end Go.Proofs.YtldejkhemkjcgaaGreatDoor
