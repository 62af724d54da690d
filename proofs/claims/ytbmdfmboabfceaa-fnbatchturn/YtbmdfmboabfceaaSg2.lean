/- BatchAt of the model: the contract. -/
import Derived.Test.YtbmdfmboabfceaaSg
namespace Go.Proofs.Ytbmdfmboabfceaa
open Go.RowKit

theorem items_no1 {l : List Rw} {x y : Int} (h : rokB l = false) : itemsL l x y = [] := by simp [itemsL, h]
theorem items_no2 {l : List Rw} {x y : Int} (h : okB x y = false) : itemsL l x y = [] := by simp [itemsL, h]
theorem items_yes {l : List Rw} {x y : Int} (h : rokB l = true) (h' : okB x y = true) : itemsL l x y = sumL ltT (atL l x y) := by simp [itemsL, h, h']
theorem atL_len (l : List Rw) (x y : Int) : (atL l x y).length ≤ l.length := by
  unfold atL; rw [List.length_map]; exact List.length_filter_le _ _
theorem items_len (l : List Rw) (x y : Int) : (itemsL l x y).length ≤ 400 := by
  unfold itemsL
  split
  · rename_i h
    simp at h
    have h1 := rok_len h.1
    have h2 := atL_len l x y
    have h3 := sumL_len ltT (atL l x y)
    omega
  · simp
theorem atL_yes {l : List Rw} {x y : Int} {k : Nat} {K V A B D : Int} (h : l[k]? = some (((K, V), (A, B)), D)) (hl : leB A B x y = true) : atL (l.take (k + 1)) x y = atL (l.take k) x y ++ [((K, V), D)] := by
  unfold atL; rw [take_snoc h, List.filter_append, List.map_append]; simp [hl]
theorem atL_no {l : List Rw} {x y : Int} {k : Nat} {K V A B D : Int} (h : l[k]? = some (((K, V), (A, B)), D)) (hl : leB A B x y = false) : atL (l.take (k + 1)) x y = atL (l.take k) x y := by
  unfold atL; rw [take_snoc h, List.filter_append, List.map_append]; simp [hl]
theorem atL_abs {l : List Rw} {x y : Int} : absum (atL l x y) ≤ absum l := by
  unfold atL
  induction l with
  | nil => simp [absum]
  | cons r l ih =>
    rw [List.filter_cons]
    split
    · simp only [List.map_cons, absum]; omega
    · simp only [absum]; omega
theorem specTimeOk_eq {a b : Int} {r : Bool} (h : okB a b = r) (w : World) : Calls Try.prog 67 #[tv a b] w fun e w' => e = .returned (.bool r) ∧ Below w.heap.size w w' := by
  rw [← h]; exact specOk_any a b w
theorem bAllocT {B : Nat} {a w : World} (h : Below B a w) (hB : B ≤ w.heap.size) (o : Obj) : Below B a (w.alloc o) :=
  h.trans ⟨rfl, rfl, rfl, by simp, fun k hk => Below.heap_alloc _ _ _ (by omega)⟩
set_option maxRecDepth 100000 in
set_option maxHeartbeats 4000000 in
theorem specAt_any (v : Value) (l : List Rw) (x y : Int) (w : World) (h : Rs w v l) :
    Calls Try.prog 66 #[v, tv x y] w fun e w' => ∃ o : Value, e = .returned o ∧ OwnI w' w.heap.size o (itemsL l x y) ∧ Below w.heap.size w w' := by
  have bt0 : Bk ((w.alloc (.cells #[.int .i64 x, .int .i64 y] 31)).alloc (.cells #[] 64)) w.heap.size #[.int .i64 x, .int .i64 y] 31 := (Bk.new _ _ rfl).alloc _
  have hb0 := bAlloc (bAlloc (Below.refl w.heap.size w) (.cells #[.int .i64 x, .int .i64 y] 31)) (.cells #[] 64)
  have o0 : OwnI ((w.alloc (.cells #[.int .i64 x, .int .i64 y] 31)).alloc (.cells #[] 64)) w.heap.size (.slice (some ⟨w.heap.size + 1, 0, none⟩) 0 0) [] := own_less (ownI_empty (w.alloc (.cells #[.int .i64 x, .int .i64 y] 31)) (B := w.heap.size + 1) (by simp)) (by omega)
  have h0 := h.keep hb0
  cases hk : rokB l
  · have HF : Hid (itemsL l x y = []) := items_no1 hk
    go_enter Try.func66, Try.ntmps66
    go_wp2_with fail
    refine (specRowsOk_eq hk h0).mono ?_
    rintro e w1 ⟨rfl, hb1⟩
    have O1 : Hid (OwnI w1 w.heap.size (.slice (some ⟨w.heap.size + 1, 0, none⟩) 0 0) []) := own_keep o0 hb1
    clear o0 bt0
    go_wp2_with fail
    go_ret
    refine ⟨_, rfl, ?_, bStep hb0 hb1⟩
    rw [HF.out]
    exact O1.out
  cases hk' : okB x y
  · have HF : Hid (itemsL l x y = []) := items_no2 hk'
    go_enter Try.func66, Try.ntmps66
    go_wp2_with fail
    refine (specRowsOk_eq hk h0).mono ?_
    rintro e w1 ⟨rfl, hb1⟩
    have hbw1 := bStep hb0 hb1
    have O1 : Hid (OwnI w1 w.heap.size (.slice (some ⟨w.heap.size + 1, 0, none⟩) 0 0) []) := own_keep o0 hb1
    obtain ⟨t0, t1, _, _⟩ := (bt0.keep hb1).two
    clear o0 bt0
    go_wp2_with fail
    refine (specTimeOk_eq hk' _).mono ?_
    rintro e w2 ⟨rfl, hb2⟩
    have O2 : Hid (OwnI w2 w.heap.size (.slice (some ⟨w.heap.size + 1, 0, none⟩) 0 0) []) := own_keep O1.out hb2
    go_wp2_with fail
    go_ret
    refine ⟨_, rfl, ?_, bStep hbw1 hb2⟩
    rw [HF.out]
    exact O2.out
  have HF : Hid (itemsL l x y = sumL ltT (atL l x y)) := items_yes hk hk'
  have ha := rok_abs hk
  have hna := atL_abs (l := l) (x := x) (y := y)
  have hl := rok_len hk
  have hal := atL_len l x y
  have o0 := ownI_empty (w.alloc (.cells #[.int .i64 x, .int .i64 y] 31)) (B := w.heap.size + 1) (by simp)
  have hsz0 : ((w.alloc (.cells #[.int .i64 x, .int .i64 y] 31)).alloc (.cells #[] 64)).heap.size = w.heap.size + 1 + 1 := by simp
  obtain ⟨a, cap, rfl, hc, hm, hn, hcells⟩ := Rs.open h
  unfold maxLen at hm
  have HC := (show Hid _ from hcells)
  clear h hcells
  go_enter Try.func66, Try.ntmps66
  go_wp2_with fail
  generalize ((w.alloc (.cells #[.int .i64 x, .int .i64 y] 31)).alloc (.cells #[] 64)) = w0 at *
  refine (specRowsOk_eq hk h0).mono ?_
  rintro e w1 ⟨rfl, hb1⟩
  have hbw1 := bStep hb0 hb1
  have o1 := own_keep o0 hb1
  have bt1 := bt0.keep hb1
  have hs1 := hb1.size
  obtain ⟨t0, t1, _, _⟩ := bt1.two
  clear o0 bt0 hb0 hb1 h0
  go_wp2_with fail
  refine (specTimeOk_eq hk' _).mono ?_
  rintro e w2 ⟨rfl, hb2⟩
  have hbw2 := bStep hbw1 hb2
  have o2 := own_keep o1 hb2
  have bt2 := bt1.keep hb2
  have hs2 := hb2.size
  clear o1 bt1 hbw1 hb2 t0 t1
  generalize htb : w.heap.size = tb at *
  go_wp2_with fail
  go_loopw [5, 6] (fun o i wr => ∃ k : Nat, k ≤ l.length ∧ i = .int .i64 k ∧ OwnI wr (tb + 1) o (atL (l.take k) x y) ∧ Bk wr tb #[.int .i64 x, .int .i64 y] 31 ∧ tb + 1 ≤ wr.heap.size ∧ Below tb w wr) (fun _ i _ => l.length - (intOf i).toNat)
  case atStart => exact ⟨0, by omega, rfl, o2, bt2, by omega, hbw2⟩
  case round =>
    clear o2 bt2 hbw2
    obtain ⟨k, hkl, rfl, hown, bt, hsz, hb⟩ := hrel
    have HO : Hid (OwnI wr (tb + 1) u5 (atL (l.take k) x y)) := hown
    clear hown
    by_cases hlt : k < l.length
    · obtain ⟨g, off, K, V, A, B, D, rfl, hg, hr, c0, c1, c2, c3, c4⟩ := HC.out k hlt
      have HR := (show Hid _ from hr)
      have hb' : Below w.heap.size w wr := by rw [htb]; exact hb
      have d2 : ∀ p : Bel wr, p.ww.cell? ⟨g, off + k * 5 + 2, none⟩ = some (.int .i64 A) := fun p => cell_below p.below (cell_below hb' c2)
      have d3 : ∀ p : Bel wr, p.ww.cell? ⟨g, off + k * 5 + 3, none⟩ = some (.int .i64 B) := fun p => cell_below p.below (cell_below hb' c3)
      have t0 := bt.bel0
      have t1 := bt.bel1
      have hne := bel_some wr
      have HX : Hid (∀ W, Below tb w W → W.cell? ⟨g, off + k * 5, none⟩ = some (.int .i64 K) ∧ W.cell? ⟨g, off + k * 5 + 1, none⟩ = some (.int .i64 V) ∧ W.cell? ⟨g, off + k * 5 + 4, none⟩ = some (.int .i64 D)) :=
        fun W hW => by rw [← htb] at hW; exact ⟨cell_below hW c0, cell_below hW c1, cell_below hW c4⟩
      have hL : (atL (l.take k) x y).length ≤ 400 := by have := atL_len (l.take k) x y; simp at this; omega
      have ik : ((k : Int) < (l.length : Int)) := by omega
      clear c0 c1 c2 c3 c4 hr hb'
      cases hp : leB A B x y
      · have HZ : Hid (atL (l.take (k + 1)) x y = atL (l.take k) x y) := atL_no HR.out hp
        go_wp2_with fail
        (refine wp_region_bel (by kernel_rfl) (by kernel_rfl) ?_; (repeat (go_big_quiet_step ((first | (go_at_call 129; exact calls_bel (specLess_eq (by with_reducible assumption) _)))))); refine wpQuiet_nil ?_)
        intro w3 hw3
        replace hw3 := bel_out hw3
        have hb3 := hb.trans (hw3.mono (by omega))
        have hs3 := hw3.size
        have bt3 := bt.keep hw3
        have O3 : Hid (OwnI w3 (tb + 1) u5 (atL (l.take k) x y)) := own_keep HO.out hw3
        clear HO bt d2 d3 t0 t1 hne
        go_wp2_with fail
        go_roundw
        case rel => exact ⟨k + 1, by omega, by go_num, by rw [HZ.out]; exact O3.out, bt3, by omega, hb3⟩
        case measure => simp [intOf]; omega
      · have HZ : Hid (atL (l.take (k + 1)) x y = atL (l.take k) x y ++ [((K, V), D)]) := atL_yes HR.out hp
        go_wp2_with fail
        (refine wp_region_bel (by kernel_rfl) (by kernel_rfl) ?_; (repeat (go_big_quiet_step ((first | (go_at_call 129; exact calls_bel (specLess_eq (by with_reducible assumption) _)))))); refine wpQuiet_nil ?_)
        intro w3 hw3
        replace hw3 := bel_out hw3
        have hb3 := hb.trans (hw3.mono (by omega))
        have hs3 := hw3.size
        have bt3 := bt.keep hw3
        have O3 : OwnI w3 (tb + 1) u5 (atL (l.take k) x y) := own_keep HO.out hw3
        obtain ⟨x0, x1, x4⟩ := HX.out w3 hb3
        have hB3 : tb ≤ w3.heap.size := by omega
        clear HO bt d2 d3 t0 t1 hne hb hw3
        generalize atL (l.take k) x y = L at *
        go_wp2_with fail
        go_region_held3 (fun w' => w'.cell? ⟨g, off + k * 5, none⟩ = some (.int .i64 K) ∧ w'.cell? ⟨g, off + k * 5 + 1, none⟩ = some (.int .i64 V) ∧ w'.cell? ⟨g, off + k * 5 + 4, none⟩ = some (.int .i64 D))
          (first | exact HX.out _ hb3.drew | exact HX.out _ (bAllocT hb3 hB3 _).drew | exact HX.out _ hb7)
          (first
            | (refine stepI _ (by rfl) _ _ (by rfl) (tb + 1) _ L (by rfl) ((O3.alloc _).drew) _ K V D (by rfl) ((Bk.new _ _ rfl).drew) (by omega) (by simp; omega) ?_; intro g7 cap7 w7 own7 hgrow hlg; have hb7 : Below tb w w7 := Below.grew (bAllocT hb3 hB3 _).drew hgrow (by simp; omega) (fun q e => Nat.le_of_succ_le (ownK_base O3 q e))))
        have bt7 := Bk.grew ((bt3.alloc _).drew) hgrow (fun q e => by have := ownK_base O3 q e; omega)
        have hs7 : tb + 1 ≤ w7.heap.size := by have := hgrow.size; simp at this; omega
        go_wp2_with fail
        go_roundw
        case rel =>
          refine ⟨k + 1, by omega, by go_num, ?_, bt7, hs7, hb7⟩
          rw [HZ.out]; exact own7
        case measure => simp [intOf]; omega
    · obtain rfl : k = l.length := by omega
      have O1 : Hid (OwnI wr (tb + 1) u5 (atL l x y)) := by have := HO.out; rw [List.take_length] at this; exact this
      have R1 : Is wr u5 (atL l x y) := OwnI.is O1.out (by omega)
      clear HO
      go_wp2_with fail
      refine (l2Items_any _ (atL l x y) _ R1 (by omega) (by omega)).mono ?_
      rintro e w3 ⟨o3, rfl, own3, hb3⟩
      have O3 : Hid (OwnI w3 wr.heap.size o3 (sumL ltT (atL l x y))) := own3
      clear own3
      go_wp2_with fail
      go_ret
      refine ⟨_, rfl, ?_, by rw [htb]; exact hb.trans (hb3.mono (by omega))⟩
      rw [HF.out]
      exact own_less O3.out (by omega)
end Go.Proofs.Ytbmdfmboabfceaa
