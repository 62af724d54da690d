/- SpineIn of the model: the contract. -/
import Derived.Test.YtjkojbafifbdgaaGreatZc2
import Derived.Test.YtjkojbafifbdgaaGreatZc3
import Derived.Test.YtjkojbafifbdgaaGreatZc4
import Derived.Deep.RegionHeld3
import Derived.Deep.RegionLaw
import Derived.Deep.DrawnRows
import Derived.Deep.DeepCutAuto
namespace Go.Proofs.YtjkojbafifbdgaaGreat
open Go.RowKit Go.Shelf

attribute [local go_sem ↓] Go.wp_at_zero Go.wp_at_succ
theorem time_not_spine {w : World} {B o q : Nat} {v : Value} {l : List (Int × Int)} {d : Array Value} (h : Own w B v l) (k : Bk w o d 26) (e : v.ownBlock = some q) : o ≠ q := fun e2 => by
  subst e2
  rcases own_open h with ⟨rfl, _⟩ | ⟨g, cap, c, rfl, _, hb, _⟩
  · simp [Value.ownBlock] at e
  · simp [Value.ownBlock] at e; subst e
    unfold Bk at hb k
    rw [hb] at k
    cases k
theorem time_not_rows {w : World} {B B' q : Nat} {v u : Value} {l : List (Int × Int)} {m : List Value} (h : Own w B v l) (k : OwnV w B' u m) (e : v.ownBlock = some q) (e' : u.ownBlock = some q) : False := by
  obtain ⟨c, hc⟩ := rows_block k e'
  rcases own_open h with ⟨rfl, _⟩ | ⟨g, cap, c', rfl, _, hb, _⟩
  · simp [Value.ownBlock] at e
  · simp [Value.ownBlock] at e; subst e
    unfold Bk at hb hc
    rw [hb] at hc
    cases hc
theorem SpO.setBox {w : World} {B o i : Nat} {lv fv u : Value} {L : List (List Rw)} {F : List (Int × Int)} {d : Array Value} (h : SpO w B lv fv L F) (k : Bk w o d 26) : SpO (w.setCell ⟨o, i, none⟩ u) B lv fv L F := by
  obtain ⟨vs, h1, h2, h3⟩ := h
  refine ⟨vs, ownK_at h1 fun q e => Below.heap_setCell _ _ _ _ (show q ≠ o from fun e2 => rows_not_spine h1 k e e2.symm), h2.mono fun q c hq => Below.heap_setCell _ _ _ _ (show q ≠ o from fun e2 => by subst e2; exact row_not_spine hq k), ownK_at h3 fun q e => Below.heap_setCell _ _ _ _ (show q ≠ o from fun e2 => time_not_spine h3 k e e2.symm)⟩
theorem spok_init {X : List (List Rw)} {F : List (Int × Int)} {b : List Rw} (h : spokB X F = false) : spokB (X ++ [b]) F = false := by
  rw [Bool.eq_false_iff]; intro e
  obtain ⟨h1, h2, h3, h4⟩ := spok_iff.1 e
  have : spokB X F = true := spok_iff.2 ⟨by rw [List.length_append] at h1; omega, h2, fun l hl => h3 l (by simp [hl]), by rw [List.flatten_append, List.length_append] at h4; omega⟩
  rw [this] at h; cases h
theorem asked_all {F : List (Int × Int)} {b : List Rw} (h : ∀ r ∈ b, askedB F r.1.2.1 r.1.2.2 = true) : asked F b = true := by
  unfold asked; rw [List.all_eq_true]; exact h
theorem asked_not {F : List (Int × Int)} {b : List Rw} {K V A B D : Int} (hm : (((K, V), (A, B)), D) ∈ b) (h : askedB F A B = false) : asked F b = false := by
  rw [Bool.eq_false_iff]; intro e
  unfold asked at e
  rw [List.all_eq_true] at e
  have := e _ hm
  rw [h] at this; cases this
set_option maxRecDepth 100000 in
set_option maxHeartbeats 16000000 in
theorem specSpineIn_any (lv fv bv : Value) (L : List (List Rw)) (F : List (Int × Int)) (b : List Rw) (w : World) (h : Spn w lv fv L F) (hv : Rs w bv b) :
    Calls Tryz.prog 19 #[spv lv fv, bv] w fun e w' => ∃ lv' fv' : Value, e = .returned (.tuple #[spv lv' fv', .bool (inB1 L F b)]) ∧ SpO w' w.heap.size lv' fv' (inLL L F b) (inF L F b) ∧ Below w.heap.size w w' := by
  have HB := (show Hid (Rs w bv b) from hv)
  obtain ⟨aB, cB, rfl, hvc, hvm, hvn, hcells⟩ := Rs.open hv
  unfold maxLen at hvm
  have HC := (show Hid _ from hcells)
  have HS := (show Hid (Spn w lv fv L F) from h)
  obtain ⟨aL, cL, aF, cF, rfl, rfl⟩ := Spn.open h
  have bs0 : Bk ((w.alloc (.cells #[.slice aL L.length cL, .slice aF F.length cF] 26)).alloc (.cells #[.slice none 0 0, .slice none 0 0] 26)) w.heap.size #[.slice aL L.length cL, .slice aF F.length cF] 26 := (Bk.new _ _ rfl).alloc _
  have br0 : Bk ((w.alloc (.cells #[.slice aL L.length cL, .slice aF F.length cF] 26)).alloc (.cells #[.slice none 0 0, .slice none 0 0] 26)) (w.heap.size + 1) #[.slice none 0 0, .slice none 0 0] 26 := Bk.new (w := w.alloc _) _ _ (by simp)
  have hb0 : Below w.heap.size w ((w.alloc (.cells #[.slice aL L.length cL, .slice aF F.length cF] 26)).alloc (.cells #[.slice none 0 0, .slice none 0 0] 26)) := bAlloc (bAlloc (Below.refl _ _) _) _
  have hs0 : w.heap.size + 2 ≤ ((w.alloc (.cells #[.slice aL L.length cL, .slice aF F.length cF] 26)).alloc (.cells #[.slice none 0 0, .slice none 0 0] 26)).heap.size := by simp
  obtain ⟨s0, s1, _, _⟩ := bs0.two
  clear h hv hcells
  cases hk : spokB L F
  · have HN := (show Hid _ from in_no (b := b) (in_no1 hk))
    go_enter Tryz.func19, Tryz.ntmps19
    go_wp2_with fail
    generalize ((w.alloc (.cells #[.slice aL L.length cL, .slice aF F.length cF] 26)).alloc (.cells #[.slice none 0 0, .slice none 0 0] 26)) = w0 at *
    refine (specSpineOk_eq hk (HS.out.keep hb0)).mono ?_
    rintro e w1 ⟨rfl, hb1⟩
    have hbw1 := bStep hb0 hb1
    have bs1 := bs0.keep hb1
    have br1 := br0.keep hb1
    have hs1 := Nat.le_trans hs0 hb1.size
    obtain ⟨p0, p1, _, _⟩ := bs1.two
    clear s0 s1 hb0 hb1 bs0 br0 hs0
    have q8 := (br1.set 0 (.slice none 0 0)).set 1 (.slice none 0 0)
    have q9 := br1.set 0 (.slice none 0 0)
    obtain ⟨x0, x1, g0, g1⟩ := br1.two
    obtain ⟨y0, y1, h0, h1⟩ := q9.two
    obtain ⟨t0, t1, _, _⟩ := q8.two
    have HB8 : Hid (Below w.heap.size w ((w1.setCell ⟨w.heap.size + 1, 0, none⟩ (.slice none 0 0)).setCell ⟨w.heap.size + 1, 1, none⟩ (.slice none 0 0))) := (hbw1.setCell (show w.heap.size ≤ w.heap.size + 1 by omega) _).setCell (show w.heap.size ≤ w.heap.size + 1 by omega) _
    clear q8 q9 br1 hbw1
    go_wp2_with fail
    refine bodyPost_ret (v := .tuple #[spv (.slice none 0 0) (.slice none 0 0), .bool false]) (by simp [results, Tryz.results19, go_sem, t0, t1]) rfl ?_
    exact ⟨_, _, by rw [HN.out.1], by rw [HN.out.2.1, HN.out.2.2]; exact SpO.nil _ _, HB8.out⟩
  cases hbk : bokB b
  · have HN := (show Hid _ from in_no (L := L) (F := F) (in_no2 hbk))
    go_enter Tryz.func19, Tryz.ntmps19
    go_wp2_with fail
    generalize ((w.alloc (.cells #[.slice aL L.length cL, .slice aF F.length cF] 26)).alloc (.cells #[.slice none 0 0, .slice none 0 0] 26)) = w0 at *
    refine (specSpineOk_eq hk (HS.out.keep hb0)).mono ?_
    rintro e w1 ⟨rfl, hb1⟩
    have hbw1 := bStep hb0 hb1
    have bs1 := bs0.keep hb1
    have br1 := br0.keep hb1
    have hs1 := Nat.le_trans hs0 hb1.size
    obtain ⟨p0, p1, _, _⟩ := bs1.two
    clear s0 s1 hb0 hb1 bs0 br0 hs0
    go_wp2_with fail
    refine (specBatchOk_eq hbk (HB.out.keep hbw1)).mono ?_
    rintro e w2 ⟨rfl, hb2⟩
    have hbw2 := bStep hbw1 hb2
    have bs2 := bs1.keep hb2
    have br2 := br1.keep hb2
    obtain ⟨q0, q1, _, _⟩ := bs2.two
    have hs2 := Nat.le_trans hs1 hb2.size
    clear p0 p1 hbw1 hb2 bs1 br1 hs1
    have q8 := (br2.set 0 (.slice none 0 0)).set 1 (.slice none 0 0)
    have q9 := br2.set 0 (.slice none 0 0)
    obtain ⟨x0, x1, g0, g1⟩ := br2.two
    obtain ⟨y0, y1, h0, h1⟩ := q9.two
    obtain ⟨t0, t1, _, _⟩ := q8.two
    have HB8 : Hid (Below w.heap.size w ((w2.setCell ⟨w.heap.size + 1, 0, none⟩ (.slice none 0 0)).setCell ⟨w.heap.size + 1, 1, none⟩ (.slice none 0 0))) := (hbw2.setCell (show w.heap.size ≤ w.heap.size + 1 by omega) _).setCell (show w.heap.size ≤ w.heap.size + 1 by omega) _
    clear q8 q9 br2 hbw2
    go_wp2_with fail
    refine bodyPost_ret (v := .tuple #[spv (.slice none 0 0) (.slice none 0 0), .bool false]) (by simp [results, Tryz.results19, go_sem, t0, t1]) rfl ?_
    exact ⟨_, _, by rw [HN.out.1], by rw [HN.out.2.1, HN.out.2.2]; exact SpO.nil _ _, HB8.out⟩
  have h6 := (spok_iff.1 hk).1
  have hfl := fok_len (spok_iff.1 hk).2.1
  have hrk := bok_rok hbk
  have hbl := rok_len hrk
  go_enter Tryz.func19, Tryz.ntmps19
  go_wp2_with fail
  generalize ((w.alloc (.cells #[.slice aL L.length cL, .slice aF F.length cF] 26)).alloc (.cells #[.slice none 0 0, .slice none 0 0] 26)) = w0 at *
  refine (specSpineOk_eq hk (HS.out.keep hb0)).mono ?_
  rintro e w1 ⟨rfl, hb1⟩
  have hbw1 := bStep hb0 hb1
  have bs1 := bs0.keep hb1
  have br1 := br0.keep hb1
  have hs1 := Nat.le_trans hs0 hb1.size
  obtain ⟨p0, p1, _, _⟩ := bs1.two
  clear s0 s1 hb0 hb1 bs0 br0 hs0
  go_wp2_with fail
  refine (specBatchOk_eq hbk (HB.out.keep hbw1)).mono ?_
  rintro e w2 ⟨rfl, hb2⟩
  have hbw2 := bStep hbw1 hb2
  have bs2 := bs1.keep hb2
  have br2 := br1.keep hb2
  obtain ⟨q0, q1, _, _⟩ := bs2.two
  have hs2 := Nat.le_trans hs1 hb2.size
  clear p0 p1 hbw1 hb2 bs1 br1 hs1
  have HB2 : Hid (∀ W, Below w2.heap.size w2 W → Bk W w.heap.size #[.slice aL L.length cL, .slice aF F.length cF] 26 ∧ Bk W (w.heap.size + 1) #[.slice none 0 0, .slice none 0 0] 26 ∧ Below w.heap.size w W) := fun W hW => ⟨bs2.keep hW, br2.keep hW, bStep hbw2 hW⟩
  clear bs2 br2 q0 q1
  go_wp2_with fail
  go_loopw [6] (fun i wr => ∃ j : Nat, j ≤ b.length ∧ i = .int .i64 j ∧ (∀ r ∈ b.take j, askedB F r.1.2.1 r.1.2.2 = true) ∧ Below w2.heap.size w2 wr) (fun i _ => b.length - (intOf i).toNat)
  case atStart => exact ⟨0, by omega, rfl, fun r hr => by simp at hr, Below.refl _ _⟩
  case round =>
    obtain ⟨j, hj, rfl, hall, hb⟩ := hrel
    have HA := (show Hid (∀ r ∈ b.take j, askedB F r.1.2.1 r.1.2.2 = true) from hall)
    have hbw := bStep hbw2 hb
    clear hall
    by_cases hlt : j < b.length
    · have hlt' := hlt
      obtain ⟨g, off, K, V, A, B, D, rfl, hg, hr, c0, c1, c2, c3, c4⟩ := HC.out j hlt
      have ij : (j : Int) < (b.length : Int) := by omega
      have hmem : (((K, V), (A, B)), D) ∈ b := List.mem_of_getElem? hr
      have d2 : ∀ p : Bel wr, p.ww.cell? ⟨g, off + j * 5 + 2, none⟩ = some (.int .i64 A) := fun p => cell_below p.below (cell_below hbw c2)
      have d3 : ∀ p : Bel wr, p.ww.cell? ⟨g, off + j * 5 + 3, none⟩ = some (.int .i64 B) := fun p => cell_below p.below (cell_below hbw c3)
      have e0 : ∀ p : Bel wr, p.ww.cell? ⟨w.heap.size, 1, none⟩ = some (.slice aF F.length cF) := fun p => ((HB2.out wr hb).1.keep p.below).two.2.1
      have TB : ∀ p : Bel wr, Ts p.ww (.slice aF F.length cF) F := fun p => ((HS.out.keep hbw).keep p.below).2
      have hne := bel_some wr
      have HTK : Hid (askedB F A B = true → ∀ r ∈ b.take (j + 1), askedB F r.1.2.1 r.1.2.2 = true) := fun ha r hr2 => by
        rw [take_snoc hr] at hr2
        rcases List.mem_append.1 hr2 with h | h
        · exact HA.out r h
        · rw [List.mem_singleton.1 h]; exact ha
      clear c0 c1 c2 c3 c4 hr
      cases hcv : (fokB F && anyB F A B)
      · by_cases hF0 : F.length = 0
        · have hask : askedB F A B = true := asked_nil hF0
          have hF1 : decide (0 < F.length) = false := by simp [hF0]
          clear hF0
          go_wp2_with fail
          (refine wp_region_bel (by kernel_rfl) (by kernel_rfl) ?_; (repeat (go_big_quiet_step ((first | (go_at_call 58; exact calls_bel (specCovers_eq hcv (TB _))))))); refine wpQuiet_nil ?_)
          intro w3 hw3
          replace hw3 := bel_out hw3
          have hb3 := bStep hb hw3
          go_wp2_with fail
          go_roundw
          case rel => exact ⟨j + 1, by omega, by go_num, HTK.out hask, hb3⟩
          case measure => simp [intOf]; omega
        · have hask : askedB F A B = false := by rw [asked_cov hF0]; exact hcv
          have HN := (show Hid _ from in_no (L := L) (in_no3 (asked_not hmem hask)))
          have hF1 : decide (0 < F.length) = true := by simp; omega
          have hF2 : (0 : Int) < (F.length : Int) := by omega
          go_wp2_with fail
          (refine wp_region_bel (by kernel_rfl) (by kernel_rfl) ?_; (repeat (go_big_quiet_step ((first | (go_at_call 58; exact calls_bel (specCovers_eq hcv (TB _))))))); refine wpQuiet_nil ?_)
          intro w3 hw3
          replace hw3 := bel_out hw3
          have hb3 := bStep hb hw3
          obtain ⟨bs3, br3, hbw3⟩ := HB2.out _ hb3
          clear d2 d3 e0 TB hne hbw hb
          have q8 := (br3.set 0 (.slice none 0 0)).set 1 (.slice none 0 0)
          have q9 := br3.set 0 (.slice none 0 0)
          obtain ⟨x0, x1, g0, g1⟩ := br3.two
          obtain ⟨y0, y1, h0, h1⟩ := q9.two
          obtain ⟨t0, t1, _, _⟩ := q8.two
          have HB8 : Hid (Below w.heap.size w ((w3.setCell ⟨w.heap.size + 1, 0, none⟩ (.slice none 0 0)).setCell ⟨w.heap.size + 1, 1, none⟩ (.slice none 0 0))) := (hbw3.setCell (show w.heap.size ≤ w.heap.size + 1 by omega) _).setCell (show w.heap.size ≤ w.heap.size + 1 by omega) _
          clear q8 q9 br3 hbw3
          go_wp2_with fail
          refine bodyPost_ret (v := .tuple #[spv (.slice none 0 0) (.slice none 0 0), .bool false]) (by simp [results, Tryz.results19, go_sem, t0, t1]) rfl ?_
          exact ⟨_, _, by rw [HN.out.1], by rw [HN.out.2.1, HN.out.2.2]; exact SpO.nil _ _, HB8.out⟩
      · have hask : askedB F A B = true := by
          by_cases hF0 : F.length = 0
          · exact asked_nil hF0
          · rw [asked_cov hF0]; exact hcv
        go_wp2_with fail
        (refine wp_region_bel (by kernel_rfl) (by kernel_rfl) ?_; (repeat (go_big_quiet_step ((first | (go_at_call 58; exact calls_bel (specCovers_eq hcv (TB _))))))); refine wpQuiet_nil ?_)
        intro w3 hw3
        replace hw3 := bel_out hw3
        have hb3 := bStep hb hw3
        go_wp2_with fail
        go_roundw
        case rel => exact ⟨j + 1, by omega, by go_num, HTK.out hask, hb3⟩
        case measure => simp [intOf]; omega
    · obtain rfl : j = b.length := by omega
      rw [List.take_length] at HA
      have HM := (show Hid _ from in_mid hk hbk (asked_all HA.out))
      obtain ⟨bs, br, _⟩ := HB2.out _ hb
      obtain ⟨p0, p1, _, _⟩ := bs.two
      go_wp2_with fail
      refine (l12Copy_any _ _ L F wr (HS.out.keep hbw) (by omega) (spok_few hk) (by omega)).mono ?_
      rintro e w4 ⟨lx, fx, rfl, spx, hb4⟩
      obtain ⟨ax, cx, ay, cy, rfl, rfl⟩ := spx.open
      have bx5 : Bk (w4.alloc (.cells #[.slice ax L.length cx, .slice ay F.length cy] 26)) w4.heap.size #[.slice ax L.length cx, .slice ay F.length cy] 26 := Bk.new _ _ rfl
      have hb45 : Below w4.heap.size w4 (w4.alloc (.cells #[.slice ax L.length cx, .slice ay F.length cy] 26)) := bAlloc (Below.refl _ _) _
      have hb5 : Below wr.heap.size wr (w4.alloc (.cells #[.slice ax L.length cx, .slice ay F.length cy] 26)) := bStep hb4 hb45
      have br5 := br.keep hb5
      have sp5 : SpO (w4.alloc (.cells #[.slice ax L.length cx, .slice ay F.length cy] 26)) wr.heap.size (.slice ax L.length cx) (.slice ay F.length cy) L F := spx.keep hb45
      have hs4 := hb4.size
      have hzr : w.heap.size + 1 < wr.heap.size := br.lt
      obtain ⟨s0, s1, _, _⟩ := bx5.two
      clear bs br p0 p1 spx hb4 hb45
      go_upto_region 9 with fail
      generalize hO7 : w4.heap.size = o7 at *
      generalize (w4.alloc (.cells #[.slice ax L.length cx, .slice ay F.length cy] 26)) = w5 at *
      by_cases hl6 : L.length = 6
      · have e6 : decide ((6 : Int) ≤ (L.length : Int)) = true := by simp; omega
        have e6b : (6 : Int) ≤ (L.length : Int) := by omega
        have hk2 : bestL L + 2 ≤ L.length := best_lt (by omega)
        have HROOM : Hid (inL L F b = joinO L F (bestL L) ++ [b]) := by show _ = _; unfold inL roomL; rw [if_pos (by omega)]
        obtain ⟨n1, n2, n3⟩ := joinB_yes (F := F) hk rfl hk2
        have HJ := (show Hid _ from (And.intro n1 (And.intro n2 n3)))
        clear n1 n2 n3 hl6
        have HJS : Hid (∀ W, Spn W (.slice ax L.length cx) (.slice ay F.length cy) L F → Calls Tryz.prog 60 #[spv (.slice ax L.length cx) (.slice ay F.length cy), .int .i64 ((bestL L : Nat) : Int)] W fun e w' => ∃ lv' fv' : Value, e = .returned (.tuple #[spv lv' fv', .bool (joinB L F (bestL L : Nat))]) ∧ SpO w' W.heap.size lv' fv' (joinL L F (bestL L : Nat)) (joinF L F (bestL L : Nat)) ∧ Below W.heap.size W w') := fun W h => specSpineJoin_any _ _ L F _ W h
        have HX5 : Hid (∀ W, Below w5.heap.size w5 W → W.cell? ⟨o7, 0, none⟩ = some (.slice ax L.length cx) ∧ W.cell? ⟨o7, 1, none⟩ = some (.slice ay F.length cy)) := fun W hW => ⟨(bx5.keep hW).two.1, (bx5.keep hW).two.2.1⟩
        have S5 := sp5.spn (by omega) (by omega)
        have HSW : Hid (∀ W, Below w5.heap.size w5 W → Spn W (.slice ax L.length cx) (.slice ay F.length cy) L F) := fun W hW => S5.keep hW
        have HL2 : 2 ≤ L.length := by omega
        have HFW := (show Hid _ from spok_few hk)
        have k0 : Below w5.heap.size w5 w5.drew := (Below.refl _ _).drew
        have kz : Below w5.heap.size w5 ((w5.alloc (.cells #[.slice none 0 0, .slice none 0 0] 26)).drew) := (bAlloc (Below.refl _ _) _).drew
        have ZA : Bk ((w5.alloc (.cells #[.slice none 0 0, .slice none 0 0] 26)).drew) w5.heap.size #[.slice none 0 0, .slice none 0 0] 26 := (Bk.new _ _ rfl).drew
        have hwz5 : wr.heap.size ≤ w5.heap.size := hb5.size
        generalize joinL L F (bestL L : Nat) = JL at *
        generalize joinF L F (bestL L : Nat) = JF at *
        generalize joinB L F (bestL L : Nat) = JB at *
        go_wp2_with fail
        go_cut [8, 9] (fun p o wc => ∃ (oY : Nat) (aj : Option Addr) (cj : Nat) (bj : Option Addr) (dj : Nat), p = .pointer (some ⟨oY, 0, none⟩) ∧ o = .bool JB ∧ w5.heap.size ≤ oY ∧ Bk wc oY #[.slice aj JL.length cj, .slice bj JF.length dj] 26 ∧ SpO wc wr.heap.size (.slice aj JL.length cj) (.slice bj JF.length dj) JL JF ∧ Below w5.heap.size w5 wc)
        case first =>
          go_region_held3 (fun W => W.cell? ⟨o7, 0, none⟩ = some (.slice ax L.length cx) ∧ W.cell? ⟨o7, 1, none⟩ = some (.slice ay F.length cy))
            (exact HX5.out _ (by repeat' (first | (with_reducible exact Below.refl _ _) | (with_reducible assumption) | (with_reducible refine bStep ?_ (by with_reducible assumption)) | (with_reducible refine bAlloc ?_ _) | (with_reducible refine Below.drew ?_) | (with_reducible refine bDrewN ?_ _) | (with_reducible refine Below.setCell ?_ ?_ _) | (simp; done) | (simp; omega) | omega)))
            (first
              | (go_at_call 61; with_reducible refine (l12Least_any _ _ L F _ (HSW.out _ k0) HL2 h6 HFW.out).mono ?_; rintro e wl ⟨rfl, hbl2⟩; have kl : Below w5.heap.size w5 wl := bStep k0 hbl2; have kl2 : Below w5.heap.size w5 (wl.alloc (.cells #[.slice none 0 0, .slice none 0 0] 26)) := bAlloc kl _; have zl5 := kl.size; have hzl : wr.heap.size ≤ wl.heap.size := Nat.le_trans hwz5 kl.size; have hzl2 : wr.heap.size ≤ (wl.alloc (.cells #[.slice none 0 0, .slice none 0 0] 26)).heap.size := Nat.le_trans hwz5 kl2.size)
              | (go_at_call 61; with_reducible refine (l12Least_any _ _ L F _ (HSW.out _ kz) HL2 h6 HFW.out).mono ?_; rintro e wl ⟨rfl, hbl2⟩; have kl : Below w5.heap.size w5 wl := bStep kz hbl2; have bzl := ZA.keep hbl2; have zl5 := kl.size; have hzl : wr.heap.size ≤ wl.heap.size := Nat.le_trans hwz5 kl.size)
              | (go_at_call 60; with_reducible refine (HJS.out _ (HSW.out _ kl)).mono ?_; rintro e wj ⟨lj, fj, rfl, spj, hbj⟩; have kj : Below w5.heap.size w5 wj := bStep kl hbj; have bzj := bzl.keep hbj; obtain ⟨aj, cj, bj, dj, rfl, rfl⟩ := spj.open; obtain ⟨bz0, bz1, bf0, bf1⟩ := bzj.two; have zj5 := kj.size)
              | (go_at_call 60; with_reducible refine (HJS.out _ (HSW.out _ kl)).mono ?_; rintro e wj ⟨lj, fj, rfl, spj, hbj⟩; have kj : Below w5.heap.size w5 wj := bStep kl hbj; obtain ⟨aj, cj, bj, dj, rfl, rfl⟩ := spj.open; have zj5 := kj.size)
              | (go_at_call 60; with_reducible refine (HJS.out _ (HSW.out _ kl2)).mono ?_; rintro e wj ⟨lj, fj, rfl, spj, hbj⟩; have kj : Below w5.heap.size w5 wj := bStep kl2 hbj; have bzj := (Bk.new (w := wl) #[.slice none 0 0, .slice none 0 0] 26 rfl).keep hbj; obtain ⟨aj, cj, bj, dj, rfl, rfl⟩ := spj.open; obtain ⟨bz0, bz1, bf0, bf1⟩ := bzj.two; have zj5 := kj.size))
          · have bN : Bk (wj.alloc (.cells #[.slice aj JL.length cj, .slice bj JF.length dj] 26)) wj.heap.size #[.slice aj JL.length cj, .slice bj JF.length dj] 26 := Bk.new _ _ rfl
            have sN : SpO (wj.alloc (.cells #[.slice aj JL.length cj, .slice bj JF.length dj] 26)) wr.heap.size (.slice aj JL.length cj) (.slice bj JF.length dj) JL JF := SpO.less (spj.keep (bAlloc (Below.refl _ _) _)) hzl
            have hbN : Below w5.heap.size w5 (wj.alloc (.cells #[.slice aj JL.length cj, .slice bj JF.length dj] 26)) := bAlloc kj _
            have hoY : w5.heap.size ≤ wj.heap.size := kj.size
            go_wp2_with fail
            go_meet
            case rel => exact ⟨_, aj, cj, bj, dj, rfl, rfl, hoY, bN, sN, hbN⟩
          · have bN : Bk ((wj.setCell ⟨wl.heap.size, 0, none⟩ (.slice aj JL.length cj)).setCell ⟨wl.heap.size, 1, none⟩ (.slice bj JF.length dj)) wl.heap.size #[.slice aj JL.length cj, .slice bj JF.length dj] 26 := by simpa using (bzj.set 0 (.slice aj JL.length cj)).set 1 (.slice bj JF.length dj)
            have sN : SpO ((wj.setCell ⟨wl.heap.size, 0, none⟩ (.slice aj JL.length cj)).setCell ⟨wl.heap.size, 1, none⟩ (.slice bj JF.length dj)) wr.heap.size (.slice aj JL.length cj) (.slice bj JF.length dj) JL JF := SpO.less ((SpO.setBox spj bzj).setBox (bzj.set 0 _)) hzl2
            have hoY : w5.heap.size ≤ wl.heap.size := kl.size
            have hbN : Below w5.heap.size w5 ((wj.setCell ⟨wl.heap.size, 0, none⟩ (.slice aj JL.length cj)).setCell ⟨wl.heap.size, 1, none⟩ (.slice bj JF.length dj)) := (kj.setCell hoY _).setCell hoY _
            go_wp2_with fail
            go_meet
            case rel => exact ⟨_, aj, cj, bj, dj, rfl, rfl, hoY, bN, sN, hbN⟩
          · have bN : Bk ((wj.setCell ⟨w5.heap.size, 0, none⟩ (.slice aj JL.length cj)).setCell ⟨w5.heap.size, 1, none⟩ (.slice bj JF.length dj)) w5.heap.size #[.slice aj JL.length cj, .slice bj JF.length dj] 26 := by simpa using (bzj.set 0 (.slice aj JL.length cj)).set 1 (.slice bj JF.length dj)
            have sN : SpO ((wj.setCell ⟨w5.heap.size, 0, none⟩ (.slice aj JL.length cj)).setCell ⟨w5.heap.size, 1, none⟩ (.slice bj JF.length dj)) wr.heap.size (.slice aj JL.length cj) (.slice bj JF.length dj) JL JF := SpO.less ((SpO.setBox spj bzj).setBox (bzj.set 0 _)) hzl
            have hoY : w5.heap.size ≤ w5.heap.size := Nat.le_refl _
            have hbN : Below w5.heap.size w5 ((wj.setCell ⟨w5.heap.size, 0, none⟩ (.slice aj JL.length cj)).setCell ⟨w5.heap.size, 1, none⟩ (.slice bj JF.length dj)) := (kj.setCell hoY _).setCell hoY _
            go_wp2_with fail
            go_meet
            case rel => exact ⟨_, aj, cj, bj, dj, rfl, rfl, hoY, bN, sN, hbN⟩
        case rest =>
          obtain ⟨oY, aj, cj, bj, dj, rfl, rfl, hoY, bY, sY, hbY⟩ := hcut
          have brY := br5.keep hbY
          have bxY := bx5.keep hbY
          have hbrY := bStep hb5 hbY
          have hbwY := bStep hbw hbrY
          obtain ⟨n0, n1, _, _⟩ := bY.two
          cases hJB : JB
          · have HN : Hid (inB1 L F b = false ∧ inLL L F b = [] ∧ inF L F b = []) := by
              have h1 := HM.out
              have h2 := HJ.out.1
              rw [hJB] at h2
              rw [HROOM.out] at h1
              have h3 := spok_init (b := b) h2.symm
              exact ⟨by rw [h1.1, h3], by rw [h1.2.1]; simp [okL, h3], by rw [h1.2.2]; simp [okF, h3]⟩
            clear bxY bY sY
            have q8 := (brY.set 0 (.slice none 0 0)).set 1 (.slice none 0 0)
            have q9 := brY.set 0 (.slice none 0 0)
            obtain ⟨x0, x1, g0, g1⟩ := brY.two
            obtain ⟨y0, y1, h0, h1⟩ := q9.two
            obtain ⟨t0, t1, _, _⟩ := q8.two
            have HB8 : Hid (Below w.heap.size w ((wc.setCell ⟨w.heap.size + 1, 0, none⟩ (.slice none 0 0)).setCell ⟨w.heap.size + 1, 1, none⟩ (.slice none 0 0))) := (hbwY.setCell (show w.heap.size ≤ w.heap.size + 1 by omega) _).setCell (show w.heap.size ≤ w.heap.size + 1 by omega) _
            clear q8 q9 brY hbwY
            go_wp2_with fail
            refine bodyPost_ret (v := .tuple #[spv (.slice none 0 0) (.slice none 0 0), .bool false]) (by simp [results, Tryz.results19, go_sem, t0, t1]) rfl ?_
            exact ⟨_, _, by rw [HN.out.1], by rw [HN.out.2.1, HN.out.2.2]; exact SpO.nil _ _, HB8.out⟩
          · obtain ⟨j1, j2⟩ := okL_yes (L := joinO L F (bestL L)) (F := F) (by rw [← HJ.out.1]; exact hJB)
            have eL : JL = joinO L F (bestL L) := by rw [HJ.out.2.1]; exact j1
            have eF : JF = F := by rw [HJ.out.2.2]; exact j2
            clear HJ HJS
            subst eL
            subst eF
            have b6 := bxY.set 0 (.slice aj (joinO L JF (bestL L)).length cj)
            have b7 := b6.set 1 (.slice bj JF.length dj)
            have bx6 : Bk ((wc.setCell ⟨o7, 0, none⟩ (.slice aj (joinO L JF (bestL L)).length cj)).setCell ⟨o7, 1, none⟩ (.slice bj JF.length dj)) o7 #[.slice aj (joinO L JF (bestL L)).length cj, .slice bj JF.length dj] 26 := by simpa using b7
            have sp6 : SpO ((wc.setCell ⟨o7, 0, none⟩ (.slice aj (joinO L JF (bestL L)).length cj)).setCell ⟨o7, 1, none⟩ (.slice bj JF.length dj)) wr.heap.size (.slice aj (joinO L JF (bestL L)).length cj) (.slice bj JF.length dj) (joinO L JF (bestL L)) JF := (sY.setBox bxY).setBox b6
            have br6 := (brY.apart (p := ⟨o7, 0, none⟩) (show w.heap.size + 1 ≠ o7 by omega) (.slice aj (joinO L JF (bestL L)).length cj)).apart (p := ⟨o7, 1, none⟩) (show w.heap.size + 1 ≠ o7 by omega) (.slice bj JF.length dj)
            have hb6 : Below wr.heap.size wr ((wc.setCell ⟨o7, 0, none⟩ (.slice aj (joinO L JF (bestL L)).length cj)).setCell ⟨o7, 1, none⟩ (.slice bj JF.length dj)) := (hbrY.setCell (show wr.heap.size ≤ o7 from hs4) _).setCell (show wr.heap.size ≤ o7 from hs4) _
            have HLX : Hid ((joinO L JF (bestL L)).length ≤ 1000) := by show _ ≤ _; have := join_len JF hk2; omega
            have ho7 : wr.heap.size ≤ o7 := hs4
            obtain ⟨u0, u1, v0, v1⟩ := bxY.two
            obtain ⟨m0, m1, k0, k1⟩ := b6.two
            clear b7 bxY brY bY sY hbY hbrY hbwY br5 bx5 sp5 HX5 HSW S5 ZA kz hb5
            go_wp2_with fail
            clear u0 u1 v0 v1 m0 m1 k0 k1 n0 n1 b6
            generalize ((wc.setCell ⟨o7, 0, none⟩ (.slice aj (joinO L JF (bestL L)).length cj)).setCell ⟨o7, 1, none⟩ (.slice bj JF.length dj)) = w6 at *
            obtain ⟨vs, ov, eo, oF⟩ := sp6
            have hvl : vs.length = (joinO L JF (bestL L)).length := eo.len
            have HOV := (show Hid (OwnV w6 wr.heap.size (.slice aj (joinO L JF (bestL L)).length cj) vs) from ov)
            have HEO := (show Hid (EachO w6 wr.heap.size vs (joinO L JF (bestL L))) from eo)
            have HOF := (show Hid (Own w6 wr.heap.size (.slice bj JF.length dj) JF) from oF)
            have HBX := (show Hid (Bk w6 o7 #[.slice aj (joinO L JF (bestL L)).length cj, .slice bj JF.length dj] 26) from bx6)
            have HBR := (show Hid (Bk w6 (w.heap.size + 1) #[.slice none 0 0, .slice none 0 0] 26) from br6)
            have HBW := (show Hid (Below wr.heap.size wr w6) from hb6)
            have hvk : vs.length ≤ 1000 := by rw [hvl]; exact HLX.out
            have hbE : Below w6.heap.size w6 ((w6.alloc (.cells #[] 74)).drew) := (bAlloc (Below.refl _ _) _).drew
            have OE : OwnR ((w6.alloc (.cells #[] 74)).drew) w6.heap.size (.slice (some ⟨w6.heap.size, 0, none⟩) 0 0) [] := ownR_empty w6 rfl
            have zE : w6.heap.size ≤ ((w6.alloc (.cells #[] 74)).drew).heap.size := by simp
            have RE : Rs ((w6.alloc (.cells #[] 74)).drew) (.slice aB b.length cB) b := HB.out.keep (bStep hbw (bStep HBW.out hbE))
            have hzX : wr.heap.size ≤ w6.heap.size := HBW.out.size
            obtain ⟨x0, x1, _, _⟩ := HBX.out.two
            obtain ⟨x2, x3, _, _⟩ := (HBX.out.keep hbE).two
            obtain ⟨x4, x5, _, _⟩ := HBX.out.drew.two
            obtain ⟨x9, _, _, _⟩ := (HBX.out.alloc (.cells #[] 74)).two
            have HVL := (show Hid _ from hvl)
            clear ov eo oF hvl
            go_wp2_with fail
            go_cut [7] (fun p wc => p = .pointer (some ⟨o7, 0, none⟩) ∧ ∃ (g9 cap9 : Nat), Bk wc o7 #[.slice (some ⟨g9, 0, none⟩) (joinO L JF (bestL L) ++ [b]).length cap9, .slice bj JF.length dj] 26 ∧ SpO wc wr.heap.size (.slice (some ⟨g9, 0, none⟩) (joinO L JF (bestL L) ++ [b]).length cap9) (.slice bj JF.length dj) (joinO L JF (bestL L) ++ [b]) JF ∧ Bk wc (w.heap.size + 1) #[.slice none 0 0, .slice none 0 0] 26 ∧ Below wr.heap.size wr wc)
            case first =>
              go_region_law (first
                | (refine stepRs _ rfl _ _ rfl w6.heap.size _ [] rfl OE _ b rfl RE (by simp; omega) zE ?_; intro v7 w7 own7 hg7; obtain ⟨a7, c7, rfl⟩ : ∃ a c, v7 = .slice a b.length c := (by obtain ⟨a, c, e, _⟩ := Rs.open (OwnR.rs own7 (by simp; omega)); exact ⟨a, c, by simpa using e⟩); have own7' : OwnR w7 w6.heap.size (.slice a7 b.length c7) b := own7; have hb7 : Below w6.heap.size w6 w7 := Below.grew hbE hg7 zE (ownK_base OE); have hb8 : Below w6.heap.size w6 (w7.alloc (.cells #[.slice a7 b.length c7] 33)) := bAlloc hb7 _; have O8 : OwnV (w7.alloc (.cells #[.slice a7 b.length c7] 33)) wr.heap.size (.slice aj (joinO L JF (bestL L)).length cj) vs := own_keep HOV.out hb8; have B8 : Bk (w7.alloc (.cells #[.slice a7 b.length c7] 33)) w7.heap.size #[.slice a7 b.length c7] 33 := Bk.new _ _ rfl; have hz8 : wr.heap.size ≤ (w7.alloc (.cells #[.slice a7 b.length c7] 33)).heap.size := Nat.le_trans hzX hb8.size; obtain ⟨x6, _, _, _⟩ := (HBX.out.keep hb7).two; obtain ⟨x8, _, _, _⟩ := (HBX.out.keep hb8).two)
                | (refine stepV _ rfl _ _ rfl wr.heap.size (.slice aj (joinO L JF (bestL L)).length cj) vs rfl O8 w7.heap.size a7 b.length c7 rfl B8 (Nat.le_trans hvk (by omega)) hz8 ?_; intro g9 cap9 w9 own9 hg9 hl9; have bo9 := Bk.grew (HBX.out.keep hb8) hg9 (fun q e => rows_not_spine O8 (HBX.out.keep hb8) e); obtain ⟨y0, y1, f0, f1⟩ := bo9.two))
              all_goals
                have bo10 : Bk (w9.setCell ⟨o7, 0, none⟩ (.slice (some ⟨g9, 0, none⟩) (vs.length + 1) cap9)) o7 #[.slice (some ⟨g9, 0, none⟩) (vs.length + 1) cap9, .slice bj JF.length dj] 26 := by simpa using bo9.set 0 (.slice (some ⟨g9, 0, none⟩) (vs.length + 1) cap9)
                have HF : Hid (SpO (w9.setCell ⟨o7, 0, none⟩ (.slice (some ⟨g9, 0, none⟩) (vs.length + 1) cap9)) wr.heap.size (.slice (some ⟨g9, 0, none⟩) (vs.length + 1) cap9) (.slice bj JF.length dj) (joinO L JF (bestL L) ++ [b]) JF) := by
                  refine SpO.setBox ⟨vs ++ [.slice a7 b.length c7], own9, ?_, ?_⟩ bo9
                  · have e1 : EachO (w7.alloc (.cells #[.slice a7 b.length c7] 33)) wr.heap.size (vs ++ [.slice a7 b.length c7]) (joinO L JF (bestL L) ++ [b]) := by
                      refine (HEO.out.keep hb8).snoc (own_less (own7'.alloc _) hzX) (by omega) fun q e hq => ?_
                      have h1 := ownK_base own7' q e
                      obtain ⟨c, hc, _⟩ := HEO.out.blk hq
                      have := hc.lt
                      omega
                    exact e1.grewV O8 hg9
                  · have o8 : Own (w7.alloc (.cells #[.slice a7 b.length c7] 33)) wr.heap.size (.slice bj JF.length dj) JF := own_keep HOF.out hb8
                    exact ownK_at o8 fun q e => hg9.block q (ownK_lt o8 q e) fun e2 => time_not_rows o8 O8 e e2.symm
                have hbN : Below wr.heap.size wr (w9.setCell ⟨o7, 0, none⟩ (.slice (some ⟨g9, 0, none⟩) (vs.length + 1) cap9)) := (Below.grew (HBW.out.trans (hb8.mono hzX)) hg9 hz8 (ownK_base O8)).setCell (show wr.heap.size ≤ o7 from ho7) _
                have br9 := (Bk.grew (HBR.out.keep hb8) hg9 (fun q e => rows_not_spine O8 (HBR.out.keep hb8) e)).apart (p := ⟨o7, 0, none⟩) (show w.heap.size + 1 ≠ o7 by omega) (.slice (some ⟨g9, 0, none⟩) (vs.length + 1) cap9)
                have HVN : Hid (vs.length + 1 = (joinO L JF (bestL L) ++ [b]).length) := by show _ = _; rw [HVL.out]; simp
                rw [HVN.out] at HF bo10 br9 hbN ⊢
                go_wp2_with fail
                go_meet
                case rel => exact ⟨rfl, g9, cap9, bo10, HF.out, br9, hbN⟩
            case rest =>
              obtain ⟨rfl, g9, cap9, bo10, spN, br9, hbN⟩ := hcut
              have HF := (show Hid (SpO wc wr.heap.size (.slice (some ⟨g9, 0, none⟩) (joinO L JF (bestL L) ++ [b]).length cap9) (.slice bj JF.length dj) (joinO L JF (bestL L) ++ [b]) JF) from spN)
              have hbwN := bStep hbw hbN
              obtain ⟨z0, z1, _, _⟩ := bo10.two
              clear spN x0 x1 x2 x3 x4 x5 x9 OE RE hbE zE HOV HEO HOF HBX HBR HBW
              generalize (joinO L JF (bestL L) ++ [b]).length = nN at *
              have SPN := HF.out.spn (by rw [List.length_append]; have := HLX.out; simp; omega) (by omega)
              cases hsp : spokB (joinO L JF (bestL L) ++ [b]) JF
              · have HN : Hid (inB1 L JF b = false ∧ inLL L JF b = [] ∧ inF L JF b = []) := by
                  have h1 := HM.out
                  rw [HROOM.out] at h1
                  exact ⟨by rw [h1.1, hsp], by rw [h1.2.1]; simp [okL, hsp], by rw [h1.2.2]; simp [okF, hsp]⟩
                go_wp2_with fail
                refine (specSpineOk_eq hsp SPN).mono ?_
                rintro e wf ⟨rfl, hbf⟩
                have brf := br9.keep hbf
                have hbwf := bStep hbwN hbf
                clear br9 hbwN hbf z0 z1 SPN bo10
                have q8 := (brf.set 0 (.slice none 0 0)).set 1 (.slice none 0 0)
                have q9 := brf.set 0 (.slice none 0 0)
                obtain ⟨x0, x1, g0, g1⟩ := brf.two
                obtain ⟨y0, y1, h0, h1⟩ := q9.two
                obtain ⟨t0, t1, _, _⟩ := q8.two
                have HB8 : Hid (Below w.heap.size w ((wf.setCell ⟨w.heap.size + 1, 0, none⟩ (.slice none 0 0)).setCell ⟨w.heap.size + 1, 1, none⟩ (.slice none 0 0))) := (hbwf.setCell (show w.heap.size ≤ w.heap.size + 1 by omega) _).setCell (show w.heap.size ≤ w.heap.size + 1 by omega) _
                clear q8 q9 brf hbwf
                go_wp2_with fail
                refine bodyPost_ret (v := .tuple #[spv (.slice none 0 0) (.slice none 0 0), .bool false]) (by simp [results, Tryz.results19, go_sem, t0, t1]) rfl ?_
                exact ⟨_, _, by rw [HN.out.1], by rw [HN.out.2.1, HN.out.2.2]; exact SpO.nil _ _, HB8.out⟩
              · have HN : Hid (inB1 L JF b = true ∧ inLL L JF b = joinO L JF (bestL L) ++ [b] ∧ inF L JF b = JF) := by
                  have h1 := HM.out
                  rw [HROOM.out] at h1
                  exact ⟨by rw [h1.1, hsp], by rw [h1.2.1]; simp [okL, hsp], by rw [h1.2.2]; simp [okF, hsp]⟩
                go_wp2_with fail
                refine (specSpineOk_eq hsp SPN).mono ?_
                rintro e wf ⟨rfl, hbf⟩
                have brf := br9.keep hbf
                have bxf := bo10.keep hbf
                have hbwf := bStep hbwN hbf
                have spf := HF.out.keep hbf
                have q9 := brf.set 0 (.slice (some ⟨g9, 0, none⟩) nN cap9)
                have q8 := q9.set 1 (.slice bj JF.length dj)
                obtain ⟨x0, x1, g0, g1⟩ := brf.two
                obtain ⟨y0, y1, h0, h1⟩ := q9.two
                obtain ⟨t0, t1, _, _⟩ := q8.two
                obtain ⟨m0, m1, _, _⟩ := bxf.two
                have HG : Hid (SpO ((wf.setCell ⟨w.heap.size + 1, 0, none⟩ (.slice (some ⟨g9, 0, none⟩) nN cap9)).setCell ⟨w.heap.size + 1, 1, none⟩ (.slice bj JF.length dj)) w.heap.size (.slice (some ⟨g9, 0, none⟩) nN cap9) (.slice bj JF.length dj) (inLL L JF b) (inF L JF b) ∧ Below w.heap.size w ((wf.setCell ⟨w.heap.size + 1, 0, none⟩ (.slice (some ⟨g9, 0, none⟩) nN cap9)).setCell ⟨w.heap.size + 1, 1, none⟩ (.slice bj JF.length dj))) := by
                  refine ⟨?_, (hbwf.setCell (show w.heap.size ≤ w.heap.size + 1 by omega) _).setCell (show w.heap.size ≤ w.heap.size + 1 by omega) _⟩
                  rw [HN.out.2.1, HN.out.2.2]
                  exact (spf.set2 (by omega)).less (by omega)
                clear q8 q9 brf bxf br9 bo10 hbwf hbwN hbf spf SPN z0 z1
                go_wp2_with fail
                refine bodyPost_ret (v := .tuple #[spv (.slice (some ⟨g9, 0, none⟩) nN cap9) (.slice bj JF.length dj), .bool true]) (by simp [results, Tryz.results19, go_sem, t0, t1]) rfl ?_
                exact ⟨_, _, by rw [HN.out.1], HG.out.1, HG.out.2⟩
      · have e6 : decide ((6 : Int) ≤ (L.length : Int)) = false := by simp; omega
        have e6b : ¬ (6 : Int) ≤ (L.length : Int) := by omega
        have HROOM : Hid (inL L F b = L ++ [b]) := by show _ = _; unfold inL roomL; rw [if_neg (by omega)]
        have HLX : Hid ((L).length ≤ 1000) := by show _ ≤ _; omega
        have ho7 : wr.heap.size ≤ o7 := hs4
        obtain ⟨vs, ov, eo, oF⟩ := sp5
        have hvl : vs.length = (L).length := eo.len
        have HOV := (show Hid (OwnV w5 wr.heap.size (.slice ax L.length cx) vs) from ov)
        have HEO := (show Hid (EachO w5 wr.heap.size vs (L)) from eo)
        have HOF := (show Hid (Own w5 wr.heap.size (.slice ay F.length cy) F) from oF)
        have HBX := (show Hid (Bk w5 o7 #[.slice ax L.length cx, .slice ay F.length cy] 26) from bx5)
        have HBR := (show Hid (Bk w5 (w.heap.size + 1) #[.slice none 0 0, .slice none 0 0] 26) from br5)
        have HBW := (show Hid (Below wr.heap.size wr w5) from hb5)
        have hvk : vs.length ≤ 1000 := by rw [hvl]; exact HLX.out
        have hbE : Below w5.heap.size w5 ((w5.alloc (.cells #[] 74)).drew) := (bAlloc (Below.refl _ _) _).drew
        have OE : OwnR ((w5.alloc (.cells #[] 74)).drew) w5.heap.size (.slice (some ⟨w5.heap.size, 0, none⟩) 0 0) [] := ownR_empty w5 rfl
        have zE : w5.heap.size ≤ ((w5.alloc (.cells #[] 74)).drew).heap.size := by simp
        have RE : Rs ((w5.alloc (.cells #[] 74)).drew) (.slice aB b.length cB) b := HB.out.keep (bStep hbw (bStep HBW.out hbE))
        have hzX : wr.heap.size ≤ w5.heap.size := HBW.out.size
        obtain ⟨x0, x1, _, _⟩ := HBX.out.two
        obtain ⟨x2, x3, _, _⟩ := (HBX.out.keep hbE).two
        obtain ⟨x4, x5, _, _⟩ := HBX.out.drew.two
        obtain ⟨x9, _, _, _⟩ := (HBX.out.alloc (.cells #[] 74)).two
        have HVL := (show Hid _ from hvl)
        clear ov eo oF hvl
        go_wp2_with fail
        go_cut [7] (fun p wc => p = .pointer (some ⟨o7, 0, none⟩) ∧ ∃ (g9 cap9 : Nat), Bk wc o7 #[.slice (some ⟨g9, 0, none⟩) (L ++ [b]).length cap9, .slice ay F.length cy] 26 ∧ SpO wc wr.heap.size (.slice (some ⟨g9, 0, none⟩) (L ++ [b]).length cap9) (.slice ay F.length cy) (L ++ [b]) F ∧ Bk wc (w.heap.size + 1) #[.slice none 0 0, .slice none 0 0] 26 ∧ Below wr.heap.size wr wc)
        case first =>
          go_region_law (first
            | (refine stepRs _ rfl _ _ rfl w5.heap.size _ [] rfl OE _ b rfl RE (by simp; omega) zE ?_; intro v7 w7 own7 hg7; obtain ⟨a7, c7, rfl⟩ : ∃ a c, v7 = .slice a b.length c := (by obtain ⟨a, c, e, _⟩ := Rs.open (OwnR.rs own7 (by simp; omega)); exact ⟨a, c, by simpa using e⟩); have own7' : OwnR w7 w5.heap.size (.slice a7 b.length c7) b := own7; have hb7 : Below w5.heap.size w5 w7 := Below.grew hbE hg7 zE (ownK_base OE); have hb8 : Below w5.heap.size w5 (w7.alloc (.cells #[.slice a7 b.length c7] 33)) := bAlloc hb7 _; have O8 : OwnV (w7.alloc (.cells #[.slice a7 b.length c7] 33)) wr.heap.size (.slice ax L.length cx) vs := own_keep HOV.out hb8; have B8 : Bk (w7.alloc (.cells #[.slice a7 b.length c7] 33)) w7.heap.size #[.slice a7 b.length c7] 33 := Bk.new _ _ rfl; have hz8 : wr.heap.size ≤ (w7.alloc (.cells #[.slice a7 b.length c7] 33)).heap.size := Nat.le_trans hzX hb8.size; obtain ⟨x6, _, _, _⟩ := (HBX.out.keep hb7).two; obtain ⟨x8, _, _, _⟩ := (HBX.out.keep hb8).two)
            | (refine stepV _ rfl _ _ rfl wr.heap.size (.slice ax L.length cx) vs rfl O8 w7.heap.size a7 b.length c7 rfl B8 (Nat.le_trans hvk (by omega)) hz8 ?_; intro g9 cap9 w9 own9 hg9 hl9; have bo9 := Bk.grew (HBX.out.keep hb8) hg9 (fun q e => rows_not_spine O8 (HBX.out.keep hb8) e); obtain ⟨y0, y1, f0, f1⟩ := bo9.two))
          all_goals
            have bo10 : Bk (w9.setCell ⟨o7, 0, none⟩ (.slice (some ⟨g9, 0, none⟩) (vs.length + 1) cap9)) o7 #[.slice (some ⟨g9, 0, none⟩) (vs.length + 1) cap9, .slice ay F.length cy] 26 := by simpa using bo9.set 0 (.slice (some ⟨g9, 0, none⟩) (vs.length + 1) cap9)
            have HF : Hid (SpO (w9.setCell ⟨o7, 0, none⟩ (.slice (some ⟨g9, 0, none⟩) (vs.length + 1) cap9)) wr.heap.size (.slice (some ⟨g9, 0, none⟩) (vs.length + 1) cap9) (.slice ay F.length cy) (L ++ [b]) F) := by
              refine SpO.setBox ⟨vs ++ [.slice a7 b.length c7], own9, ?_, ?_⟩ bo9
              · have e1 : EachO (w7.alloc (.cells #[.slice a7 b.length c7] 33)) wr.heap.size (vs ++ [.slice a7 b.length c7]) (L ++ [b]) := by
                  refine (HEO.out.keep hb8).snoc (own_less (own7'.alloc _) hzX) (by omega) fun q e hq => ?_
                  have h1 := ownK_base own7' q e
                  obtain ⟨c, hc, _⟩ := HEO.out.blk hq
                  have := hc.lt
                  omega
                exact e1.grewV O8 hg9
              · have o8 : Own (w7.alloc (.cells #[.slice a7 b.length c7] 33)) wr.heap.size (.slice ay F.length cy) F := own_keep HOF.out hb8
                exact ownK_at o8 fun q e => hg9.block q (ownK_lt o8 q e) fun e2 => time_not_rows o8 O8 e e2.symm
            have hbN : Below wr.heap.size wr (w9.setCell ⟨o7, 0, none⟩ (.slice (some ⟨g9, 0, none⟩) (vs.length + 1) cap9)) := (Below.grew (HBW.out.trans (hb8.mono hzX)) hg9 hz8 (ownK_base O8)).setCell (show wr.heap.size ≤ o7 from ho7) _
            have br9 := (Bk.grew (HBR.out.keep hb8) hg9 (fun q e => rows_not_spine O8 (HBR.out.keep hb8) e)).apart (p := ⟨o7, 0, none⟩) (show w.heap.size + 1 ≠ o7 by omega) (.slice (some ⟨g9, 0, none⟩) (vs.length + 1) cap9)
            have HVN : Hid (vs.length + 1 = (L ++ [b]).length) := by show _ = _; rw [HVL.out]; simp
            rw [HVN.out] at HF bo10 br9 hbN ⊢
            go_wp2_with fail
            go_meet
            case rel => exact ⟨rfl, g9, cap9, bo10, HF.out, br9, hbN⟩
        case rest =>
          obtain ⟨rfl, g9, cap9, bo10, spN, br9, hbN⟩ := hcut
          have HF := (show Hid (SpO wc wr.heap.size (.slice (some ⟨g9, 0, none⟩) (L ++ [b]).length cap9) (.slice ay F.length cy) (L ++ [b]) F) from spN)
          have hbwN := bStep hbw hbN
          obtain ⟨z0, z1, _, _⟩ := bo10.two
          clear spN x0 x1 x2 x3 x4 x5 x9 OE RE hbE zE HOV HEO HOF HBX HBR HBW
          generalize (L ++ [b]).length = nN at *
          have SPN := HF.out.spn (by rw [List.length_append]; have := HLX.out; simp; omega) (by omega)
          cases hsp : spokB (L ++ [b]) F
          · have HN : Hid (inB1 L F b = false ∧ inLL L F b = [] ∧ inF L F b = []) := by
              have h1 := HM.out
              rw [HROOM.out] at h1
              exact ⟨by rw [h1.1, hsp], by rw [h1.2.1]; simp [okL, hsp], by rw [h1.2.2]; simp [okF, hsp]⟩
            go_wp2_with fail
            refine (specSpineOk_eq hsp SPN).mono ?_
            rintro e wf ⟨rfl, hbf⟩
            have brf := br9.keep hbf
            have hbwf := bStep hbwN hbf
            clear br9 hbwN hbf z0 z1 SPN bo10
            have q8 := (brf.set 0 (.slice none 0 0)).set 1 (.slice none 0 0)
            have q9 := brf.set 0 (.slice none 0 0)
            obtain ⟨x0, x1, g0, g1⟩ := brf.two
            obtain ⟨y0, y1, h0, h1⟩ := q9.two
            obtain ⟨t0, t1, _, _⟩ := q8.two
            have HB8 : Hid (Below w.heap.size w ((wf.setCell ⟨w.heap.size + 1, 0, none⟩ (.slice none 0 0)).setCell ⟨w.heap.size + 1, 1, none⟩ (.slice none 0 0))) := (hbwf.setCell (show w.heap.size ≤ w.heap.size + 1 by omega) _).setCell (show w.heap.size ≤ w.heap.size + 1 by omega) _
            clear q8 q9 brf hbwf
            go_wp2_with fail
            refine bodyPost_ret (v := .tuple #[spv (.slice none 0 0) (.slice none 0 0), .bool false]) (by simp [results, Tryz.results19, go_sem, t0, t1]) rfl ?_
            exact ⟨_, _, by rw [HN.out.1], by rw [HN.out.2.1, HN.out.2.2]; exact SpO.nil _ _, HB8.out⟩
          · have HN : Hid (inB1 L F b = true ∧ inLL L F b = L ++ [b] ∧ inF L F b = F) := by
              have h1 := HM.out
              rw [HROOM.out] at h1
              exact ⟨by rw [h1.1, hsp], by rw [h1.2.1]; simp [okL, hsp], by rw [h1.2.2]; simp [okF, hsp]⟩
            go_wp2_with fail
            refine (specSpineOk_eq hsp SPN).mono ?_
            rintro e wf ⟨rfl, hbf⟩
            have brf := br9.keep hbf
            have bxf := bo10.keep hbf
            have hbwf := bStep hbwN hbf
            have spf := HF.out.keep hbf
            have q9 := brf.set 0 (.slice (some ⟨g9, 0, none⟩) nN cap9)
            have q8 := q9.set 1 (.slice ay F.length cy)
            obtain ⟨x0, x1, g0, g1⟩ := brf.two
            obtain ⟨y0, y1, h0, h1⟩ := q9.two
            obtain ⟨t0, t1, _, _⟩ := q8.two
            obtain ⟨m0, m1, _, _⟩ := bxf.two
            have HG : Hid (SpO ((wf.setCell ⟨w.heap.size + 1, 0, none⟩ (.slice (some ⟨g9, 0, none⟩) nN cap9)).setCell ⟨w.heap.size + 1, 1, none⟩ (.slice ay F.length cy)) w.heap.size (.slice (some ⟨g9, 0, none⟩) nN cap9) (.slice ay F.length cy) (inLL L F b) (inF L F b) ∧ Below w.heap.size w ((wf.setCell ⟨w.heap.size + 1, 0, none⟩ (.slice (some ⟨g9, 0, none⟩) nN cap9)).setCell ⟨w.heap.size + 1, 1, none⟩ (.slice ay F.length cy))) := by
              refine ⟨?_, (hbwf.setCell (show w.heap.size ≤ w.heap.size + 1 by omega) _).setCell (show w.heap.size ≤ w.heap.size + 1 by omega) _⟩
              rw [HN.out.2.1, HN.out.2.2]
              exact (spf.set2 (by omega)).less (by omega)
            clear q8 q9 brf bxf br9 bo10 hbwf hbwN hbf spf SPN z0 z1
            go_wp2_with fail
            refine bodyPost_ret (v := .tuple #[spv (.slice (some ⟨g9, 0, none⟩) nN cap9) (.slice ay F.length cy), .bool true]) (by simp [results, Tryz.results19, go_sem, t0, t1]) rfl ?_
            exact ⟨_, _, by rw [HN.out.1], HG.out.1, HG.out.2⟩
end Go.Proofs.YtjkojbafifbdgaaGreat
