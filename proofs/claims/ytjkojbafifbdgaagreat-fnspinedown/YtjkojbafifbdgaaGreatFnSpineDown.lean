/- For all bytes: SpineOk of the program answers of the spine that they draw as the model's; the layers of one that is ok may be made one until one is left, which says the same, and is all that there is, moved; the argument reads afterwards as before. No condition. -/
import Derived.Test.YtjkojbafifbdgaaGreatPf
import Derived.Test.YtjkojbafifbdgaaGreatGx4
namespace Go.Proofs.YtjkojbafifbdgaaGreat
open Go.ChangeShapes Go.WideShapes Go.ChangeAt Go.RowKit Go.Joins

theorem mv_congr {F : List (Int × Int)} {l m : List Rw} (h : ∀ g : Sp → Int, wsum g (moveL F l) = wsum g (moveL F m)) : sumL ltS (moveL F l) = sumL ltS (moveL F m) :=
  sumL_congr ltS_ord fun s => by rw [tot_eq_wsum, tot_eq_wsum, h]
theorem mv_sumL (F : List (Int × Int)) (l : List Rw) : sumL ltS (moveL F (sumL ltS l)) = sumL ltS (moveL F l) :=
  mv_congr fun g => by rw [wsum_move, wsum_move, sumL_wsum ltS_ord]
theorem one_eq (F : List (Int × Int)) (a b : List Rw) : oneL F a b = sumL ltS (moveL F (a ++ b)) := mv_sumL F (a ++ b)
theorem moveL_twice {F : List (Int × Int)} (hf : fokB F = true) {l : List Rw} (h : ∀ r ∈ l, okB r.1.2.1 r.1.2.2 = true) : moveL F (moveL F l) = moveL F l := by
  unfold moveL
  rw [List.map_map]
  refine List.map_congr_left fun r hr => ?_
  have := move_twice hf (h r hr) (mv_pair F r.1.2.1 r.1.2.2)
  show ((r.1.1, moveV F (moveV F r.1.2.1 r.1.2.2).1 (moveV F r.1.2.1 r.1.2.2).2), r.2) = _
  rw [this]
  rfl
theorem mv_next {F : List (Int × Int)} (hf : fokB F = true) (a : List Rw) {l : List Rw} (h : ∀ r ∈ l, okB r.1.2.1 r.1.2.2 = true) : sumL ltS (moveL F (a ++ sumL ltS (moveL F l))) = sumL ltS (moveL F (a ++ l)) :=
  mv_congr fun g => by
    rw [wsum_move, wsum_move, wsum_append, wsum_append, sumL_wsum ltS_ord, ← wsum_move g F (moveL F l), moveL_twice hf h, wsum_move]
/-- The last two made one, so many times. -/
def dn (F : List (Int × Int)) (L : List (List Rw)) : Nat → List (List Rw)
  | 0 => L
  | t + 1 => joinO (dn F L t) F ((dn F L t).length - 2)
theorem dn_all {L : List (List Rw)} {F : List (Int × Int)} (h : spokB L F = true) (ha : absum L.flatten ≤ 99999) : ∀ t, t = 0 ∨ t + 1 ≤ L.length → spokB (dn F L t) F = true ∧ (dn F L t).length = L.length - t ∧ absum (dn F L t).flatten ≤ absum L.flatten ∧ ∀ X Y, askedB F X Y = true → itemsL (dn F L t).flatten X Y = itemsL L.flatten X Y
  | 0, _ => ⟨h, by simp [dn], Int.le_refl _, fun _ _ _ => rfl⟩
  | t + 1, ht => by
    obtain ⟨h1, h2, h3, h4⟩ := dn_all h ha t (by omega)
    have hi : (dn F L t).length - 2 + 2 ≤ (dn F L t).length := by omega
    have hk := join_small h1 hi (by omega)
    refine ⟨hk, ?_, ?_, fun X Y hc => ?_⟩
    · show (joinO _ _ _).length = _
      rw [join_len F hi, h2]; omega
    · exact Int.le_trans (join_abs F hi) h3
    · exact (join_items h1 hi hk hc).trans (h4 X Y hc)
theorem drop_two {L : List (List Rw)} {i : Nat} (h : i + 2 ≤ L.length) : (L.drop i).flatten = gl L i ++ (L.drop (i + 1)).flatten := by
  have e : L.drop i = gl L i :: L.drop (i + 1) := drop_cons (gl_at (by omega))
  rw [e]; rfl
theorem drop_last {L : List (List Rw)} {i : Nat} (h : i + 1 = L.length) : (L.drop i).flatten = gl L i := by
  have e : L.drop i = gl L i :: L.drop (i + 1) := drop_cons (gl_at (by omega))
  rw [e, List.drop_eq_nil_of_le (by omega)]; simp
theorem dn_form {L : List (List Rw)} {F : List (Int × Int)} (h : spokB L F = true) : ∀ t, t + 2 ≤ L.length → dn F L (t + 1) = L.take (L.length - 2 - t) ++ [sumL ltS (moveL F (L.drop (L.length - 2 - t)).flatten)]
  | 0, ht => by
    show joinO L F (L.length - 2) = _
    unfold joinO
    rw [one_eq, drop_two (i := L.length - 2 - 0) (by omega), drop_last (i := L.length - 2 - 0 + 1) (by omega), List.drop_eq_nil_of_le (i := L.length - 2 + 2) (by omega)]
    simp
  | t + 1, ht => by
    have ih := dn_form h t (by omega)
    have hm : L.length - 2 - t = (L.length - 2 - (t + 1)) + 1 := by omega
    generalize hj : L.length - 2 - (t + 1) = j at hm ⊢
    rw [hm] at ih
    have hl : (dn F L (t + 1)).length = j + 2 := by rw [ih, List.length_append, List.length_take]; simp; omega
    show joinO (dn F L (t + 1)) F ((dn F L (t + 1)).length - 2) = _
    rw [hl]
    have g1 : gl (dn F L (t + 1)) j = gl L j := by
      rw [ih]; unfold gl
      rw [List.getD_eq_getElem?_getD, List.getD_eq_getElem?_getD, List.getElem?_append_left (by rw [List.length_take]; omega), List.getElem?_take_of_lt (by omega)]
    have g2 : gl (dn F L (t + 1)) (j + 1) = sumL ltS (moveL F (L.drop (j + 1)).flatten) := by
      rw [ih]; unfold gl
      rw [List.getD_eq_getElem?_getD, List.getElem?_append_right (by rw [List.length_take]; omega), List.length_take, show j + 1 - min (j + 1) L.length = 0 by omega]
      rfl
    have hdr : List.drop (j + 2) (dn F L (t + 1)) = [] := List.drop_eq_nil_of_le (by omega)
    unfold joinO
    rw [show j + 2 - 2 = j by omega, g1, g2, one_eq, mv_next (spok_iff.1 h).2.1 _ (fun r hr => ?_), drop_two (i := j) (by omega), hdr, ih, List.take_append_of_le_length (by rw [List.length_take]; omega), List.take_take, show min j (j + 1) = j by omega]
    · simp
    · obtain ⟨l, hl', hr'⟩ := List.mem_flatten.1 hr
      exact rw_time (rok_at (bok_rok ((spok_iff.1 h).2.2.1 l (List.mem_of_mem_drop hl'))) hr')
theorem dn_last {L : List (List Rw)} {F : List (Int × Int)} (h : spokB L F = true) (ha : absum L.flatten ≤ 99999) (h2 : 2 ≤ L.length) : gl (dn F L (L.length - 1)) 0 = bmoveL (sallL L F) F := by
  have e := dn_form h (L.length - 2) (by omega)
  rw [show L.length - 2 + 1 = L.length - 1 by omega, show L.length - 2 - (L.length - 2) = 0 by omega] at e
  rw [e]
  have hr := spok_rok h
  have e1 : sumF L.flatten = sumL ltS L.flatten := sumF_ok (sum_rok (rok_len hr) (fun r hr' => rw_parts (rok_at hr hr')) ha)
  have e2 : sallL L F = sumF L.flatten := by unfold sallL; rw [if_pos h]
  rw [e2, mv_sum (spok_iff.1 h).2.1 (bok_rok (sumF_bok _)) (Int.le_trans (sumF_absR _) ha), e1, mv_sumL]
  rfl
theorem dn_ask {L : List (List Rw)} {F : List (Int × Int)} (h : spokB L F = true) (ha : absum L.flatten ≤ 99999) {t : Nat} (ht : t = 0 ∨ t + 1 ≤ L.length) : AskL L F (dn F L t) F := fun X Y hX hs => by
  obtain ⟨h1, h2, h3, h4⟩ := dn_all h ha t ht
  have hc : askedB F X Y = true := by simp only [satB, Bool.and_eq_true] at hs; exact hs.2
  exact ⟨satB_yes h hX hc, by unfold satL; rw [satB_yes h hX hc, hs]; simp [h4 X Y hc]⟩
theorem dn_join {L : List (List Rw)} {F : List (Int × Int)} (h : spokB L F = true) (ha : absum L.flatten ≤ 99999) {t : Nat} (ht : t + 2 ≤ L.length) : joinB (dn F L t) F (((dn F L t).length : Int) - 2) = true ∧ joinL (dn F L t) F (((dn F L t).length : Int) - 2) = dn F L (t + 1) ∧ joinF (dn F L t) F (((dn F L t).length : Int) - 2) = F ∧ (dn F L t).length = L.length - t ∧ (dn F L (t + 1)).length = L.length - t - 1 := by
  obtain ⟨h1, h2, h3, h4⟩ := dn_all h ha t (by omega)
  obtain ⟨k1, k2, -, -⟩ := dn_all h ha (t + 1) (by omega)
  obtain ⟨j1, j2, j3⟩ := joinB_yes (L := dn F L t) (F := F) (i := ((dn F L t).length : Int) - 2) (k := (dn F L t).length - 2) h1 (by omega) (by omega)
  have k1' : spokB (joinO (dn F L t) F ((dn F L t).length - 2)) F = true := k1
  have e : joinB (dn F L t) F (((dn F L t).length : Int) - 2) = true := j1.trans k1
  refine ⟨e, ?_, ?_, h2, by omega⟩
  · rw [j2]; unfold okL; rw [if_pos k1']; rfl
  · rw [j3]; unfold okF; rw [if_pos k1']
theorem implAll_d {L : List (List Rw)} {F : List (Int × Int)} {B : List Rw} (e : sallL L F = B) {lv fv : Value} {w : World} (h : Spn w lv fv L F) : Calls Tryz.prog 14 #[spv lv fv] w fun e w' => ∃ o : Value, e = .returned o ∧ Rs w' o B ∧ Below w.heap.size w w' :=
  ofOwnR e (by have := sall_len L F; omega) (implSpineAll_any lv fv L F w h)
theorem implJoin_o {L L' : List (List Rw)} {F F' : List (Int × Int)} {r : Bool} {lv fv : Value} {w : World} {i : Int} (e1 : joinB L F i = r) (e2 : joinL L F i = L') (e3 : joinF L F i = F') (h : Spn w lv fv L F) : Calls Tryz.prog 10 #[spv lv fv, .int .i64 i] w fun e w' => ∃ lv' fv' : Value, e = .returned (.tuple #[spv lv' fv', .bool r]) ∧ SpO w' w.heap.size lv' fv' L' F' ∧ Below w.heap.size w w' := by
  subst e1 e2 e3
  exact implSpineJoin_any lv fv L F i w h
namespace FnSpineDown
set_option maxRecDepth 100000 in
set_option maxHeartbeats 8000000 in
theorem walk (x0 : Option Addr) (len0 cap0 : Nat) (w : World) (h0 : Src w (.slice x0 len0 cap0) len0) :
    Calls Tryz.prog 3 #[.slice x0 len0 cap0] w fun e w' => e = .returned (.bool true) ∧ Below w.heap.size w w' := by
  by_cases g0 : (1048576 : Int) < (len0 : Int)
  · go_enter Tryz.func3, Tryz.ntmps3
    go_wp2_with fail
    go_ret
    exact ⟨rfl, Below.refl _ _⟩
  go_enter Tryz.func3, Tryz.ntmps3
  go_wp2_with fail
  refine (drawSpineOk_any _ _ _ _ h0).mono ?_
  rintro e w1 ⟨lv, fv, L, F, rfl, hd, S_1, hb1⟩
  have hbw1 := hb1
  clear h0 hb1
  obtain ⟨aS, cS, bS, dS, eS1, eS2⟩ := Spn.open S_1
  subst eS1 eS2
  have hbx2 : Below w1.heap.size w1 (w1.alloc (.cells #[.slice aS (L).length cS, .slice bS (F).length dS] 26)) := bAlloc (Below.refl _ _) _
  have BS_2 : Bk (w1.alloc (.cells #[.slice aS (L).length cS, .slice bS (F).length dS] 26)) w1.heap.size #[.slice aS (L).length cS, .slice bS (F).length dS] 26 := Bk.new _ _ rfl
  have S_2 := S_1.keep hbx2
  have hbw2 := bStep hbw1 hbx2
  clear S_1 hbw1 hbx2
  cases hk : spokB L F
  · obtain ⟨yy0_2, yz0_2, _, _⟩ := BS_2.two
    go_wp2_with fail
    clear yy0_2 yz0_2
    refine (implSpineOk_eq hk S_2).mono ?_
    rintro e w3 ⟨rfl, hb3⟩
    have S_3 := S_2.keep hb3
    have BS_3 := BS_2.keep hb3
    have hbw3 := bStep hbw2 hb3
    clear S_2 BS_2 hbw2 hb3
    obtain ⟨yy0_3, yz0_3, _, _⟩ := BS_3.two
    go_wp2_with fail
    clear yy0_3 yz0_3
    refine (specSpineOk_eq hk S_3).mono ?_
    rintro e w4 ⟨rfl, hb4⟩
    have S_4 := S_3.keep hb4
    have BS_4 := BS_3.keep hb4
    have hbw4 := bStep hbw3 hb4
    clear S_3 BS_3 hbw3 hb4
    obtain ⟨yy0_4, yz0_4, _, _⟩ := BS_4.two
    go_wp2_with fail
    clear yy0_4 yz0_4
    refine (specSpineOk_eq hk S_4).mono ?_
    rintro e w5 ⟨rfl, hb5⟩
    have S_5 := S_4.keep hb5
    have BS_5 := BS_4.keep hb5
    have hbw5 := bStep hbw4 hb5
    clear S_4 BS_4 hbw4 hb5
    obtain ⟨yy0_5, yz0_5, _, _⟩ := BS_5.two
    go_wp2_with fail
    clear yy0_5 yz0_5
    go_ret
    exact ⟨rfl, hbw5⟩
  · have HA : Hid (absum L.flatten ≤ 99999) := by have := hd.2.2; show _ ≤ _; omega
    have HK : Hid (spokB L F = true) := hk
    have hl6 := (spok_iff.1 hk).1
    have hF8 := fok_len (spok_iff.1 hk).2.1
    obtain ⟨yy0_2, yz0_2, _, _⟩ := BS_2.two
    go_wp2_with fail
    clear yy0_2 yz0_2
    refine (implSpineOk_eq hk S_2).mono ?_
    rintro e w3 ⟨rfl, hb3⟩
    have S_3 := S_2.keep hb3
    have BS_3 := BS_2.keep hb3
    have hbw3 := bStep hbw2 hb3
    clear S_2 BS_2 hbw2 hb3
    obtain ⟨yy0_3, yz0_3, _, _⟩ := BS_3.two
    go_wp2_with fail
    clear yy0_3 yz0_3
    refine (specSpineOk_eq hk S_3).mono ?_
    rintro e w4 ⟨rfl, hb4⟩
    have S_4 := S_3.keep hb4
    have BS_4 := BS_3.keep hb4
    have hbw4 := bStep hbw3 hb4
    clear S_3 BS_3 hbw3 hb4
    have HS0 := (show Hid (Spn w4 (.slice aS (L).length cS) (.slice bS (F).length dS) L F) from S_4)
    have HBS0 := (show Hid _ from BS_4)
    have HBW0 := (show Hid (Below w.heap.size w w4) from hbw4)
    have hbA : Below w4.heap.size w4 (w4.alloc (.cells #[.slice aS (L).length cS, .slice bS (F).length dS] 26)) := bAlloc (Below.refl _ _) _
    have bX : Bk (w4.alloc (.cells #[.slice aS (L).length cS, .slice bS (F).length dS] 26)) w4.heap.size #[.slice aS (L).length cS, .slice bS (F).length dS] 26 := Bk.new _ _ rfl
    have SX : Spn (w4.alloc (.cells #[.slice aS (L).length cS, .slice bS (F).length dS] 26)) (.slice aS (L).length cS) (.slice bS (F).length dS) L F := Spn.keep S_4 hbA
    obtain ⟨y0, y1, _, _⟩ := BS_4.two
    clear S_4 BS_4 hbw4 hk
    go_wp2_with fail
    go_loopw [7] (fun _ wr => ∃ (t : Nat) (lv1 fv1 : Value), (t = 0 ∨ t + 1 ≤ L.length) ∧ Bk wr w4.heap.size #[lv1, fv1] 26 ∧ Spn wr lv1 fv1 (dn F L t) F ∧ Below w4.heap.size w4 wr) (fun _ wr => lyN wr w4.heap.size)
    case atStart => exact ⟨0, _, _, .inl rfl, bX, SX, hbA⟩
    clear hbA bX SX y0 y1
    obtain ⟨t, lv1, fv1, ht, b1, s1, hb⟩ := hrel
    obtain ⟨a1, c1, a2, c2, e1, e2⟩ := Spn.open s1
    subst e1 e2
    have HLN : Hid ((dn F L t).length = L.length - t) := (dn_all HK.out HA.out t ht).2.1
    have HNX : Hid (∀ h : t + 2 ≤ L.length, joinB (dn F L t) F (((dn F L t).length : Int) - 2) = true ∧ joinL (dn F L t) F (((dn F L t).length : Int) - 2) = dn F L (t + 1) ∧ joinF (dn F L t) F (((dn F L t).length : Int) - 2) = F ∧ (dn F L t).length = L.length - t ∧ (dn F L (t + 1)).length = L.length - t - 1) := fun h => dn_join HK.out HA.out h
    have HAK : Hid (AskL L F (dn F L t) F) := dn_ask HK.out HA.out ht
    have HLA : Hid (2 ≤ L.length → t = L.length - 1 → gl (dn F L t) 0 = bmoveL (sallL L F) F) := fun h e => by rw [e]; exact dn_last HK.out HA.out h
    obtain ⟨L2, hL2⟩ : ∃ x, dn F L (t + 1) = x := ⟨_, rfl⟩
    have HL2 : Hid (dn F L (t + 1) = L2) := hL2
    rw [hL2] at HNX
    clear hL2
    generalize hL1 : dn F L t = L1 at *
    clear hL1
    have HB1 := (show Hid _ from b1)
    have HS1 : Hid (Spn wr (.slice a1 L1.length c1) (.slice a2 F.length c2) L1 F) := s1
    have HLY : Hid (lyN wr w4.heap.size = L1.length) := lyN_eq b1
    have hL16 : L1.length ≤ 6 := by have := HLN.out; omega
    have hbsz := hb.size
    have hblt := b1.lt
    obtain ⟨y0, y1, _, _⟩ := b1.two
    clear b1 s1
    by_cases hgo : 1 < L1.length
    · obtain ⟨j1, j2, j3, j4, j5⟩ := HNX.out (by have := HLN.out; omega)
      have HJ1 := (show Hid _ from j1)
      have HJ2 := (show Hid _ from j2)
      have HJ3 := (show Hid _ from j3)
      have ig : (1 : Int) < (L1.length : Int) := by omega
      have hge : ¬ ((L1.length : Int) ≤ (L2.length : Int)) := by omega
      have hL26 : L2.length ≤ 6 := by omega
      have hL12 : L2.length < L1.length := by omega
      have htl : t + 2 ≤ L.length := by omega
      clear j1 j2 j3 j4 j5 HNX HAK HLA
      go_wp2_with fail
      refine (implJoin_o HJ1.out HJ2.out HJ3.out HS1.out).mono ?_
      rintro e w6 ⟨ly, fy, rfl, spy, hb6⟩
      obtain ⟨a3, c3, a4, c4, e1, e2⟩ := spy.open
      subst e1 e2
      have b7 : Bk (w6.alloc (.cells #[.slice a3 L2.length c3, .slice a4 F.length c4] 26)) w4.heap.size #[.slice a1 L1.length c1, .slice a2 F.length c2] 26 := Bk.keep (Bk.keep HB1.out hb6) (bAlloc (Below.refl _ _) _)
      have HB8 := (show Hid _ from b7.set01 (.slice a3 L2.length c3) (.slice a4 F.length c4))
      have HS8 := (show Hid _ from ((spy.keep (bAlloc (Below.refl _ _) (.cells #[.slice a3 L2.length c3, .slice a4 F.length c4] 26))).set2 (u := .slice a3 L2.length c3) (v := .slice a4 F.length c4) hblt).spn (by omega) (by omega))
      have HB9 := (show Hid _ from (Below.setCell (Below.setCell (bStep hb (bStep hb6 (bAlloc (Below.refl _ _) (.cells #[.slice a3 L2.length c3, .slice a4 F.length c4] 26)))) (p := ⟨w4.heap.size, 0, none⟩) (Nat.le_refl _) (.slice a3 L2.length c3)) (p := ⟨w4.heap.size, 1, none⟩) (Nat.le_refl _) (.slice a4 F.length c4)))
      have HY8 := (show Hid _ from lyN_eq HB8.out)
      obtain ⟨z0, z1, f0, f1⟩ := b7.two
      obtain ⟨z2, z3, f2, f3⟩ := bk_set0 b7 (.slice a3 L2.length c3)
      obtain ⟨u0, u1, _, _⟩ := (Bk.new (w := w6) #[.slice a3 L2.length c3, .slice a4 F.length c4] 26 rfl).two
      clear b7 spy hb6
      go_wp2_with fail
      go_roundw
      case rel => exact ⟨t + 1, _, _, .inr (by omega), HB8.out, by rw [HL2.out]; exact HS8.out, HB9.out⟩
      case measure => rw [HY8.out, HLY.out]; omega
    have HSr : Hid (∀ V, Below wr.heap.size wr V → Spn V (.slice aS (L).length cS) (.slice bS (F).length dS) L F) := fun V hV => Spn.keep HS0.out (bStep hb hV)
    have HXr : Hid (∀ V, Below wr.heap.size wr V → Spn V (.slice a1 L1.length c1) (.slice a2 F.length c2) L1 F) := fun V hV => Spn.keep HS1.out hV
    have HC : Hid (∀ V, Below wr.heap.size wr V → V.cell? ⟨w1.heap.size, 0, none⟩ = some (.slice aS (L).length cS) ∧ V.cell? ⟨w1.heap.size, 1, none⟩ = some (.slice bS (F).length dS) ∧ V.cell? ⟨w4.heap.size, 0, none⟩ = some (.slice a1 L1.length c1) ∧ V.cell? ⟨w4.heap.size, 1, none⟩ = some (.slice a2 F.length c2)) :=
      fun V hV => ⟨(Bk.keep HBS0.out (bStep hb hV)).two.1, (Bk.keep HBS0.out (bStep hb hV)).two.2.1, (Bk.keep HB1.out hV).two.1, (Bk.keep HB1.out hV).two.2.1⟩
    have HBE : Hid (Below w.heap.size w wr) := bStep HBW0.out hb
    have hbD : Below wr.heap.size wr wr.drew := (Below.refl _ _).drew
    have ig : ¬ ((1 : Int) < (L1.length : Int)) := by omega
    clear HNX HL2
    obtain ⟨x0, x1, x2, x3⟩ := HC.out _ hbD
    by_cases h2 : 2 ≤ L.length
    · have hL1n : Hid (L1.length = 1) := by have := HLN.out; show _ = _; omega
      have HGL : Hid (gl L1 0 = bmoveL (sallL L F) F) := HLA.out h2 (by have := HLN.out; omega)
      have i0 : ((L1.length : Int) == 0) = false := by simp; have := hL1n.out; intro h; rw [h] at this; simp at this
      have i1 : ¬ ((L.length : Int) < 2) := by omega
      have i1a : decide ((L.length : Int) < 2) = false := by simp; omega
      have i1b : decide (L.length < 2) = false := by simp; omega
      have i0a : decide (L1.length = 0) = false := by have := hL1n.out; simp; intro h; rw [h] at this; simp at this
      have i0b : (L1.length == 0) = false := by have := hL1n.out; simp; intro h; rw [h] at this; simp at this
      have i2 : (0 : Int) < (L1.length : Int) := by have := hL1n.out; omega
      have i2b : 0 < L1.length := by have := hL1n.out; omega
      obtain ⟨a1', c1', eX, hcX, hmX, hnX, hcellX⟩ := Ly.open HS1.out.1
      obtain ⟨eX1, -, eX2⟩ := Value.slice.inj eX
      unfold maxLen at hmX
      clear eX
      subst eX1 eX2
      obtain ⟨g1, o1, ad1, cp1, e1', hg1, z1, hR1⟩ := hcellX 0 (by have := hL1n.out; omega)
      clear hcellX
      subst e1'
      rw [HGL.out] at z1 hR1
      obtain ⟨B, hB⟩ : ∃ x, sallL L F = x := ⟨_, rfl⟩
      obtain ⟨Q, hQ⟩ : ∃ x, bmoveL B F = x := ⟨_, rfl⟩
      rw [hB, hQ] at z1 hR1
      have HB : Hid (sallL L F = B) := hB
      have HQ : Hid (bmoveL B F = Q) := hQ
      have HC2 : Hid (∀ V, Below wr.heap.size wr V → V.cell? ⟨w1.heap.size, 0, none⟩ = some (.slice aS (L).length cS) ∧ V.cell? ⟨w1.heap.size, 1, none⟩ = some (.slice bS (F).length dS) ∧ V.cell? ⟨w4.heap.size, 0, none⟩ = some (.slice (some ⟨g1, o1, none⟩) L1.length c1) ∧ V.cell? ⟨w4.heap.size, 1, none⟩ = some (.slice a2 F.length c2) ∧ V.cell? ⟨g1, o1, none⟩ = some (.slice ad1 Q.length cp1)) :=
        fun V hV => ⟨(HC.out V hV).1, (HC.out V hV).2.1, (HC.out V hV).2.2.1, (HC.out V hV).2.2.2, cell_below hV z1⟩
      have HR1 : Hid (∀ V, Below wr.heap.size wr V → Rs V (.slice ad1 Q.length cp1) Q) := fun V hV => hR1.keep hV
      clear hB hQ z1 hR1 x0 x1 x2 x3
      go_wp2_with fail
      go_region_held3 (fun V => V.cell? ⟨w1.heap.size, 0, none⟩ = some (.slice aS (L).length cS) ∧ V.cell? ⟨w1.heap.size, 1, none⟩ = some (.slice bS (F).length dS) ∧ V.cell? ⟨w4.heap.size, 0, none⟩ = some (.slice (some ⟨g1, o1, none⟩) L1.length c1) ∧ V.cell? ⟨w4.heap.size, 1, none⟩ = some (.slice a2 F.length c2) ∧ V.cell? ⟨g1, o1, none⟩ = some (.slice ad1 Q.length cp1))
        (first | exact HC2.out _ hbD | exact HC2.out _ hbna | exact HC2.out _ hbnb | exact HC2.out _ hbnc | exact HC2.out _ hbnd)
        (first
          | (go_at_call 11; refine (lwAsk_yes HAK.out (HSr.out _ hbD) (HXr.out _ hbD)).mono ?_; rintro e wa ⟨rfl, hba⟩; have hbna : Below wr.heap.size wr wa := bStep hbD hba)
          | (go_at_call 14; refine (implAll_d HB.out (HSr.out _ hbna)).mono ?_; rintro e wb ⟨ob, rfl, rsb, hbb⟩; have hbnb : Below wr.heap.size wr wb := bStep hbna hbb; have HTF := (show Hid _ from (HSr.out _ hbnb).2))
          | (go_at_call 13; refine (implMoveB_k HQ.out rsb HTF.out).mono ?_; rintro e wc ⟨oc, rfl, rsc, hbc⟩; have hbnc : Below wr.heap.size wr wc := bStep hbnb hbc)
          | (go_at_call 12; refine (lwRows_eq (selfR _) (HR1.out _ hbnc) rsc).mono ?_; rintro e wd ⟨rfl, hbd⟩; have hbnd : Below wr.heap.size wr wd := bStep hbnc hbd))
      all_goals
        go_wp2_with fail
        go_ret
        exact ⟨rfl, bStep HBE.out hbnd⟩
    by_cases h0 : L.length = 0
    · have i0 : ((L1.length : Int) == 0) = true := by have h : L1.length = 0 := (by have := HLN.out; omega); simp [h]
      have i0b : (L1.length == 0) = true := by have h : L1.length = 0 := (by have := HLN.out; omega); simp [h]
      clear h0
      have d0 : ∀ p : Bel wr, p.ww.cell? ⟨w1.heap.size, 0, none⟩ = some (.slice aS (L).length cS) := fun p => (HC.out _ p.below).1
      have d1 : ∀ p : Bel wr, p.ww.cell? ⟨w1.heap.size, 1, none⟩ = some (.slice bS (F).length dS) := fun p => (HC.out _ p.below).2.1
      have d2 : ∀ p : Bel wr, p.ww.cell? ⟨w4.heap.size, 0, none⟩ = some (.slice a1 L1.length c1) := fun p => (HC.out _ p.below).2.2.1
      have d3 : ∀ p : Bel wr, p.ww.cell? ⟨w4.heap.size, 1, none⟩ = some (.slice a2 F.length c2) := fun p => (HC.out _ p.below).2.2.2
      have RB : ∀ p : Bel wr, Spn p.ww (.slice aS (L).length cS) (.slice bS (F).length dS) L F := fun p => HSr.out _ p.below
      have RB' : ∀ p : Bel wr, Spn p.ww (.slice a1 L1.length c1) (.slice a2 F.length c2) L1 F := fun p => HXr.out _ p.below
      have hne := bel_some wr
      go_wp2_with fail
      (refine wp_region_bel (by kernel_rfl) (by kernel_rfl) ?_; (repeat (go_big_quiet_step ((first | (go_at_call 11; exact calls_bel (lwAsk_yes HAK.out (RB _) (RB' _))))))); refine wpQuiet_nil ?_)
      intro w3 hw3
      replace hw3 := bel_out hw3
      go_wp2_with fail
      go_ret
      exact ⟨rfl, bStep HBE.out hw3⟩
    have i0 : ((L1.length : Int) == 0) = false := by have h : (L1.length : Int) ≠ 0 := (by have := HLN.out; omega); simpa using h
    have i1 : (L.length : Int) < 2 := by omega
    have i1a : decide ((L.length : Int) < 2) = true := by simp; omega
    have i1b : decide (L.length < 2) = true := by simp; omega
    have i0b : (L1.length == 0) = false := by have h : L1.length ≠ 0 := (by have := HLN.out; omega); simpa using h
    have d0 : ∀ p : Bel wr, p.ww.cell? ⟨w1.heap.size, 0, none⟩ = some (.slice aS (L).length cS) := fun p => (HC.out _ p.below).1
    have d1 : ∀ p : Bel wr, p.ww.cell? ⟨w1.heap.size, 1, none⟩ = some (.slice bS (F).length dS) := fun p => (HC.out _ p.below).2.1
    have d2 : ∀ p : Bel wr, p.ww.cell? ⟨w4.heap.size, 0, none⟩ = some (.slice a1 L1.length c1) := fun p => (HC.out _ p.below).2.2.1
    have d3 : ∀ p : Bel wr, p.ww.cell? ⟨w4.heap.size, 1, none⟩ = some (.slice a2 F.length c2) := fun p => (HC.out _ p.below).2.2.2
    have RB : ∀ p : Bel wr, Spn p.ww (.slice aS (L).length cS) (.slice bS (F).length dS) L F := fun p => HSr.out _ p.below
    have RB' : ∀ p : Bel wr, Spn p.ww (.slice a1 L1.length c1) (.slice a2 F.length c2) L1 F := fun p => HXr.out _ p.below
    have hne := bel_some wr
    go_wp2_with fail
    (refine wp_region_bel (by kernel_rfl) (by kernel_rfl) ?_; (repeat (go_big_quiet_step ((first | (go_at_call 11; exact calls_bel (lwAsk_yes HAK.out (RB _) (RB' _))))))); refine wpQuiet_nil ?_)
    intro w3 hw3
    replace hw3 := bel_out hw3
    go_wp2_with fail
    go_ret
    exact ⟨rfl, bStep HBE.out hw3⟩
end FnSpineDown
namespace RowFnSpineDown
theorem own : ownKnob Tryz.prog.godebug = none := by kernel_rfl
set_option maxRecDepth 100000 in
theorem lifted (os : Os) (started : os.Started) (H : Type) (enc : TypeId × Value → H) :
    ReturnsInHanded {} Tryz.checked os 3 .any (Rows.fnSpineDownSpec.pre6 enc Tryz.prog Tryz.f3 Rows.fnSpineDownRow.domain false) (Rows.fnSpineDownSpec.post enc Tryz.prog Tryz.f3 false true false false) := by
  refine returnsInHanded_of_change (C := Tryz.checked) own started (by kernel_rfl) Tryz.func3
    (ChangeSpec.witness6 (enc := enc) (C := Tryz.checked) false ⟨#[], #[.slice none 0 0], []⟩ 8 (by kernel_rfl) (by kernel_rfl) (by kernel_rfl) (by kernel_rfl)) ?_
  intro W base args ds gs before hval0 hW hcnd _
  have hval : ∀ (j : Nat) t v, Tryz.f3.params[j]? = some t → args[j]? = some v → Value.okWide Tryz.prog W .any base t v := hval0
  have hW' := hW
  obtain ⟨p, q, hA0, hV, rfl, hfz, hnd⟩ := hW
  have hA : DataW.TrodAll enc Tryz.prog W 0 (fun _ => true) true Tryz.f3.params.toList args.toList ds p := hA0
  rw [Tryz.params3] at hA hval
  obtain ⟨v0, vs0, d0, ds0, p0, q0, hargs, rfl, rfl, h0, r0⟩ := trodAll_cons hA
  obtain ⟨rfl, rfl, rfl⟩ := trodAll_nil r0
  obtain rfl : args = #[v0] := by cases args; simp_all
  obtain ⟨rfl, rfl⟩ := trodVars_none hV
  obtain ⟨a0, len0, cap0, rfl⟩ := okWide_slice Tryz.underlying22 (hval 0 22 v0 rfl rfl)
  have k0 := h0
  have lt0 : ∀ x ∈ p0, x.block < W.heap.size := by obtain ⟨m, hm⟩ := k0; exact DataW.trod_lt m _ _ _ hm
  have w0 : Src W (.slice a0 len0 cap0) len0 := by
    obtain ⟨fuel, hf⟩ := h0
    rcases open_ints Tryz.underlying22 Tryz.underlying5 (by kernel_rfl) hf with ⟨hcs, _⟩ | ⟨x, l, c, zs, hcs, _, hl, hm, hz, _, hcell, hwz⟩
    · simp [Value.cells] at hcs
      obtain ⟨rfl, rfl, rfl⟩ := hcs
      exact Src.nil _
    · simp [Value.cells] at hcs
      obtain ⟨rfl, rfl, rfl⟩ := hcs
      exact Src.of_row hl hm (by simpa using hz) hcell hwz
  clear hA0 hval0
  refine (FnSpineDown.walk a0 len0 cap0 W w0).mono fun e W' ⟨he, bel⟩ => ?_
  subst he
  exact ⟨_, rfl, _, _, _, [], _, [], hW', trodAll_mk1 (shut_bool Tryz.underlying4 _), (trodAll_cons_mk (Below.trod pfLaid (by kernel_rfl) (of_decide_eq_true (by kernel_rfl)) k0 bel lt0) trodAll_mk0), rfl, bel.frame _, fun h => by cases h⟩
set_option maxHeartbeats 4000000 in
theorem closed : joinedFacts Tryz.prog 3 Tryz.f3 Rows.fnSpineDownSpec Rows.fnSpineDownRow = true := by
  unfold joinedFacts
  exact (andB (andB (andB (andB (andB (andB (andB (andB (andB (andB (andB (andB (andB (andB (andB (andB (andB (andB (andB (andB (andB (andB (andB (andB (andB (andB (andB (andB (andB (andB (andB (by as_aux_lemma => kernel_rfl) pfLaid) pfRowed) (by as_aux_lemma => kernel_rfl)) (by as_aux_lemma => kernel_rfl)) (by as_aux_lemma => kernel_rfl)) (by as_aux_lemma => kernel_rfl)) (by as_aux_lemma => kernel_rfl)) (by as_aux_lemma => kernel_rfl)) (by as_aux_lemma => kernel_rfl)) (by as_aux_lemma => kernel_rfl)) (by as_aux_lemma => kernel_rfl)) (by as_aux_lemma => kernel_rfl)) (by as_aux_lemma => kernel_rfl)) (by as_aux_lemma => kernel_rfl)) (by as_aux_lemma => kernel_rfl)) (by as_aux_lemma => kernel_rfl)) (by as_aux_lemma => kernel_rfl)) (by as_aux_lemma => kernel_rfl)) (by as_aux_lemma => kernel_rfl)) (by as_aux_lemma => kernel_rfl)) (by as_aux_lemma => kernel_rfl)) (by as_aux_lemma => kernel_rfl)) (by as_aux_lemma => kernel_rfl)) pfHeard) pfEnter) (pfLiftB rfl)) (pfMakeB rfl)) (by as_aux_lemma => kernel_rfl)) (by as_aux_lemma => kernel_rfl)) (by as_aux_lemma => kernel_rfl)) (by as_aux_lemma => kernel_rfl))
theorem over : Rows.fnSpineDownRow.holds Tryz.pinned (OpenSpec.ofChange Rows.fnSpineDownSpec) :=
  OpenClaim.holds_of_wide 3 Tryz.f3 rfl rfl rfl rfl rfl rfl rfl ⟨rfl, rfl, rfl, rfl, rfl⟩ rfl rfl rfl rfl rfl (by kernel_rfl) Tryz.func3 closed
    (of_decide_eq_true (by kernel_rfl)) (by unfold Func.isWrapper; first | (rw [if_pos (by decide +kernel)]; kernel_rfl) | (rw [if_neg (by decide +kernel)]; exact ⟨rfl, rfl⟩))
    (fun os started H enc _ => lifted os started H enc)
end RowFnSpineDown
theorem fnSpineDown_holds : Rows.FnSpineDownSaid := RowFnSpineDown.over
end Go.Proofs.YtjkojbafifbdgaaGreat
