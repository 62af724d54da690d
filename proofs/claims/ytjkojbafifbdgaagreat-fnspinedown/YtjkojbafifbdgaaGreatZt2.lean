/- Two batches taken together: the contract. -/
import Derived.Test.YtjkojbafifbdgaaGreatZt1
import Derived.Test.YtjkojbafifbdgaaGreatZp1
namespace Go.Proofs.YtjkojbafifbdgaaGreat
open Go.RowKit Go.Shelf

def curN (w : World) (g : Nat) : Nat := match w.cell? ⟨g, 1, none⟩ with | some v => (intOf v).toNat | none => 0
theorem curN_at {w : World} {g : Nat} {v : Value} {k : Nat} {t : TypeId} (h : Bk w g #[v, .int .i64 (k : Int)] t) : curN w g = k := by
  unfold curN; rw [h.two.2.1]; simp [intOf]
theorem rowDiff_field (K V A B D : Int) (u : World) : (Instr.field 74 (rv K V A B D) 3).run Tryz.prog u = .ok (.int .i64 D) u := by kernel_rfl
theorem ltS_eq {s t : Sp} (h1 : ltS s t = false) (h2 : ltS t s = false) : s = t := ltS_ord.tri s t h1 h2
set_option maxRecDepth 100000 in
set_option maxHeartbeats 16000000 in
theorem together_any (av bv : Value) (a b : List Rw) (w : World) (ha : Rs w av a) (hb : Rs w bv b) (hba : bokB a = true) (hbb : bokB b = true) :
    Calls Tryz.prog 84 #[av, bv] w fun e w' => ∃ o : Value, e = .returned o ∧ OwnR w' w.heap.size o (sumL ltS (a ++ b)) ∧ Below w.heap.size w w' := by
  obtain ⟨a1, c1, rfl, -⟩ := Rs.open ha
  obtain ⟨b1, d1, rfl, -⟩ := Rs.open hb
  have HRA := (show Hid (Rs w (.slice a1 a.length c1) a) from ha)
  have HRB := (show Hid (Rs w (.slice b1 b.length d1) b) from hb)
  have hla := rok_len (bok_rok hba)
  have hlb := rok_len (bok_rok hbb)
  have bl0 : Bk ((w.alloc (.cells #[.slice a1 a.length c1, .int .i64 0] 134)).alloc (.cells #[.slice b1 b.length d1, .int .i64 0] 134)) w.heap.size #[.slice a1 a.length c1, .int .i64 ((0 : Nat) : Int)] 134 := (Bk.new _ _ rfl).alloc _
  have br0 : Bk ((w.alloc (.cells #[.slice a1 a.length c1, .int .i64 0] 134)).alloc (.cells #[.slice b1 b.length d1, .int .i64 0] 134)) (w.heap.size + 1) #[.slice b1 b.length d1, .int .i64 ((0 : Nat) : Int)] 134 := Bk.new (w := w.alloc _) _ _ (by simp)
  have hb0 : Below w.heap.size w ((w.alloc (.cells #[.slice a1 a.length c1, .int .i64 0] 134)).alloc (.cells #[.slice b1 b.length d1, .int .i64 0] 134)) := bAlloc (bAlloc (Below.refl _ _) _) _
  have hs0 : w.heap.size + 2 ≤ ((w.alloc (.cells #[.slice a1 a.length c1, .int .i64 0] 134)).alloc (.cells #[.slice b1 b.length d1, .int .i64 0] 134)).heap.size := by simp
  clear ha hb
  go_enter Tryz.func84, Tryz.ntmps84
  go_wp2_with fail
  generalize ((w.alloc (.cells #[.slice a1 a.length c1, .int .i64 0] 134)).alloc (.cells #[.slice b1 b.length d1, .int .i64 0] 134)) = w0 at *
  go_loopw [7] (fun o wr => ∃ (i j : Nat) (M : List Rw), i ≤ a.length ∧ j ≤ b.length ∧ MgI a b i j M ∧ OwnR wr (w.heap.size + 2) o M ∧ Bk wr w.heap.size #[.slice a1 a.length c1, .int .i64 (i : Int)] 134 ∧ Bk wr (w.heap.size + 1) #[.slice b1 b.length d1, .int .i64 (j : Int)] 134 ∧ w.heap.size + 2 ≤ wr.heap.size ∧ Below w.heap.size w wr) (fun _ wr => a.length + b.length - (curN wr w.heap.size + curN wr (w.heap.size + 1)))
  case atStart => exact ⟨0, 0, [], by omega, by omega, MgI.start a b, ownK_nil _ _ _ _ _, bl0, br0, hs0, hb0⟩
  case round =>
    clear bl0 br0 hb0 hs0
    obtain ⟨i, j, M, hi, hj, hmg, hown, bl, br, hsz, hb⟩ := hrel
    have HM := (show Hid (MgI a b i j M) from hmg)
    have HO : Hid (OwnR wr (w.heap.size + 2) u7 M) := hown
    have BL := (show Hid (Bk wr w.heap.size #[.slice a1 a.length c1, .int .i64 (i : Int)] 134) from bl)
    have BR := (show Hid (Bk wr (w.heap.size + 1) #[.slice b1 b.length d1, .int .i64 (j : Int)] 134) from br)
    have CA : Cur wr w.heap.size a i := ⟨_, _, bl, HRA.out.keep hb⟩
    have CB : Cur wr (w.heap.size + 1) b j := ⟨_, _, br, HRB.out.keep hb⟩
    clear hmg hown
    by_cases h1 : i < a.length
    · have hd1 : decide (i < a.length) = true := by simp; omega
      by_cases h2 : j < b.length
      · obtain ⟨s, d, hx⟩ : ∃ s d, a[i]? = some (s, d) := ⟨_, _, List.getElem?_eq_getElem h1⟩
        obtain ⟨t, d', hy⟩ : ∃ s d, b[j]? = some (s, d) := ⟨_, _, List.getElem?_eq_getElem h2⟩
        cases hst : ltS s t
        · cases hts : ltS t s
          · have est : s = t := ltS_eq hst hts
            subst est
            obtain ⟨⟨K, V⟩, A, B⟩ := s
            have hcm : cmpS ((K, V), (A, B)) ((K, V), (A, B)) = 0 := by simp [cmpS, hst]
            obtain ⟨bd1, bd2⟩ := rw_diff (rok_at (bok_rok hba) (List.mem_of_getElem? hx))
            obtain ⟨bd3, bd4⟩ := rw_diff (rok_at (bok_rok hbb) (List.mem_of_getElem? hy))
            simp only at bd1 bd2 bd3 bd4
            go_wp2_with fail
            refine (more_c CA hd1).mono ?_
            rintro e w1 ⟨rfl, hb1⟩
            have bl1 := bl.keep hb1
            have br1 := br.keep hb1
            have hbw1 := bStep hb hb1
            have O1 : OwnR w1 (w.heap.size + 2) u7 M := own_keep HO.out hb1
            have hs1 : w.heap.size + 2 ≤ w1.heap.size := Nat.le_trans hsz hb1.size
            clear HO bl br hb hb1 CA CB hsz
            go_wp2_with fail
            refine (against_3 (⟨_, _, bl1, HRA.out.keep hbw1⟩ : Cur w1 w.heap.size a i) (⟨_, _, br1, HRB.out.keep hbw1⟩ : Cur w1 (w.heap.size + 1) b j) hx hy hcm).mono ?_
            rintro e w2 ⟨rfl, hb2⟩
            have bl2 := bl1.keep hb2
            have br2 := br1.keep hb2
            have hbw2 := bStep hbw1 hb2
            have O2 : OwnR w2 (w.heap.size + 2) u7 M := own_keep O1 hb2
            have hs2 : w.heap.size + 2 ≤ w2.heap.size := Nat.le_trans hs1 hb2.size
            clear O1 bl1 br1 hbw1 hb2 hs1
            go_wp2_with fail
            refine (take_any w.heap.size a1 c1 i a w2 bl2 (HRA.out.keep hbw2) hx (by omega)).mono ?_
            rintro e w3 ⟨rfl, bl3, hk3⟩
            have br3 : Bk w3 (w.heap.size + 1) #[.slice b1 b.length d1, .int .i64 (j : Int)] 134 := by unfold Bk; rw [hk3.block _ br2.lt (by simp)]; exact br2
            have hbw3 : Below w.heap.size w w3 := hk3.below hbw2 (by omega) (by simp)
            have O3 : OwnR w3 (w.heap.size + 2) u7 M := ownK_at O2 fun q e => hk3.block q (ownK_lt O2 q e) (by have := ownK_base O2 q e; simp; omega)
            have hs3 : w.heap.size + 2 ≤ w3.heap.size := Nat.le_trans hs2 hk3.size
            have hml := HM.out.len
            have SL : Hid (∀ q, u7.ownBlock = some q → q < w3.heap.size) := fun q e => ownK_lt O3 q e
            have bx : Bk (w3.alloc (.cells #[.int .i64 K, .int .i64 V, .int .i64 A, .int .i64 B, .int .i64 d] 74)) w3.heap.size #[.int .i64 K, .int .i64 V, .int .i64 A, .int .i64 B, .int .i64 d] 74 := Bk.new _ _ rfl
            have bl4 := bl3.alloc (.cells #[.int .i64 K, .int .i64 V, .int .i64 A, .int .i64 B, .int .i64 d] 74)
            have br4 := br3.alloc (.cells #[.int .i64 K, .int .i64 V, .int .i64 A, .int .i64 B, .int .i64 d] 74)
            have O4 := O3.alloc (.cells #[.int .i64 K, .int .i64 V, .int .i64 A, .int .i64 B, .int .i64 d] 74)
            have hbw4 : Below w.heap.size w (w3.alloc (.cells #[.int .i64 K, .int .i64 V, .int .i64 A, .int .i64 B, .int .i64 d] 74)) := bAlloc hbw3 _
            have hs4 : w.heap.size + 2 ≤ (w3.alloc (.cells #[.int .i64 K, .int .i64 V, .int .i64 A, .int .i64 B, .int .i64 d] 74)).heap.size := by simp; omega
            clear O2 bl2 br2 hbw2 hk3 hs2 bl3 br3 O3 hbw3
            go_wp2_with fail
            generalize (w3.alloc (.cells #[.int .i64 K, .int .i64 V, .int .i64 A, .int .i64 B, .int .i64 d] 74)) = w4 at *
            generalize hG : w3.heap.size = gx at *
            have HX : Hid (∀ W, Kg [w.heap.size + 1] w4 W → W.cell? ⟨gx, 4, none⟩ = some (.int .i64 d) ∧ W.frozen? ⟨gx, 4, none⟩ = false) := fun W hW => by
              have hB : Bk W gx #[.int .i64 K, .int .i64 V, .int .i64 A, .int .i64 B, .int .i64 d] 74 := by unfold Bk; rw [hW.block _ bx.lt (by simp; omega)]; exact bx
              exact ⟨hB.five.2.2.2.2, hB.free 4⟩
            have hcur : Kg [w.heap.size + 1] w4 w4.drew := Kg.of_below (Below.refl _ _).drew
            have RBd := HRB.out.keep hbw4.drew
            have brd := br4.drew
            have hfd := rowDiff_field K V A B d'
            obtain ⟨x4, fx4⟩ := HX.out w4 (Kg.refl _ _)
            obtain ⟨x5, fx5⟩ := HX.out w4.drew hcur
            have hwr : IntKind.i64.wrap (d + d') = d + d' := by rw [IntKind.wrap_i64]; omega
            have hgn : gx ≠ w.heap.size + 1 := by omega
            go_region_with (first | (go_at_call 116; refine (take_any (w.heap.size + 1) b1 d1 j b _ brd RBd hy ?_).mono ?_; omega; rintro e w5 ⟨rfl, br5, hk5⟩; have hcur2 : Kg [w.heap.size + 1] w4 w5 := hcur.trans hk5; obtain ⟨x6, fx6⟩ := HX.out w5 hcur2))
            all_goals
              have bx5 : Bk w5 gx #[.int .i64 K, .int .i64 V, .int .i64 A, .int .i64 B, .int .i64 d] 74 := by unfold Bk; rw [hcur2.block _ bx.lt (by simp; omega)]; exact bx
              have bl5 : Bk w5 w.heap.size #[.slice a1 a.length c1, .int .i64 ((i + 1 : Nat) : Int)] 134 := by unfold Bk; rw [hcur2.block _ bl4.lt (by simp)]; exact bl4
              have O5 : OwnR w5 (w.heap.size + 2) u7 M := ownK_at O4 fun q e => hcur2.block q (ownK_lt O4 q e) (by have := ownK_base O4 q e; simp; omega)
              have hbw5 : Below w.heap.size w w5 := hcur2.below hbw4 (by omega) (by simp)
              have hs5 : w.heap.size + 2 ≤ w5.heap.size := Nat.le_trans hs4 hcur2.size
              have bx6 : Bk (w5.setCell ⟨gx, 4, none⟩ (.int .i64 (d + d'))) gx #[.int .i64 K, .int .i64 V, .int .i64 A, .int .i64 B, .int .i64 (d + d')] 74 := bx5.set 4 _
              have bl6 := bl5.apart (p := ⟨gx, 4, none⟩) (show w.heap.size ≠ gx by omega) (.int .i64 (d + d'))
              have br6 := br5.apart (p := ⟨gx, 4, none⟩) (show w.heap.size + 1 ≠ gx by omega) (.int .i64 (d + d'))
              have O6 : OwnR (w5.setCell ⟨gx, 4, none⟩ (.int .i64 (d + d'))) (w.heap.size + 2) u7 M := ownK_at O5 fun q e => Below.heap_setCell _ _ _ _ (show q ≠ gx from by have := SL.out q e; omega)
              have hbw6 : Below w.heap.size w (w5.setCell ⟨gx, 4, none⟩ (.int .i64 (d + d'))) := hbw5.setCell (show w.heap.size ≤ gx by omega) _
              have hs6 : w.heap.size + 2 ≤ (w5.setCell ⟨gx, 4, none⟩ (.int .i64 (d + d'))).heap.size := by simpa using hs5
              obtain ⟨z0, z1, z2, z3, z4⟩ := bx6.five
              have HN := (show Hid _ from MgI.both HM.out hba hbb hx hy)
              clear x4 fx4 x5 fx5 x6 fx6 bx bx5 bl4 bl5 br4 br5 brd RBd O4 O5 hbw4 hbw5 hcur hcur2 hk5 HX hs4 hs5 hs3 SL
              generalize w5.setCell ⟨gx, 4, none⟩ (.int .i64 (d + d')) = w6 at *
              by_cases h0 : d + d' = 0
              · have h0' : ((d + d') == 0) = true := by simp [h0]
                go_wp2_with fail
                go_roundw
                case rel => exact ⟨i + 1, j + 1, M, by omega, by omega, by have := HN.out; rw [if_pos h0] at this; exact this, O6, bl6, br6, hs6, hbw6⟩
                case measure =>
                  rw [curN_at bl6, curN_at br6, curN_at BL.out, curN_at BR.out]
                  omega
              · have h0' : ((d + d') == 0) = false := by simpa using h0
                go_wp2_with (at_builtin; refine appR _ rfl _ _ rfl (w.heap.size + 2) _ M rfl (O6.alloc _) _ _ _ _ _ _ rfl (Bk.new _ _ rfl) (by omega) (by simp; omega) ?_; intro g7 cap7 w7 own7 hg7 hl7)
                have hbA : Below w.heap.size w (w6.alloc (.cells #[.int .i64 K, .int .i64 V, .int .i64 A, .int .i64 B, .int .i64 (d + d')] 74)) := bAlloc hbw6 _
                have hb7 : Below w.heap.size w w7 := Below.grew hbA hg7 (by simp; omega) (fun q e => by have := ownK_base O6 q e; omega)
                have bl7 := Bk.grew (bl6.alloc _) hg7 (fun q e => by have := ownK_base O6 q e; omega)
                have br7 := Bk.grew (br6.alloc _) hg7 (fun q e => by have := ownK_base O6 q e; omega)
                have hs7 := hg7.size
                have hs8 : w.heap.size + 2 ≤ w7.heap.size := by simp at hs7; omega
                refine ⟨⟨i + 1, j + 1, _, by omega, by omega, by have := HN.out; rw [if_neg h0] at this; exact this, own7, bl7, br7, hs8, hb7⟩, ?_⟩
                rw [curN_at bl7, curN_at br7, curN_at BL.out, curN_at BR.out]
                omega
          · obtain ⟨⟨K, V⟩, A, B⟩ := t
            have hcm : cmpS s ((K, V), (A, B)) = 1 := by simp [cmpS, hst, hts]
            have hlow : ∀ q ∈ a.drop i, ltS ((K, V), (A, B)) q.1 = true := low_drop (x := (((K, V), (A, B)), d')) hba hx hts
            go_wp2_with fail
            refine (more_c CA hd1).mono ?_
            rintro e w1 ⟨rfl, hb1⟩
            have bl1 := bl.keep hb1
            have br1 := br.keep hb1
            have hbw1 := bStep hb hb1
            have O1 : OwnR w1 (w.heap.size + 2) u7 M := own_keep HO.out hb1
            have hs1 : w.heap.size + 2 ≤ w1.heap.size := Nat.le_trans hsz hb1.size
            clear HO bl br hb hb1 CA CB hsz
            go_wp2_with fail
            refine (against_3 (⟨_, _, bl1, HRA.out.keep hbw1⟩ : Cur w1 w.heap.size a i) (⟨_, _, br1, HRB.out.keep hbw1⟩ : Cur w1 (w.heap.size + 1) b j) hx hy hcm).mono ?_
            rintro e w2 ⟨rfl, hb2⟩
            have bl2 := bl1.keep hb2
            have br2 := br1.keep hb2
            have hbw2 := bStep hbw1 hb2
            have O2 : OwnR w2 (w.heap.size + 2) u7 M := own_keep O1 hb2
            have hs2 : w.heap.size + 2 ≤ w2.heap.size := Nat.le_trans hs1 hb2.size
            clear O1 bl1 br1 hbw1 hb2 hs1
            go_wp2_with fail
            refine (take_any (w.heap.size + 1) b1 d1 j b w2 br2 (HRB.out.keep hbw2) hy (by omega)).mono ?_
            rintro e w3 ⟨rfl, br3, hk3⟩
            have bl3 : Bk w3 (w.heap.size) #[.slice a1 a.length c1, .int .i64 (i : Int)] 134 := by unfold Bk; rw [hk3.block _ bl2.lt (by simp)]; exact bl2
            have hbw3 : Below w.heap.size w w3 := hk3.below hbw2 (by omega) (by simp)
            have O3 : OwnR w3 (w.heap.size + 2) u7 M := ownK_at O2 fun q e => hk3.block q (ownK_lt O2 q e) (by have := ownK_base O2 q e; simp; omega)
            have hs3 : w.heap.size + 2 ≤ w3.heap.size := Nat.le_trans hs2 hk3.size
            have hml := HM.out.len
            have HN : Hid (MgI a b (i) (j + 1) (M ++ [(((K, V), (A, B)), d')])) := MgI.right HM.out hbb hy hlow
            clear O2 bl2 br2 hbw2 hk3 hs2
            go_wp2_with (at_builtin; refine appR _ rfl _ _ rfl (w.heap.size + 2) _ M rfl (O3.alloc _) _ _ _ _ _ _ rfl (Bk.new _ _ rfl) (by omega) (by simp; omega) ?_; intro g5 cap5 w5 own5 hg5 hl5)
            have hbA : Below w.heap.size w (w3.alloc (.cells #[.int .i64 K, .int .i64 V, .int .i64 A, .int .i64 B, .int .i64 d'] 74)) := bAlloc hbw3 _
            have hb5 : Below w.heap.size w w5 := Below.grew hbA hg5 (by simp; omega) (fun q e => by have := ownK_base O3 q e; omega)
            have bl5 := Bk.grew (bl3.alloc _) hg5 (fun q e => by have := ownK_base O3 q e; omega)
            have br5 := Bk.grew (br3.alloc _) hg5 (fun q e => by have := ownK_base O3 q e; omega)
            have hs5 := hg5.size
            have hs6 : w.heap.size + 2 ≤ w5.heap.size := by simp at hs5; omega
            refine ⟨⟨i, j + 1, _, by omega, by omega, HN.out, own5, bl5, br5, hs6, hb5⟩, ?_⟩
            rw [curN_at bl5, curN_at br5, curN_at BL.out, curN_at BR.out]
            omega
        · obtain ⟨⟨K, V⟩, A, B⟩ := s
          have hcm : cmpS ((K, V), (A, B)) t = -1 := by simp [cmpS, hst]
          have hlow : ∀ q ∈ b.drop j, ltS ((K, V), (A, B)) q.1 = true := low_drop (x := (((K, V), (A, B)), d)) hbb hy hst
          go_wp2_with fail
          refine (more_c CA hd1).mono ?_
          rintro e w1 ⟨rfl, hb1⟩
          have bl1 := bl.keep hb1
          have br1 := br.keep hb1
          have hbw1 := bStep hb hb1
          have O1 : OwnR w1 (w.heap.size + 2) u7 M := own_keep HO.out hb1
          have hs1 : w.heap.size + 2 ≤ w1.heap.size := Nat.le_trans hsz hb1.size
          clear HO bl br hb hb1 CA CB hsz
          go_wp2_with fail
          refine (against_3 (⟨_, _, bl1, HRA.out.keep hbw1⟩ : Cur w1 w.heap.size a i) (⟨_, _, br1, HRB.out.keep hbw1⟩ : Cur w1 (w.heap.size + 1) b j) hx hy hcm).mono ?_
          rintro e w2 ⟨rfl, hb2⟩
          have bl2 := bl1.keep hb2
          have br2 := br1.keep hb2
          have hbw2 := bStep hbw1 hb2
          have O2 : OwnR w2 (w.heap.size + 2) u7 M := own_keep O1 hb2
          have hs2 : w.heap.size + 2 ≤ w2.heap.size := Nat.le_trans hs1 hb2.size
          clear O1 bl1 br1 hbw1 hb2 hs1
          go_wp2_with fail
          refine (take_any w.heap.size a1 c1 i a w2 bl2 (HRA.out.keep hbw2) hx (by omega)).mono ?_
          rintro e w3 ⟨rfl, bl3, hk3⟩
          have br3 : Bk w3 (w.heap.size + 1) #[.slice b1 b.length d1, .int .i64 (j : Int)] 134 := by unfold Bk; rw [hk3.block _ br2.lt (by simp)]; exact br2
          have hbw3 : Below w.heap.size w w3 := hk3.below hbw2 (by omega) (by simp)
          have O3 : OwnR w3 (w.heap.size + 2) u7 M := ownK_at O2 fun q e => hk3.block q (ownK_lt O2 q e) (by have := ownK_base O2 q e; simp; omega)
          have hs3 : w.heap.size + 2 ≤ w3.heap.size := Nat.le_trans hs2 hk3.size
          have hml := HM.out.len
          have HN : Hid (MgI a b (i + 1) (j) (M ++ [(((K, V), (A, B)), d)])) := MgI.left HM.out hba hx hlow
          clear O2 bl2 br2 hbw2 hk3 hs2
          go_wp2_with (at_builtin; refine appR _ rfl _ _ rfl (w.heap.size + 2) _ M rfl (O3.alloc _) _ _ _ _ _ _ rfl (Bk.new _ _ rfl) (by omega) (by simp; omega) ?_; intro g5 cap5 w5 own5 hg5 hl5)
          have hbA : Below w.heap.size w (w3.alloc (.cells #[.int .i64 K, .int .i64 V, .int .i64 A, .int .i64 B, .int .i64 d] 74)) := bAlloc hbw3 _
          have hb5 : Below w.heap.size w w5 := Below.grew hbA hg5 (by simp; omega) (fun q e => by have := ownK_base O3 q e; omega)
          have bl5 := Bk.grew (bl3.alloc _) hg5 (fun q e => by have := ownK_base O3 q e; omega)
          have br5 := Bk.grew (br3.alloc _) hg5 (fun q e => by have := ownK_base O3 q e; omega)
          have hs5 := hg5.size
          have hs6 : w.heap.size + 2 ≤ w5.heap.size := by simp at hs5; omega
          refine ⟨⟨i + 1, j, _, by omega, by omega, HN.out, own5, bl5, br5, hs6, hb5⟩, ?_⟩
          rw [curN_at bl5, curN_at br5, curN_at BL.out, curN_at BR.out]
          omega
      · obtain ⟨K, V, A, B, D, hx⟩ : ∃ K V A B D, a[i]? = some (((K, V), (A, B)), D) := ⟨_, _, _, _, _, List.getElem?_eq_getElem h1⟩
        have hlow : ∀ q ∈ b.drop j, ltS ((K, V), (A, B)) q.1 = true := none_drop (x := (((K, V), (A, B)), D)) (by omega)
        go_wp2_with fail
        refine (more_c CA hd1).mono ?_
        rintro e w1 ⟨rfl, hb1⟩
        have bl1 := bl.keep hb1
        have br1 := br.keep hb1
        have hbw1 := bStep hb hb1
        have O1 : OwnR w1 (w.heap.size + 2) u7 M := own_keep HO.out hb1
        have hs1 : w.heap.size + 2 ≤ w1.heap.size := Nat.le_trans hsz hb1.size
        clear HO bl br hb hb1 CA CB hsz
        go_wp2_with fail
        refine (against_2 (⟨_, _, bl1, HRA.out.keep hbw1⟩ : Cur w1 w.heap.size a i) h1 (⟨_, _, br1, HRB.out.keep hbw1⟩ : Cur w1 (w.heap.size + 1) b j) (by omega)).mono ?_
        rintro e w2 ⟨rfl, hb2⟩
        have bl2 := bl1.keep hb2
        have br2 := br1.keep hb2
        have hbw2 := bStep hbw1 hb2
        have O2 : OwnR w2 (w.heap.size + 2) u7 M := own_keep O1 hb2
        have hs2 : w.heap.size + 2 ≤ w2.heap.size := Nat.le_trans hs1 hb2.size
        clear O1 bl1 br1 hbw1 hb2 hs1
        go_wp2_with fail
        refine (take_any w.heap.size a1 c1 i a w2 bl2 (HRA.out.keep hbw2) hx (by omega)).mono ?_
        rintro e w3 ⟨rfl, bl3, hk3⟩
        have br3 : Bk w3 (w.heap.size + 1) #[.slice b1 b.length d1, .int .i64 (j : Int)] 134 := by unfold Bk; rw [hk3.block _ br2.lt (by simp)]; exact br2
        have hbw3 : Below w.heap.size w w3 := hk3.below hbw2 (by omega) (by simp)
        have O3 : OwnR w3 (w.heap.size + 2) u7 M := ownK_at O2 fun q e => hk3.block q (ownK_lt O2 q e) (by have := ownK_base O2 q e; simp; omega)
        have hs3 : w.heap.size + 2 ≤ w3.heap.size := Nat.le_trans hs2 hk3.size
        have hml := HM.out.len
        have HN : Hid (MgI a b (i + 1) (j) (M ++ [(((K, V), (A, B)), D)])) := MgI.left HM.out hba hx hlow
        clear O2 bl2 br2 hbw2 hk3 hs2
        go_wp2_with (at_builtin; refine appR _ rfl _ _ rfl (w.heap.size + 2) _ M rfl (O3.alloc _) _ _ _ _ _ _ rfl (Bk.new _ _ rfl) (by omega) (by simp; omega) ?_; intro g5 cap5 w5 own5 hg5 hl5)
        have hbA : Below w.heap.size w (w3.alloc (.cells #[.int .i64 K, .int .i64 V, .int .i64 A, .int .i64 B, .int .i64 D] 74)) := bAlloc hbw3 _
        have hb5 : Below w.heap.size w w5 := Below.grew hbA hg5 (by simp; omega) (fun q e => by have := ownK_base O3 q e; omega)
        have bl5 := Bk.grew (bl3.alloc _) hg5 (fun q e => by have := ownK_base O3 q e; omega)
        have br5 := Bk.grew (br3.alloc _) hg5 (fun q e => by have := ownK_base O3 q e; omega)
        have hs5 := hg5.size
        have hs6 : w.heap.size + 2 ≤ w5.heap.size := by simp at hs5; omega
        refine ⟨⟨i + 1, j, _, by omega, by omega, HN.out, own5, bl5, br5, hs6, hb5⟩, ?_⟩
        rw [curN_at bl5, curN_at br5, curN_at BL.out, curN_at BR.out]
        omega
    · have hd1 : decide (i < a.length) = false := by simp; omega
      by_cases h2 : j < b.length
      · obtain ⟨K, V, A, B, D, hy⟩ : ∃ K V A B D, b[j]? = some (((K, V), (A, B)), D) := ⟨_, _, _, _, _, List.getElem?_eq_getElem h2⟩
        have hd2 : decide (j < b.length) = true := by simp; omega
        have hlow : ∀ q ∈ a.drop i, ltS ((K, V), (A, B)) q.1 = true := none_drop (x := (((K, V), (A, B)), D)) (by omega)
        go_wp2_with fail
        refine (more_c CA hd1).mono ?_
        rintro e w1 ⟨rfl, hb1⟩
        have bl1 := bl.keep hb1
        have br1 := br.keep hb1
        have hbw1 := bStep hb hb1
        have O1 : OwnR w1 (w.heap.size + 2) u7 M := own_keep HO.out hb1
        have hs1 : w.heap.size + 2 ≤ w1.heap.size := Nat.le_trans hsz hb1.size
        clear HO bl br hb hb1 CA CB hsz
        go_wp2_with fail
        refine (more_c (⟨_, _, br1, HRB.out.keep hbw1⟩ : Cur w1 (w.heap.size + 1) b _) hd2).mono ?_
        rintro e w2 ⟨rfl, hb2⟩
        have bl2 := bl1.keep hb2
        have br2 := br1.keep hb2
        have hbw2 := bStep hbw1 hb2
        have O2 : OwnR w2 (w.heap.size + 2) u7 M := own_keep O1 hb2
        have hs2 : w.heap.size + 2 ≤ w2.heap.size := Nat.le_trans hs1 hb2.size
        clear O1 bl1 br1 hbw1 hb2 hs1
        go_wp2_with fail
        refine (against_1 (w.heap.size + 1) (⟨_, _, bl2, HRA.out.keep hbw2⟩ : Cur w2 w.heap.size a i) (by omega)).mono ?_
        rintro e w3 ⟨rfl, hb3⟩
        have bl3 := bl2.keep hb3
        have br3 := br2.keep hb3
        have hbw3 := bStep hbw2 hb3
        have O3 : OwnR w3 (w.heap.size + 2) u7 M := own_keep O2 hb3
        have hs3 : w.heap.size + 2 ≤ w3.heap.size := Nat.le_trans hs2 hb3.size
        clear O2 bl2 br2 hbw2 hb3 hs2
        go_wp2_with fail
        refine (take_any (w.heap.size + 1) b1 d1 j b w3 br3 (HRB.out.keep hbw3) hy (by omega)).mono ?_
        rintro e w4 ⟨rfl, br4, hk4⟩
        have bl4 : Bk w4 (w.heap.size) #[.slice a1 a.length c1, .int .i64 (i : Int)] 134 := by unfold Bk; rw [hk4.block _ bl3.lt (by simp)]; exact bl3
        have hbw4 : Below w.heap.size w w4 := hk4.below hbw3 (by omega) (by simp)
        have O4 : OwnR w4 (w.heap.size + 2) u7 M := ownK_at O3 fun q e => hk4.block q (ownK_lt O3 q e) (by have := ownK_base O3 q e; simp; omega)
        have hs4 : w.heap.size + 2 ≤ w4.heap.size := Nat.le_trans hs3 hk4.size
        have hml := HM.out.len
        have HN : Hid (MgI a b (i) (j + 1) (M ++ [(((K, V), (A, B)), D)])) := MgI.right HM.out hbb hy hlow
        clear O3 bl3 br3 hbw3 hk4 hs3
        go_wp2_with (at_builtin; refine appR _ rfl _ _ rfl (w.heap.size + 2) _ M rfl (O4.alloc _) _ _ _ _ _ _ rfl (Bk.new _ _ rfl) (by omega) (by simp; omega) ?_; intro g5 cap5 w5 own5 hg5 hl5)
        have hbA : Below w.heap.size w (w4.alloc (.cells #[.int .i64 K, .int .i64 V, .int .i64 A, .int .i64 B, .int .i64 D] 74)) := bAlloc hbw4 _
        have hb5 : Below w.heap.size w w5 := Below.grew hbA hg5 (by simp; omega) (fun q e => by have := ownK_base O4 q e; omega)
        have bl5 := Bk.grew (bl4.alloc _) hg5 (fun q e => by have := ownK_base O4 q e; omega)
        have br5 := Bk.grew (br4.alloc _) hg5 (fun q e => by have := ownK_base O4 q e; omega)
        have hs5 := hg5.size
        have hs6 : w.heap.size + 2 ≤ w5.heap.size := by simp at hs5; omega
        refine ⟨⟨i, j + 1, _, by omega, by omega, HN.out, own5, bl5, br5, hs6, hb5⟩, ?_⟩
        rw [curN_at bl5, curN_at br5, curN_at BL.out, curN_at BR.out]
        omega
      · have hd2 : decide (j < b.length) = false := by simp; omega
        obtain rfl : i = a.length := by omega
        obtain rfl : j = b.length := by omega
        go_wp2_with fail
        refine (more_c CA hd1).mono ?_
        rintro e w1 ⟨rfl, hb1⟩
        have bl1 := bl.keep hb1
        have br1 := br.keep hb1
        have hbw1 := bStep hb hb1
        have O1 : OwnR w1 (w.heap.size + 2) u7 M := own_keep HO.out hb1
        have hs1 : w.heap.size + 2 ≤ w1.heap.size := Nat.le_trans hsz hb1.size
        clear HO bl br hb hb1 CA CB hsz
        go_wp2_with fail
        refine (more_c (⟨_, _, br1, HRB.out.keep hbw1⟩ : Cur w1 (w.heap.size + 1) b _) hd2).mono ?_
        rintro e w2 ⟨rfl, hb2⟩
        have bl2 := bl1.keep hb2
        have br2 := br1.keep hb2
        have hbw2 := bStep hbw1 hb2
        have O2 : OwnR w2 (w.heap.size + 2) u7 M := own_keep O1 hb2
        have hs2 : w.heap.size + 2 ≤ w2.heap.size := Nat.le_trans hs1 hb2.size
        clear O1 bl1 br1 hbw1 hb2 hs1
        go_wp2_with fail
        go_ret
        exact ⟨_, rfl, by rw [← HM.out.fin]; exact own_less O2 (by omega), hbw2⟩
end Go.Proofs.YtjkojbafifbdgaaGreat
