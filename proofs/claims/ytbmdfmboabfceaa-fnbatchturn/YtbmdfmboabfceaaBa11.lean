/- What the model's putting of a row into a batch answers: the contract. -/
import Derived.Test.YtbmdfmboabfceaaBa10
import Derived.Deep.Cut
namespace Go.Proofs.Ytbmdfmboabfceaa
open Go.RowKit

set_option maxRecDepth 100000 in
set_option maxHeartbeats 16000000 in
theorem l2Put_any (v : Value) (l : List Rw) (K V A B D : Int) (w : World) (h : Rs w v l) (hl : l.length ≤ 1000000)
    (hov : ∀ x ∈ l, x.1 = ((K, V), (A, B)) → -4611686018427387904 ≤ D + x.2 ∧ D + x.2 ≤ 4611686018427387904) :
    Calls Try.prog 154 #[v, rv K V A B D] w fun e w' => ∃ o : Value, e = .returned o ∧ OwnR w' w.heap.size o (putL ltS (((K, V), (A, B)), D) l) ∧ Below w.heap.size w w' := by
  have b0 := (Bk.new (w := w) #[.int .i64 K, .int .i64 V, .int .i64 A, .int .i64 B, .int .i64 D] 33 rfl).alloc (.cells #[] 33)
  have o0 := ownR_empty (w.alloc (.cells #[.int .i64 K, .int .i64 V, .int .i64 A, .int .i64 B, .int .i64 D] 33)) (B := w.heap.size + 1) (by simp)
  have hb0 := bAlloc (bAlloc (Below.refl w.heap.size w) (.cells #[.int .i64 K, .int .i64 V, .int .i64 A, .int .i64 B, .int .i64 D] 33)) (.cells #[] 33)
  have HOV : Hid _ := hov
  obtain ⟨a, cap, rfl, hc, hm, hn, hcells⟩ := Rs.open h
  unfold maxLen at hm
  have HC := (show Hid _ from hcells)
  clear hcells h hov
  go_enter Try.func154, Try.ntmps154
  go_wp2_with fail
  go_loopw [5, 6, 7] (fun o dn i wr => ∃ (k : Nat) (bd : Bool) (L : List Rw) (D' : Int), k ≤ l.length ∧ i = .int .i64 k ∧ dn = .bool bd ∧ PutAt (((K, V), (A, B)), D) l L k D' bd ∧ OwnR wr (w.heap.size + 1) o L ∧ Bk wr w.heap.size #[.int .i64 K, .int .i64 V, .int .i64 A, .int .i64 B, .int .i64 D'] 33 ∧ w.heap.size + 1 ≤ wr.heap.size ∧ Below w.heap.size w wr) (fun _ _ i _ => l.length - (intOf i).toNat)
  case atStart => exact ⟨0, false, [], D, by omega, rfl, rfl, PutAt.start _ _, o0, b0, by simp, hb0⟩
  case round =>
    clear o0 b0 hb0
    obtain ⟨k, bd, L, D', hk, rfl, rfl, hput, hown, hbk, hsz, hb⟩ := hrel
    have HP := (show Hid _ from hput)
    have HO : Hid (OwnR wr (w.heap.size + 1) u5 L) := hown
    have hL := hput.len
    clear hput hown
    by_cases hlt : k < l.length
    · obtain ⟨g, off, K', V', A', B', D0, rfl, hg, hr, c0, c1, c2, c3, c4⟩ := HC.out k hlt
      have d0 : ∀ p : Bel wr, p.ww.cell? ⟨g, off + k * 5, none⟩ = some (.int .i64 K') := fun p => cell_below p.below (cell_below hb c0)
      have d1 : ∀ p : Bel wr, p.ww.cell? ⟨g, off + k * 5 + 1, none⟩ = some (.int .i64 V') := fun p => cell_below p.below (cell_below hb c1)
      have d2 : ∀ p : Bel wr, p.ww.cell? ⟨g, off + k * 5 + 2, none⟩ = some (.int .i64 A') := fun p => cell_below p.below (cell_below hb c2)
      have d3 : ∀ p : Bel wr, p.ww.cell? ⟨g, off + k * 5 + 3, none⟩ = some (.int .i64 B') := fun p => cell_below p.below (cell_below hb c3)
      have d4 : ∀ p : Bel wr, p.ww.cell? ⟨g, off + k * 5 + 4, none⟩ = some (.int .i64 D0) := fun p => cell_below p.below (cell_below hb c4)
      have t0 : ∀ p : Bel wr, p.ww.cell? ⟨w.heap.size, 0, none⟩ = some (.int .i64 K) := fun p => (hbk.keep p.below).five.1
      have t1 : ∀ p : Bel wr, p.ww.cell? ⟨w.heap.size, 1, none⟩ = some (.int .i64 V) := fun p => (hbk.keep p.below).five.2.1
      have t2 : ∀ p : Bel wr, p.ww.cell? ⟨w.heap.size, 2, none⟩ = some (.int .i64 A) := fun p => (hbk.keep p.below).five.2.2.1
      have t3 : ∀ p : Bel wr, p.ww.cell? ⟨w.heap.size, 3, none⟩ = some (.int .i64 B) := fun p => (hbk.keep p.below).five.2.2.2.1
      have t4 : ∀ p : Bel wr, p.ww.cell? ⟨w.heap.size, 4, none⟩ = some (.int .i64 D') := fun p => (hbk.keep p.below).five.2.2.2.2
      have HR := (show Hid _ from hr)
      have HX : Hid (∀ W, Below w.heap.size w W → W.cell? ⟨g, off + k * 5, none⟩ = some (.int .i64 K') ∧ W.cell? ⟨g, off + k * 5 + 1, none⟩ = some (.int .i64 V') ∧ W.cell? ⟨g, off + k * 5 + 2, none⟩ = some (.int .i64 A') ∧ W.cell? ⟨g, off + k * 5 + 3, none⟩ = some (.int .i64 B') ∧ W.cell? ⟨g, off + k * 5 + 4, none⟩ = some (.int .i64 D0)) :=
        fun W hW => ⟨cell_below hW c0, cell_below hW c1, cell_below hW c2, cell_below hW c3, cell_below hW c4⟩
      clear c0 c1 c2 c3 c4 hr
      have hne := bel_some wr
      have ik : ((k : Int) < (l.length : Int)) := by omega
      have hcl := cmpS_lt ((K', V'), (A', B')) ((K, V), (A, B))
      have hcg := cmpS_gt ((K', V'), (A', B')) ((K, V), (A, B))
      obtain ⟨r, hcr⟩ : ∃ r, cmpS ((K', V'), (A', B')) ((K, V), (A, B)) = r := ⟨_, rfl⟩
      rw [hcr] at hcl hcg
      go_wp2_with fail
      (refine wp_region_bel (by kernel_rfl) (by kernel_rfl) ?_; (repeat (go_big_quiet_step ((first | (go_at_call 110; exact calls_bel (l2Comp_eq (by with_reducible assumption) _)))))); refine wpQuiet_nil ?_)
      intro w1 hw1
      replace hw1 := bel_out hw1
      have hb1 := bStep hb hw1
      have hbk1 := hbk.keep hw1
      have HO1 : Hid (OwnR w1 (w.heap.size + 1) u5 L) := own_keep HO.out hw1
      have hsz1 : w.heap.size + 1 ≤ w1.heap.size := Nat.le_trans hsz hw1.size
      obtain ⟨x0, x1, x2, x3, x4⟩ := HX.out w1 hb1
      obtain ⟨y0, y1, y2, y3, y4⟩ := hbk1.five
      clear d0 d1 d2 d3 d4 t0 t1 t2 t3 t4 hne HO hbk hb
      cases bd
      · have hDD : D' = D := HP.out.same_d
        subst hDD
        cases hgt : ltS ((K, V), (A, B)) ((K', V'), (A', B'))
        · cases hls : ltS ((K', V'), (A', B')) ((K, V), (A, B))
          · -- the same
            have hkey := ltS_ord.tri _ _ hls hgt
            simp only [Prod.mk.injEq] at hkey
            obtain ⟨⟨rfl, rfl⟩, rfl, rfl⟩ := hkey
            have hr0 : r = 0 := by rw [hls] at hcl; rw [hgt] at hcg; simp at hcl hcg; omega
            subst hr0
            obtain ⟨ov1, ov2⟩ := HOV.out _ (List.mem_of_getElem? HR.out) rfl
            dsimp only at ov1 ov2
            have HZ := (show Hid _ from HP.out.same HR.out hgt hls (D' + D0))
            have iw : IntKind.i64.wrap (D' + D0) = D' + D0 := by rw [IntKind.wrap_i64]; omega
            have f4 := hbk1.free 4
            clear hcl hcg hcr hgt hls HP
            go_upto_region 11 with fail
            have hbk2 := (hbk1.set 4 (.int .i64 (D' + D0))).drew
            have hb2 : Below w.heap.size w (w1.setCell ⟨w.heap.size, 4, none⟩ (.int .i64 (D' + D0))).drew := (hb1.setCell (by simp) _).drew
            have O2 : OwnR (w1.setCell ⟨w.heap.size, 4, none⟩ (.int .i64 (D' + D0))).drew (w.heap.size + 1) u5 L := own_move HO1.out fun q hq _ => Below.heap_setCell _ _ _ _ (by simp; omega)
            have hs2 : w.heap.size + 1 ≤ (w1.setCell ⟨w.heap.size, 4, none⟩ (.int .i64 (D' + D0))).drew.heap.size := by simpa using hsz1
            go_region
            generalize World.drew _ = w2 at *
            have hbk2' : Bk w2 w.heap.size #[.int .i64 K', .int .i64 V', .int .i64 A', .int .i64 B', .int .i64 (D' + D0)] 33 := hbk2
            obtain ⟨z0, z1, z2, z3, z4⟩ := hbk2'.five
            clear x0 x1 x2 x3 x4 y0 y1 y2 y3 y4 f4 hbk2 hbk1 hb1 hw1 HO1
            go_wp2_with (at_builtin; refine appR _ rfl _ _ rfl (w.heap.size + 1) _ _ rfl (O2.alloc _) _ _ _ _ _ _ rfl (Bk.new _ _ rfl) (by omega) (by simp; omega) ?_; intro g3 cap3 w3 own3 hgrow hlg)
            have hb3 : Below w.heap.size w w3 := Below.grew (bAlloc hb2 _) hgrow (by simp; omega) (fun q e => by have := ownK_base O2 q e; omega)
            have hbk3 := (hbk2'.alloc _).grew hgrow (fun q e => by have := ownK_base O2 q e; omega)
            have hs3 : w.heap.size + 1 ≤ w3.heap.size := by have := hgrow.size; simp at this; omega
            go_roundw
            case rel => exact ⟨k + 1, true, _, _, by omega, by go_num, rfl, HZ.out, own3, hbk3, hs3, hb3⟩
            case measure => simp [intOf]; omega
          · -- before
            have hr0 : decide (r > 0) = false := by rw [hls] at hcl; rw [hgt] at hcg; simp at hcl hcg ⊢; omega
            have hr1 : (r == 0) = false := by rw [hls] at hcl; simp at hcl ⊢; omega
            have HZ := (show Hid _ from HP.out.before HR.out hls)
            have O1 := HO1.out
            clear hcl hcg hcr hgt hls HP HO1
            go_wp2_with (at_builtin; refine appR _ rfl _ _ rfl (w.heap.size + 1) _ _ rfl (O1.alloc _) _ _ _ _ _ _ rfl (Bk.new _ _ rfl) (by omega) (by simp; omega) ?_; intro g3 cap3 w3 own3 hgrow hlg)
            have hb3 : Below w.heap.size w w3 := Below.grew (bAlloc hb1 _) hgrow (by simp; omega) (fun q e => by have := ownK_base O1 q e; omega)
            have hbk3 := (hbk1.alloc _).grew hgrow (fun q e => by have := ownK_base O1 q e; omega)
            have hs3 : w.heap.size + 1 ≤ w3.heap.size := by have := hgrow.size; simp at this; omega
            go_roundw
            case rel => exact ⟨k + 1, false, _, _, by omega, by go_num, rfl, HZ.out, own3, hbk3, hs3, hb3⟩
            case measure => simp [intOf]; omega
        · -- here
          have hr0 : decide (r > 0) = true := by rw [hgt] at hcg; simp at hcg ⊢; omega
          have HZ := (show Hid _ from HP.out.here HR.out hgt)
          have O1 := HO1.out
          clear hcl hcg hcr hgt HP HO1
          go_upto_region 10 with (at_builtin; refine appR _ rfl _ _ rfl (w.heap.size + 1) _ _ rfl (O1.alloc _) _ _ _ _ _ _ rfl (Bk.new _ _ rfl) (by omega) (by simp; omega) ?_; intro g3 cap3 w3 own3 hgrow hlg)
          have hb3 : Below w.heap.size w w3 := Below.grew (bAlloc hb1 _) hgrow (by simp; omega) (fun q e => by have := ownK_base O1 q e; omega)
          have hbk3 := (hbk1.alloc _).grew hgrow (fun q e => by have := ownK_base O1 q e; omega)
          have hs3 : w.heap.size + 1 ≤ w3.heap.size := by have := hgrow.size; simp at this; omega
          obtain ⟨z0, z1, z2, z3, z4⟩ := HX.out w3 hb3
          clear x0 x1 x2 x3 x4 y0 y1 y2 y3 y4 hgrow O1 hbk1 hb1 hw1
          go_wp2_with (at_builtin; refine appR _ rfl _ _ rfl (w.heap.size + 1) _ _ rfl (own3.alloc _) _ _ _ _ _ _ rfl (Bk.new _ _ rfl) (by simp; omega) (by simp; omega) ?_; intro g5 cap5 w5 own5 hgrow5 hlg5)
          have hb5 : Below w.heap.size w w5 := Below.grew (bAlloc hb3 _) hgrow5 (by simp; omega) (fun q e => by have := ownK_base own3 q e; omega)
          have hbk5 := (hbk3.alloc _).grew hgrow5 (fun q e => by have := ownK_base own3 q e; omega)
          have hs5 : w.heap.size + 1 ≤ w5.heap.size := by have := hgrow5.size; simp at this; omega
          go_roundw
          case rel => exact ⟨k + 1, true, _, _, by omega, by go_num, rfl, HZ.out, by simpa using own5, hbk5, hs5, hb5⟩
          case measure => simp [intOf]; omega
      · -- past
        have HZ := (show Hid _ from HP.out.past HR.out)
        have O1 := HO1.out
        clear hcl hcg hcr HP HO1
        go_wp2_with (at_builtin; refine appR _ rfl _ _ rfl (w.heap.size + 1) _ _ rfl (O1.alloc _) _ _ _ _ _ _ rfl (Bk.new _ _ rfl) (by omega) (by simp; omega) ?_; intro g3 cap3 w3 own3 hgrow hlg)
        have hb3 : Below w.heap.size w w3 := Below.grew (bAlloc hb1 _) hgrow (by simp; omega) (fun q e => by have := ownK_base O1 q e; omega)
        have hbk3 := (hbk1.alloc _).grew hgrow (fun q e => by have := ownK_base O1 q e; omega)
        have hs3 : w.heap.size + 1 ≤ w3.heap.size := by have := hgrow.size; simp at this; omega
        go_roundw
        case rel => exact ⟨k + 1, true, _, _, by omega, by go_num, rfl, HZ.out, own3, hbk3, hs3, hb3⟩
        case measure => simp [intOf]; omega
    · cases bd
      · have HZ : Hid (L ++ [(((K, V), (A, B)), D)] = putL ltS (((K, V), (A, B)), D) l) := HP.out.end_no (by omega)
        have hDD : D' = D := HP.out.same_d
        subst hDD
        obtain ⟨y0, y1, y2, y3, y4⟩ := hbk.five
        have O1 := HO.out
        clear HO HP
        go_wp2_with (at_builtin; refine appR _ rfl _ _ rfl (w.heap.size + 1) _ _ rfl (O1.alloc _) _ _ _ _ _ _ rfl (Bk.new _ _ rfl) (by omega) (by simp; omega) ?_; intro g3 cap3 w3 own3 hgrow hlg)
        have hb3 : Below w.heap.size w w3 := Below.grew (bAlloc hb _) hgrow (by simp; omega) (fun q e => by have := ownK_base O1 q e; omega)
        go_ret
        refine ⟨_, rfl, ?_, hb3⟩
        rw [← HZ.out]
        exact own_less own3 (by omega : w.heap.size ≤ w.heap.size + 1)
      · have HZ : Hid (L = putL ltS (((K, V), (A, B)), D) l) := HP.out.end_yes (by omega)
        go_wp2_with fail
        go_ret
        refine ⟨_, rfl, ?_, hb⟩
        rw [← HZ.out]
        exact own_less HO.out (by omega)
end Go.Proofs.Ytbmdfmboabfceaa
