/- FlowEach of the model: the contract. -/
import Derived.Test.YtlddhfimiignaaaFe1
import Derived.Test.YtlddhfimiignaaaGt8
import Derived.Test.YtlddhfimiignaaaGs7
import Derived.Deep.RegionHeld3
namespace Go.Proofs.Ytlddhfimiignaaa
open Go.RowKit
attribute [local go_sem ↓] Go.wp_at_zero Go.wp_at_succ

set_option maxRecDepth 100000 in
set_option maxHeartbeats 8000000 in
theorem l11Each_any (v : Value) (l : List Rw) (how : Int) (w : World) (h : Rs w v l) (hk : rokB l = true) (hw : inB how 1 7 = true) :
    Calls Try.prog 70 #[v, .int .i64 how] w fun e w' => ∃ o : Value, e = .returned o ∧ OwnR w' w.heap.size o (sumL ltS (eachR how l)) ∧ Below w.heap.size w w' := by
  obtain ⟨a, cap, rfl, hc, hm, hn, hcells⟩ := Rs.open h
  unfold maxLen at hm
  have HC := (show Hid _ from hcells)
  have oE := ownR_empty w rfl
  have hbE := bAlloc (Below.refl _ w) (.cells #[] 55)
  have hl := rok_len hk
  have HK : Hid (∀ (k : Nat) (K V A B D : Int), l[k]? = some (((K, V), (A, B)), D) → 0 ≤ K ∧ K ≤ 3 ∧ 0 ≤ V ∧ V ≤ 99 ∧ okB A B = true) := rok_kt hk
  have HA : Hid (absum (eachR how l) ≤ 39999600) := by have h1 := eachR_abs how l; have h2 := rok_absF hk; show _ ≤ _; omega
  clear hcells h hk
  go_enter Try.func70, Try.ntmps70
  go_wp2_with fail
  go_loopw [5, 6] (fun o i wr => ∃ k : Nat, k ≤ l.length ∧ i = .int .i64 k ∧ OwnR wr w.heap.size o (eachR how (l.take k)) ∧ Below w.heap.size w wr) (fun _ i _ => l.length - (intOf i).toNat)
  case atStart => exact ⟨0, by omega, rfl, by simpa [eachR] using oE, hbE⟩
  case round =>
    clear oE hbE
    obtain ⟨k, hkl, rfl, hown, hb⟩ := hrel
    have HO : Hid (OwnR wr w.heap.size u5 (eachR how (l.take k))) := hown
    have hel : (eachR how (l.take k)).length ≤ 400 := by have := eachR_len how (l.take k); simp at this; omega
    clear hown
    have hsz := hb.size
    by_cases hlt : k < l.length
    · obtain ⟨g, off, K, V, A, B, D, rfl, hg, hr, c0, c1, c2, c3, c4⟩ := HC.out k hlt
      obtain ⟨i1, i2, i3, i4, -⟩ := HK.out k _ _ _ _ _ hr
      have hit : itK (K, V) := ⟨i1, i2, i3, i4⟩
      have ik : ((k : Int) < (l.length : Int)) := by omega
      have d0 : ∀ p : Bel wr, p.ww.cell? ⟨g, off + k * 5, none⟩ = some (.int .i64 K) := fun p => cell_below p.below (cell_below hb c0)
      have d1 : ∀ p : Bel wr, p.ww.cell? ⟨g, off + k * 5 + 1, none⟩ = some (.int .i64 V) := fun p => cell_below p.below (cell_below hb c1)
      have C2 : Hid (w.cell? ⟨g, off + k * 5 + 2, none⟩ = some (.int .i64 A) ∧ w.cell? ⟨g, off + k * 5 + 3, none⟩ = some (.int .i64 B) ∧ w.cell? ⟨g, off + k * 5 + 4, none⟩ = some (.int .i64 D)) := ⟨c2, c3, c4⟩
      have HR := (show Hid _ from hr)
      have hne := bel_some wr
      clear c0 c1 c2 c3 c4 hr i1 i2 i3 i4
      cases hP : wayP how (K, V)
      · have HZ := (show Hid _ from eachR_no HR.out hP)
        go_wp2_with fail
        (refine wp_region_bel (by kernel_rfl) (by kernel_rfl) ?_; (repeat (go_big_quiet_step ((first | (go_at_call 112; exact calls_bel (l3One_eq (by with_reducible assumption) (by with_reducible assumption) (by with_reducible assumption) _)))))); refine wpQuiet_nil ?_)
        intro w3 hw3
        replace hw3 := bel_out hw3
        have hb3 := bStep hb hw3
        have O3 : Hid (OwnR w3 w.heap.size u5 (eachR how (l.take k))) := own_keep HO.out hw3
        go_wp2_with fail
        go_roundw
        case rel => exact ⟨k + 1, by omega, by go_num, by rw [HZ.out]; exact O3.out, hb3⟩
        case measure => simp [intOf]; omega
      · have HZ := (show Hid _ from eachR_yes HR.out hP)
        go_wp2_with fail
        (refine wp_region_bel (by kernel_rfl) (by kernel_rfl) ?_; (repeat (go_big_quiet_step ((first | (go_at_call 112; exact calls_bel (l3One_eq (by with_reducible assumption) (by with_reducible assumption) (by with_reducible assumption) _)))))); refine wpQuiet_nil ?_)
        intro w3 hw3
        replace hw3 := bel_out hw3
        have hb3 := bStep hb hw3
        have hs3 := hb3.size
        have O3 : Hid (OwnR w3 w.heap.size u5 (eachR how (l.take k))) := own_keep HO.out hw3
        have HX : Hid (∀ W, Below w.heap.size w W → W.cell? ⟨g, off + k * 5 + 2, none⟩ = some (.int .i64 A) ∧ W.cell? ⟨g, off + k * 5 + 3, none⟩ = some (.int .i64 B) ∧ W.cell? ⟨g, off + k * 5 + 4, none⟩ = some (.int .i64 D)) := fun W hW =>
          ⟨cell_below hW C2.out.1, cell_below hW C2.out.2.1, cell_below hW C2.out.2.2⟩
        have hbD : Below w.heap.size w w3.drew := hb3.drew
        have OD : Hid (OwnR w3.drew w.heap.size u5 (eachR how (l.take k))) := own_keep O3.out (Below.refl _ _).drew
        have hsD : ∀ ob : Obj, w.heap.size ≤ (w3.drew.alloc ob).heap.size := fun ob => (bAlloc hbD ob).size
        have eM : wayM how (K, V) = ((wayM how (K, V)).1, (wayM how (K, V)).2) := rfl
        have HM : Hid (wayM how (K, V) = ((wayM how (K, V)).1, (wayM how (K, V)).2)) := eM
        clear eM HO O3
        generalize (wayM how (K, V)).1 = K2 at *
        generalize (wayM how (K, V)).2 = V2 at *
        generalize eachR how (l.take k) = LL at *
        have hl2 : LL.length ≤ 2000000 := by omega
        obtain ⟨e2, e3, e4⟩ := HX.out _ hb3
        have HG : Hid (∀ (w7 : World) (ob : Obj), (w3.drew.alloc ob).grownBy w7 u5.ownBlock → Below w.heap.size w w7) := fun w7 ob h3 => Below.grew (bAlloc hbD _) h3 (bAlloc hbD ob).size (ownK_base OD.out)
        go_wp2_with fail
        go_region_held3 (fun W => W.cell? ⟨g, off + k * 5 + 2, none⟩ = some (.int .i64 A) ∧ W.cell? ⟨g, off + k * 5 + 3, none⟩ = some (.int .i64 B) ∧ W.cell? ⟨g, off + k * 5 + 4, none⟩ = some (.int .i64 D))
          (first | exact HX.out _ hbD | exact HX.out _ (bAlloc hbD _) | exact HX.out _ hb7)
          (first
            | (refine stepR _ (by rfl) _ _ (by rfl) w.heap.size _ LL (by rfl) (OD.out.alloc _) _ K2 V2 A B D (by rfl) (Bk.new _ _ rfl) hl2 (hsD _) ?_; intro g7 cap7 w7 own7 hgrow hlg; have hb7 := HG.out _ _ hgrow))
        go_wp2_with fail
        exact ⟨⟨k + 1, by omega, by go_num, by rw [HZ.out, HM.out]; exact own7, hb7⟩, by simp [intOf]; omega⟩
    · obtain rfl : k = l.length := by omega
      rw [List.take_length] at HO hel
      have R1 : Rs wr u5 (eachR how l) := OwnR.rs HO.out (by omega)
      clear HO
      go_wp2_with fail
      refine (l2Sum_any _ (eachR how l) _ R1 (by omega) (by have := HA.out; omega)).mono ?_
      rintro e w2 ⟨o2, rfl, own2, hb2⟩
      have O2 : Hid (OwnR w2 wr.heap.size o2 (sumL ltS (eachR how l))) := own2
      clear own2
      go_wp2_with fail
      go_ret
      exact ⟨_, rfl, own_less O2.out hsz, bStep hb hb2⟩
set_option maxHeartbeats 4000000 in
theorem specFlowEach_any (v : Value) (l : List Rw) (how : Int) (w : World) (h : Rs w v l) :
    Calls Try.prog 26 #[v, .int .i64 how] w fun e w' => ∃ o : Value, e = .returned o ∧ OwnR w' w.heap.size o (feachL l how) ∧ Below w.heap.size w w' := by
  cases hk : rokB l
  · have HF : Hid (feachL l how = []) := feach_no1 hk
    go_enter Try.func26, Try.ntmps26
    go_wp2_with fail
    refine (specRowsOk_eq hk h).mono ?_
    rintro e w1 ⟨rfl, hb1⟩
    have hs := hb1.size
    go_wp2_with fail
    go_ret
    refine ⟨_, rfl, ?_, bAlloc hb1 _⟩
    rw [HF.out]
    exact own_less (ownR_empty w1 rfl) (by omega)
  cases hw : inB how 1 7
  · have HF : Hid (feachL l how = []) := feach_no2 hw
    go_enter Try.func26, Try.ntmps26
    go_wp2_with fail
    refine (specRowsOk_eq hk h).mono ?_
    rintro e w1 ⟨rfl, hb1⟩
    go_wp2_with fail
    refine (l3Way_eq hw _).mono ?_
    rintro e w2 ⟨rfl, hb2⟩
    have hbw2 := bStep hb1 hb2
    have hs := hbw2.size
    go_wp2_with fail
    go_ret
    refine ⟨_, rfl, ?_, bAlloc hbw2 _⟩
    rw [HF.out]
    exact own_less (ownR_empty w2 rfl) (by omega)
  have HF : Hid (feachL l how = fitL (sumL ltS (eachR how l))) := feach_yes hk hw
  have hsl : (sumL ltS (eachR how l)).length ≤ 400 := Nat.le_trans (sumL_len _ _) (Nat.le_trans (eachR_len how l) (rok_len hk))
  go_enter Try.func26, Try.ntmps26
  go_wp2_with fail
  refine (specRowsOk_eq hk h).mono ?_
  rintro e w1 ⟨rfl, hb1⟩
  go_wp2_with fail
  refine (l3Way_eq hw _).mono ?_
  rintro e w2 ⟨rfl, hb2⟩
  have hbw2 := bStep hb1 hb2
  have hs2 := hbw2.size
  have h2 := (h.keep hb1).keep hb2
  clear hb1 hb2 h
  go_wp2_with fail
  refine (l11Each_any _ l how _ h2 hk hw).mono ?_
  rintro e w3 ⟨o3, rfl, own3, hb3⟩
  have hbw3 := bStep hbw2 hb3
  have hs3 := hb3.size
  have O3 : Hid (OwnR w3 w2.heap.size o3 (sumL ltS (eachR how l))) := own3
  clear own3
  go_wp2_with fail
  refine (l2Fit_any O3.out (by omega) (by omega)).mono ?_
  rintro e w4 ⟨o4, rfl, own4, hb4⟩
  have O4 : Hid (OwnR w4 w2.heap.size o4 (fitL (sumL ltS (eachR how l)))) := own4
  clear own4
  go_wp2_with fail
  go_ret
  refine ⟨_, rfl, ?_, bStep hbw3 hb4⟩
  rw [HF.out]
  exact own_less O4.out hs2
end Go.Proofs.Ytlddhfimiignaaa
