/- LoopFlow of the program: the contract. -/
import Derived.Test.YtjlaeeccnbdghaaGreatLf0
import Derived.Test.YtjlaeeccnbdghaaGreatLk2
import Derived.Test.YtjlaeeccnbdghaaGreatGs2
import Derived.Deep.RegionHeld3
namespace Go.Proofs.YtjlaeeccnbdghaaGreat
open Go.RowKit Go.Shelf

set_option maxHeartbeats 4000000 in
theorem rounded_any (K V A B D : Int) (w : World) :
    Calls Tryz.prog 58 #[rv K V A B D] w fun e w' => e = .returned (.bool (!(B == 0))) ∧ Below w.heap.size w w' := by
  obtain ⟨y0, y1, y2, y3, y4⟩ := (Bk.new (w := w) #[.int .i64 K, .int .i64 V, .int .i64 A, .int .i64 B, .int .i64 D] 37 rfl).five
  go_enter Tryz.func58, Tryz.ntmps58
  go_wp2_with fail
  go_ret
  exact ⟨rfl, bAlloc (Below.refl w.heap.size w) _⟩
set_option maxHeartbeats 8000000 in
theorem indexAhead_any (v : Value) (l : List Rw) (w : World) (h : Rs w v l) :
    Calls Tryz.prog 83 #[v, .func (.func 58) #[] #[]] w fun e w' => ∃ i : Int, e = .returned (.int .i64 i) ∧ decide (0 ≤ i) = (!aheadB l) ∧ Below w.heap.size w w' := by
  obtain ⟨a, cap, rfl, hc, hm, hn, hcells⟩ := Rs.open h
  unfold maxLen at hm
  have HC := (show Hid _ from hcells)
  clear hcells h
  go_enter Tryz.func83, Tryz.ntmps83
  go_wp2_with fail
  go_loopw [8] (fun i wr => ∃ k : Nat, k ≤ l.length ∧ i = .int .i64 k ∧ (∀ j : Nat, j < k → ∀ r, l[j]? = some r → r.1.2.2 = 0) ∧ Below w.heap.size w wr) (fun i _ => l.length - (intOf i).toNat)
  case atStart => exact ⟨0, by omega, rfl, fun j hj => by omega, Below.refl _ _⟩
  case round =>
    obtain ⟨k, hk, rfl, hall, hb⟩ := hrel
    have HA : Hid (∀ j : Nat, j < k → ∀ r, l[j]? = some r → r.1.2.2 = 0) := hall
    clear hall
    by_cases hlt : k < l.length
    · obtain ⟨g, off, K, V, A, B, D, rfl, hg, hr, c0, c1, c2, c3, c4⟩ := HC.out k hlt
      have d0 := cell_below hb c0
      have d1 := cell_below hb c1
      have d2 := cell_below hb c2
      have d3 := cell_below hb c3
      have d4 := cell_below hb c4
      have ik : ((k : Int) < (l.length : Int)) := by omega
      have HR : Hid (l[k]? = some (((K, V), (A, B)), D)) := hr
      clear c0 c1 c2 c3 c4 hr
      go_wp2_with fail
      refine (rounded_any K V A B D _).mono ?_
      rintro e w1 ⟨rfl, hb1⟩
      have hbw1 := bStep hb hb1
      clear d0 d1 d2 d3 d4
      by_cases h0 : B = 0
      · have HY : Hid (∀ j : Nat, j < k + 1 → ∀ r, l[j]? = some r → r.1.2.2 = 0) := fun j hj r hr => by
          by_cases e : j = k
          · subst e; rw [HR.out] at hr; cases hr; exact h0
          · exact HA.out j (by omega) r hr
        have nB : (!(B == 0)) = false := by simpa using h0
        rw [nB]
        go_wp2_with fail
        go_roundw
        case rel => exact ⟨k + 1, by omega, by go_num, HY.out, hbw1⟩
        case measure => simp [intOf]; omega
      · have nB : (!(B == 0)) = true := by simpa using h0
        rw [nB]
        have HF : Hid (aheadB l = false) := by
          show _ = false
          unfold aheadB
          rw [List.all_eq_false]
          exact ⟨_, List.mem_of_getElem? HR.out, by simpa using h0⟩
        go_wp2_with fail
        go_ret
        exact ⟨(k : Int), rfl, by rw [HF.out]; simp, hbw1⟩
    · obtain rfl : k = l.length := by omega
      have ik : ¬ ((l.length : Int) < (l.length : Int)) := by omega
      have HF : Hid (aheadB l = true) := by
        show _ = true
        unfold aheadB
        rw [List.all_eq_true]
        intro r hr
        obtain ⟨i, hi, e⟩ := List.getElem_of_mem hr
        have := HA.out i hi r (by rw [List.getElem?_eq_getElem hi, e])
        simpa using this
      go_wp2_with fail
      go_ret
      exact ⟨-1, rfl, by rw [HF.out]; simp, hb⟩
set_option maxHeartbeats 4000000 in
theorem containsAhead_any (v : Value) (l : List Rw) (w : World) (h : Rs w v l) :
    Calls Tryz.prog 57 #[v, .func (.func 58) #[] #[]] w fun e w' => e = .returned (.bool (!aheadB l)) ∧ Below w.heap.size w w' := by
  go_enter Tryz.func57, Tryz.ntmps57
  go_wp2_with fail
  refine (indexAhead_any v l w h).mono ?_
  rintro e w1 ⟨i, rfl, hi, hb1⟩
  have HI := (show Hid _ from hi)
  go_wp2_with fail
  go_ret
  exact ⟨by rw [← HI.out]; rfl, hb1⟩
set_option maxHeartbeats 4000000 in
theorem aheadOfRounds_any (v : Value) (l : List Rw) (w : World) (h : Rs w v l) :
    Calls Tryz.prog 35 #[v] w fun e w' => e = .returned (.bool (bokB l && aheadB l)) ∧ Below w.heap.size w w' := by
  cases k1 : bokB l
  · go_enter Tryz.func35, Tryz.ntmps35
    go_wp2_with fail
    refine (implBatchOk_eq k1 h).mono ?_
    rintro e w1 ⟨rfl, hb1⟩
    go_wp2_with fail
    go_ret
    exact ⟨rfl, hb1⟩
  · go_enter Tryz.func35, Tryz.ntmps35
    go_wp2_with fail
    refine (implBatchOk_eq k1 h).mono ?_
    rintro e w1 ⟨rfl, hb1⟩
    go_wp2_with fail
    refine (containsAhead_any v l _ (h.keep hb1)).mono ?_
    rintro e w2 ⟨rfl, hb2⟩
    have hbw := bStep hb1 hb2
    cases hA : aheadB l
    all_goals
      go_wp2_with fail
      go_ret
      exact ⟨by rw [hA]; rfl, hbw⟩
theorem aheadOfRounds_eq {l : List Rw} {r : Bool} (h : (bokB l && aheadB l) = r) {v : Value} {w : World} (hs : Rs w v l) :
    Calls Tryz.prog 35 #[v] w fun e w' => e = .returned (.bool r) ∧ Below w.heap.size w w' := by
  rw [← h]; exact aheadOfRounds_any v l w hs
theorem roundsOf_k (a b : Option Addr) (n c n' c' : Nat) (w : World) :
    Calls Tryz.prog 36 #[.slice a n c, .slice b n' c'] w fun e w' => e = .returned (.func (.func 59) #[] #[.pointer (some ⟨w.heap.size, 0, none⟩), .pointer (some ⟨w.heap.size + 1, 0, none⟩), .pointer (some ⟨w.heap.size + 2, 0, none⟩)]) ∧ Below w.heap.size w w' ∧ Bk w' w.heap.size #[.slice a n c] 31 ∧ Bk w' (w.heap.size + 1) #[.slice b n' c'] 31 ∧ Bk w' (w.heap.size + 2) #[.slice none 0 0] 31 := by
  refine (roundsOf_any a b n c n' c' w).mono ?_
  rintro e w3 ⟨rfl, rfl⟩
  exact ⟨rfl, bAlloc (bAlloc (bAlloc (Below.refl _ _) _) _) _, ((Bk.new _ _ rfl).alloc _).alloc _, (Bk.new (w := w.alloc _) _ _ (by simp)).alloc _, Bk.new (w := (w.alloc _).alloc _) _ _ (by simp)⟩
set_option maxRecDepth 100000 in
set_option maxHeartbeats 16000000 in
theorem implLoopFlow_any (v u : Value) (T F : List Rw) (n : Int) (w : World) (hT : Rs w v T) (hF : Rs w u F) :
    Calls Tryz.prog 11 #[v, u, .int .i64 n] w fun e w' => ∃ o : Value, e = .returned (.tuple #[o, .bool (lokB T F n)]) ∧ OwnR w' w.heap.size o (lflowL T F n) ∧ Below w.heap.size w w' := by
  have HT : Hid (∀ W, Below w.heap.size w W → Rs W v T) := fun W hW => SlK.keep hT hW
  have HF : Hid (∀ W, Below w.heap.size w W → Rs W u F) := fun W hW => SlK.keep hF hW
  clear hT hF
  have HLK0 : Hid (lokB T F n = ((bokB T && aheadB T) && (bokB F && aheadB F) && inB n 1 6)) := by
    show _ = _
    unfold lokB
    cases bokB T <;> cases bokB F <;> cases aheadB T <;> cases aheadB F <;> rfl
  have NO : Hid (lokB T F n = false → lflowL T F n = []) := fun h => by simp [lflowL, h]
  cases k1 : (bokB T && aheadB T)
  · have HL : Hid (lokB T F n = false) := by show _ = false; rw [HLK0.out, k1]; rfl
    go_enter Tryz.func11, Tryz.ntmps11
    go_wp2_with fail
    refine (aheadOfRounds_eq k1 (HT.out _ (Below.refl _ _))).mono ?_
    rintro e w1 ⟨rfl, hb1⟩
    go_wp2_with fail
    refine bodyPost_ret (by simp [results, Tryz.results11, go_sem]; try rfl) rfl ?_
    exact ⟨_, by rw [HL.out], by rw [NO.out HL.out]; exact ownK_nil _ _ _ _ _, hb1⟩
  cases k2 : (bokB F && aheadB F)
  · have HL : Hid (lokB T F n = false) := by show _ = false; rw [HLK0.out, k1, k2]; rfl
    go_enter Tryz.func11, Tryz.ntmps11
    go_wp2_with fail
    refine (aheadOfRounds_eq k1 (HT.out _ (Below.refl _ _))).mono ?_
    rintro e w1 ⟨rfl, hb1⟩
    go_wp2_with fail
    refine (aheadOfRounds_eq k2 (HF.out _ hb1)).mono ?_
    rintro e w2 ⟨rfl, hb2⟩
    go_wp2_with fail
    refine bodyPost_ret (by simp [results, Tryz.results11, go_sem]; try rfl) rfl ?_
    exact ⟨_, by rw [HL.out], by rw [NO.out HL.out]; exact ownK_nil _ _ _ _ _, bStep hb1 hb2⟩
  by_cases hn : 1 ≤ n ∧ n ≤ 6
  case neg =>
    have HL : Hid (lokB T F n = false) := by show _ = false; rw [HLK0.out, k1, k2]; simp [inB]; omega
    have hn' : n < 1 ∨ ¬ n < 1 ∧ 6 < n := by omega
    clear hn
    rcases hn' with hn | ⟨hn, hn6⟩
    all_goals
      go_enter Tryz.func11, Tryz.ntmps11
      go_wp2_with fail
      refine (aheadOfRounds_eq k1 (HT.out _ (Below.refl _ _))).mono ?_
      rintro e w1 ⟨rfl, hb1⟩
      go_wp2_with fail
      refine (aheadOfRounds_eq k2 (HF.out _ hb1)).mono ?_
      rintro e w2 ⟨rfl, hb2⟩
      go_wp2_with fail
      refine bodyPost_ret (by simp [results, Tryz.results11, go_sem]; try rfl) rfl ?_
      exact ⟨_, by rw [HL.out], by rw [NO.out HL.out]; exact ownK_nil _ _ _ _ _, bStep hb1 hb2⟩
  have HL : Hid (lokB T F n = true) := by show _ = true; rw [HLK0.out, k1, k2]; simp [inB]; omega
  obtain ⟨R, rfl⟩ := Int.eq_ofNat_of_zero_le (show 0 ≤ n by omega)
  have hR6 : R ≤ 6 := by omega
  have hmA : ¬ ((R : Int) < 1) := by omega
  have hmB : ¬ ((6 : Int) < (R : Int)) := by omega
  have HE : Hid (lflowL T F (R : Int) = sumL ltS (chV T F (tsP R 8))) := by show _ = _; simp [lflowL, HL.out, lflowS]
  clear HLK0 NO hn
  go_enter Tryz.func11, Tryz.ntmps11
  go_wp2_with fail
  refine (aheadOfRounds_eq k1 (HT.out _ (Below.refl _ _))).mono ?_
  rintro e w1 ⟨rfl, hb1⟩
  go_wp2_with fail
  refine (aheadOfRounds_eq k2 (HF.out _ hb1)).mono ?_
  rintro e w2 ⟨rfl, hb2⟩
  have hbw2 := bStep hb1 hb2
  clear hb1 hb2 k1 k2
  go_wp2_with fail
  go_loopw [8, 30] (fun o i wr => ∃ A : Nat, A ≤ 8 ∧ i = .int .i64 (A : Int) ∧ OwnR wr w.heap.size o (chV T F (tsP R A)) ∧ Below w.heap.size w wr) (fun _ i _ => 8 - (intOf i).toNat)
  case atStart => exact ⟨0, by omega, rfl, ownK_nil _ _ _ _ _, hbw2⟩
  case round =>
    clear hbw2
    obtain ⟨A, hA8, rfl, hown, hb⟩ := hrel
    have HO : Hid (OwnR wr w.heap.size u8 (chV T F (tsP R A))) := hown
    clear hown
    by_cases hA : A < 8
    · obtain ⟨Wd, hWd⟩ : ∃ Wd, Wd = wr := ⟨_, rfl⟩
      subst hWd
      have ia : (A : Int) < 8 := by omega
      have hbs := hb.size
      have bX := Bk.new (w := Wd) #[.int .i64 (A : Int), .int .i64 0] 30 rfl
      have hbX : Below Wd.heap.size Wd (Wd.alloc (.cells #[.int .i64 (A : Int), .int .i64 0] 30)) := bAlloc (Below.refl _ _) _
      go_upto_region 8 with fail
      generalize (Wd.alloc (.cells #[.int .i64 (A : Int), .int .i64 0] 30)) = W1 at *
      have hsW1 : Wd.heap.size + 1 ≤ W1.heap.size := bX.lt
      have HX : Hid (∀ V', Below W1.heap.size W1 V' → V'.cell? ⟨Wd.heap.size, 0, none⟩ = some (.int .i64 (A : Int)) ∧ V'.cell? ⟨Wd.heap.size, 1, none⟩ = some (.int .i64 0)) := fun V' hV => ⟨(bX.keep hV).two.1, (bX.keep hV).two.2.1⟩
      have HO1 : Hid (∀ V', Below W1.heap.size W1 V' → OwnR V' w.heap.size u8 (chV T F (tsP R A))) := fun V' hV => own_keep HO.out (bStep hbX hV)
      have HW1 : Hid (∀ V', Below W1.heap.size W1 V' → Below w.heap.size w V') := fun V' hV => bStep hb (bStep hbX hV)
      have hbP : Below W1.heap.size W1 W1.drew := (Below.refl _ _).drew
      clear bX hbX hb HO
      go_wp2_with fail
      go_region_held3 (fun V' => V'.cell? ⟨Wd.heap.size, 0, none⟩ = some (.int .i64 (A : Int)) ∧ V'.cell? ⟨Wd.heap.size, 1, none⟩ = some (.int .i64 0))
        (first | exact HX.out _ hS | exact HX.out _ hf | exact HX.out _ hTa | exact HX.out _ hFa | exact HX.out _ hbP)
        (first
          | (go_at_call 14; with_reducible refine (implAt_any u F A 0 _ (HF.out _ (HW1.out _ hTa))).mono ?_; rintro e wf ⟨oF, rfl, ownf, hbf⟩; have hf : Below W1.heap.size W1 wf := bStep hTa hbf; have ITf : OwnI wf 0 oT (itemsL T A 0) := own_keep ITa hbf; have IFf : OwnI wf 0 oF (itemsL F A 0) := own_less ownf (Nat.zero_le _); obtain ⟨aT, cT, rfl⟩ := isSl ITf; obtain ⟨aF, cF, rfl⟩ := isSl IFf)
          | (go_at_call 14; with_reducible refine (implAt_any v T A 0 _ (HT.out _ (HW1.out _ hFa))).mono ?_; rintro e wf ⟨oT, rfl, ownf, hbf⟩; have hf : Below W1.heap.size W1 wf := bStep hFa hbf; have IFf : OwnI wf 0 oF (itemsL F A 0) := own_keep IFa hbf; have ITf : OwnI wf 0 oT (itemsL T A 0) := own_less ownf (Nat.zero_le _); obtain ⟨aT, cT, rfl⟩ := isSl ITf; obtain ⟨aF, cF, rfl⟩ := isSl IFf)
          | (go_at_call 14; with_reducible refine (implAt_any v T A 0 _ (HT.out _ (HW1.out _ hbP))).mono ?_; rintro e wT ⟨oT, rfl, owna, hba⟩; have hTa : Below W1.heap.size W1 wT := bStep hbP hba; have ITa : OwnI wT 0 oT (itemsL T A 0) := own_less owna (Nat.zero_le _))
          | (go_at_call 14; with_reducible refine (implAt_any u F A 0 _ (HF.out _ (HW1.out _ hbP))).mono ?_; rintro e wF ⟨oF, rfl, owna, hba⟩; have hFa : Below W1.heap.size W1 wF := bStep hbP hba; have IFa : OwnI wF 0 oF (itemsL F A 0) := own_less owna (Nat.zero_le _))
          | (go_at_call 36; refine (roundsOf_k aT aF _ cT _ cF wf).mono ?_; rintro e w3 ⟨rfl, hb3, g1, g2, g3⟩; have hS : Below W1.heap.size W1 w3 := bStep hf hb3))
      all_goals
        have i1 : OwnI w3 0 (.slice aT (itemsL T A 0).length cT) (itemsL T A 0) := own_keep ITf hb3
        have i2 : OwnI w3 0 (.slice aF (itemsL F A 0).length cF) (itemsL F A 0) := own_keep IFf hb3
        have hbw3 := HW1.out _ hS
        have O3 : OwnR w3 w.heap.size u8 (chV T F (tsP R A ++ gridRow A (0 + 1))) := by rw [chV_append, chV_row0, List.append_nil]; exact HO1.out _ hS
        have hwf : w.heap.size ≤ wf.heap.size := by have := hf.size; omega
        clear hb3 ITf IFf hf hS
        generalize wf.heap.size = b1 at *
        have qT : absum (itemsL T A 0) ≤ 562949953421312 := by have := sok_abs (items_sokF T A 0); omega
        have qF : absum (itemsL F A 0) ≤ 562949953421312 := by have := sok_abs (items_sokF F A 0); omega
        have lT := items_len T A 0
        have lF := items_len F A 0
        have HV : Hid (∀ j : Nat, j < R → stepL (itemsL T A 0) (itemsL F A 0) (rndL (itemsL T A 0) (itemsL F A 0) j) = vL T F A ((j : Int) + 1)) := fun j hj => (vL_yes T F A (b := j + 1) (by omega)).symm
        go_wp2_with fail
        go_loopw [8, 12] (fun o b wr => ∃ j : Nat, j ≤ R ∧ b = .int .i64 ((j : Int) + 1) ∧ OwnR wr w.heap.size o (chV T F (tsP R A ++ gridRow A (j + 1))) ∧ Bk wr b1 #[.slice aT (itemsL T A 0).length cT] 31 ∧ Bk wr (b1 + 1) #[.slice aF (itemsL F A 0).length cF] 31 ∧ (∃ x, Bk wr (b1 + 2) #[x] 31 ∧ OwnI wr 0 x (rndL (itemsL T A 0) (itemsL F A 0) j)) ∧ OwnI wr 0 (.slice aT (itemsL T A 0).length cT) (itemsL T A 0) ∧ OwnI wr 0 (.slice aF (itemsL F A 0).length cF) (itemsL F A 0) ∧ Below w.heap.size w wr) (fun _ b _ => R + 1 - (intOf b).toNat)
        case atStart => exact ⟨0, by omega, rfl, O3, g1, g2, ⟨_, g3, ownK_nil _ _ _ _ _⟩, i1, i2, hbw3⟩
        case round =>
          clear O3 g1 g2 g3 i1 i2 hbw3
          obtain ⟨j, hjR, rfl, hown, g1, g2, ⟨x, g3, i3⟩, i1, i2, hb⟩ := hrel
          by_cases hj : j < R
          · have ij : (j : Int) + 1 ≤ (R : Int) := by omega
            have hts := ok_app (tsP_ok (R := R) (A := A) hR6 (by omega)) (row_ok (A := A) (m := j + 1) hA (by omega))
            have hCl : (chV T F (tsP R A ++ gridRow A (j + 1))).length ≤ 400 := by
              have h1 := chV_len T F (tsP R A ++ gridRow A (j + 1))
              have h2 : A * (R + 1) ≤ 7 * 7 := Nat.mul_le_mul (by omega) (by omega)
              rw [List.length_append, tsP_len, rowT_len] at h1
              omega
            have HCR : Hid (∀ r ∈ chV T F (tsP R A ++ gridRow A (j + 1)), rwOkB r = true) := fun r hr => (chV_row hts hr).1
            have HLK : Hid (lackL (chV T F (tsP R A ++ gridRow A (j + 1))) A ((j : Int) + 1) (vL T F A ((j : Int) + 1)) = dV T F ((A : Int), (j : Int) + 1)) := lack_P T F hR6 hA hj
            have HNX : Hid (chV T F (tsP R A ++ gridRow A (j + 1 + 1)) = chV T F (tsP R A ++ gridRow A (j + 1)) ++ stamp ((A : Int), (j : Int) + 1) (dV T F ((A : Int), (j : Int) + 1))) := by
              show _ = _
              rw [row_snoc A (j + 1), ← List.append_assoc, chV_snoc]; rfl
            have hVj := HV.out j hj
            have hd5 := dV_len T F ((A : Int), (j : Int) + 1)
            have lV := vL_len T F A ((j : Int) + 1)
            have aV := vL_abs T F A ((j : Int) + 1)
            have HVK : Hid (∀ r ∈ vL T F A ((j : Int) + 1), itK r.1) := sok_k (vL_sok T F _ _)
            have lN := rnd_len (itemsL T A 0) (itemsL F A 0) j
            have qN := rnd_abs (itemsL T A 0) (itemsL F A 0) j
            have bY := Bk.new (w := wr) #[.int .i64 (A : Int), .int .i64 ((j : Int) + 1)] 30 rfl
            have hbY : Below wr.heap.size wr (wr.alloc (.cells #[.int .i64 (A : Int), .int .i64 ((j : Int) + 1)] 30)) := bAlloc (Below.refl _ _) _
            have gl3 := g3.lt
            go_upto_region 13 with fail
            have k1 := g1.keep (hbY.drew)
            have k2 := g2.keep (hbY.drew)
            have k3 := g3.keep (hbY.drew)
            have m1 := own_keep i1 hbY.drew
            have m2 := own_keep i2 hbY.drew
            have m3 := own_keep i3 hbY.drew
            have mO := own_keep hown hbY.drew
            have mb := bStep hb hbY.drew
            have bYd := bY.drew
            have hne : wr.heap.size ≠ b1 + 2 := by omega
            clear g1 g2 g3 i1 i2 i3 hown hb hbY bY hts
            generalize hyb : wr.heap.size = yb at *
            generalize (wr.alloc (.cells #[.int .i64 (A : Int), .int .i64 ((j : Int) + 1)] 30)) = wY at *
            generalize hCE : chV T F (tsP R A ++ gridRow A (j + 1)) = C at *
            clear hCE hyb
            have HX0 : Hid (wY.drew.cell? ⟨yb, 0, none⟩ = some (.int .i64 (A : Int)) ∧ wY.drew.cell? ⟨yb, 1, none⟩ = some (.int .i64 ((j : Int) + 1))) := ⟨bYd.two.1, bYd.two.2.1⟩
            have hmbs := mb.size
            go_wp2_with fail
            go_region_held3 (fun V' => V'.cell? ⟨yb, 0, none⟩ = some (.int .i64 (A : Int)) ∧ V'.cell? ⟨yb, 1, none⟩ = some (.int .i64 ((j : Int) + 1)))
              (first | exact HX6.out | exact HX5.out | exact HX4.out | exact HX0.out)
              (first
                | (go_at_call 59; refine (round_few b1 (b1 + 1) (b1 + 2) _ _ x (itemsL T A 0) (itemsL F A 0) (rndL (itemsL T A 0) (itemsL F A 0) j) _ k1 k2 k3 (OwnI.is m1 (by omega)) (OwnI.is m2 (by omega)) (OwnI.is m3 (by omega)) qT qF qN).mono ?_; rintro e w4 ⟨o4, rfl, own4, k34, hx4⟩; rw [hVj] at own4; have m4 : OwnI w4 0 o4 (vL T F A ((j : Int) + 1)) := own_less own4 (Nat.zero_le _); have k14 := k1.keepx hx4 (by omega); have k24 := k2.keepx hx4 (by omega); have bY4 := bYd.keepx hx4 hne; have HX4 : Hid (w4.cell? ⟨yb, 0, none⟩ = some (.int .i64 (A : Int)) ∧ w4.cell? ⟨yb, 1, none⟩ = some (.int .i64 ((j : Int) + 1))) := ⟨bY4.two.1, bY4.two.2.1⟩; have m14 := ownI_bx m1 k3 (by decide) hx4; have m24 := ownI_bx m2 k3 (by decide) hx4; have mO4 := ownR_bx mO k3 (by decide) hx4; have mb4 : Below w.heap.size w w4 := hx4.below mb hmbs (by omega))
                | (go_at_call 37; refine (lacking_any u8 C A ((j : Int) + 1) o4 (vL T F A ((j : Int) + 1)) w4 (OwnR.rs mO4 (by omega)) HCR.out (by omega) (OwnI.is m4 (by omega)) (by omega) (by omega) HVK.out).mono ?_; rintro e w5 ⟨o5, rfl, own5, hb5⟩; rw [HLK.out] at own5; have R5 : Rs w5 o5 (stamp ((A : Int), (j : Int) + 1) (dV T F ((A : Int), (j : Int) + 1))) := OwnR.rs own5 (by rw [stamp_len]; omega); have m45 := own_keep m4 hb5; have k345 := k34.keep hb5; have k15 := k14.keep hb5; have k25 := k24.keep hb5; have bY5 := bY4.keep hb5; have HX5 : Hid (w5.cell? ⟨yb, 0, none⟩ = some (.int .i64 (A : Int)) ∧ w5.cell? ⟨yb, 1, none⟩ = some (.int .i64 ((j : Int) + 1))) := ⟨bY5.two.1, bY5.two.2.1⟩; have m15 := own_keep m14 hb5; have m25 := own_keep m24 hb5; have mO5 := own_keep mO4 hb5; have mb5 := bStep mb4 hb5; have hs5 := mb5.size)
                | (refine stepRs _ (by rfl) _ _ (by rfl) w.heap.size _ C (by rfl) mO5 _ (stamp ((A : Int), (j : Int) + 1) (dV T F ((A : Int), (j : Int) + 1))) (by rfl) R5 (by rw [stamp_len]; omega) hs5 ?_; intro v6 w6 own6 hg6; have bY6 := bk_appR bY5 (by decide) mO5 hg6; have HX6 : Hid (w6.cell? ⟨yb, 0, none⟩ = some (.int .i64 (A : Int)) ∧ w6.cell? ⟨yb, 1, none⟩ = some (.int .i64 ((j : Int) + 1))) := ⟨bY6.two.1, bY6.two.2.1⟩; have k16 := bk_appR k15 (by decide) mO5 hg6; have k26 := bk_appR k25 (by decide) mO5 hg6; have k36 := bk_appR k345 (by decide) mO5 hg6; have m16 := ownI_appR m15 mO5 hg6; have m26 := ownI_appR m25 mO5 hg6; have m36 := ownI_appR m45 mO5 hg6; have mb6 : Below w.heap.size w w6 := Below.grew mb5 hg6 hs5 (fun q e => ownK_base mO5 q e)))
            all_goals
              have HO6 : Hid (OwnR w6 w.heap.size v6 (chV T F (tsP R A ++ gridRow A (j + 1 + 1)))) := by show OwnR _ _ _ _; rw [HNX.out]; exact own6
              have m36' : OwnI w6 0 o4 (rndL (itemsL T A 0) (itemsL F A 0) (j + 1)) := by rw [← hVj] at m36; exact m36
              clear own6
              go_wp2_with fail
              go_roundw
              case rel => exact ⟨j + 1, by omega, by go_num, HO6.out, k16, k26, ⟨_, k36, m36'⟩, m16, m26, mb6⟩
              case measure => simp [intOf]; omega
          · obtain rfl : j = R := by omega
            have ij : ¬ ((j : Int) + 1 ≤ (j : Int)) := by omega
            have HO6 : Hid (OwnR wr w.heap.size u8 (chV T F (tsP j (A + 1)))) := by show OwnR _ _ _ _; rw [tsP_snoc]; exact hown
            clear hown g1 g2 g3 i1 i2 i3
            go_wp2_with fail
            go_roundw
            case rel => exact ⟨A + 1, by omega, by go_num, HO6.out, hb⟩
            case measure => simp [intOf]; omega
    · obtain rfl : A = 8 := by omega
      have ia : ¬ (((8 : Nat) : Int) < 8) := by omega
      have hlen : (chV T F (tsP R 8)).length ≤ 400 := by
        have h1 := chV_len T F (tsP R 8)
        rw [tsP_len] at h1
        omega
      have habs : absum (chV T F (tsP R 8)) ≤ 1000 := by
        have h1 := chV_abs (T := T) (F := F) (tsP_ok (R := R) (A := 8) hR6 (by omega))
        rw [tsP_len] at h1
        omega
      have HSP : Hid (∀ r ∈ chV T F (tsP R 8), spOk r.1) := fun r hr => rw_sp (chV_row (tsP_ok hR6 (by omega)) hr).1
      have R4 := OwnR.rs HO.out (by omega)
      have hbs := hb.size
      clear HO
      go_wp2_with fail
      refine (sumUp_any _ _ _ R4 (by omega) (by omega) HSP.out).mono ?_
      rw [← HE.out]
      rintro e w6 ⟨o6, rfl, own6, hb6⟩
      have O6 : Hid (OwnR w6 wr.heap.size o6 (lflowL T F (R : Int))) := own6
      clear own6
      go_wp2_with fail
      refine bodyPost_ret (by simp [results, Tryz.results11, go_sem]; try rfl) rfl ?_
      exact ⟨_, by rw [HL.out], own_less O6.out hbs, bStep hb hb6⟩
end Go.Proofs.YtjlaeeccnbdghaaGreat
