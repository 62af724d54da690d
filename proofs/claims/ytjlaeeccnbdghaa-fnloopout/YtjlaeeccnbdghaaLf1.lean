/- LoopFlow of the model: the contract. -/
import Derived.Test.YtjlaeeccnbdghaaLf0
import Derived.Test.YtjlaeeccnbdghaaLk2
import Derived.Test.YtjlaeeccnbdghaaGb3
import Derived.Test.YtjlaeeccnbdghaaGs7
import Derived.Deep.RegionHeld3
namespace Go.Proofs.Ytjlaeeccnbdghaa
open Go.RowKit Go.Shelf

set_option maxHeartbeats 4000000 in
theorem l22Ahead_any (v : Value) (l : List Rw) (w : World) (h : Rs w v l) :
    Calls Try.prog 82 #[v] w fun e w' => e = .returned (.bool (aheadB l)) ∧ Below w.heap.size w w' := by
  obtain ⟨a, cap, rfl, hc, hm, hn, hcells⟩ := Rs.open h
  unfold maxLen at hm
  have HC := (show Hid _ from hcells)
  clear hcells h
  go_enter Try.func82, Try.ntmps82
  go_wp2_with fail
  go_loopw [3] (fun i wr => ∃ k : Nat, k ≤ l.length ∧ i = .int .i64 k ∧ (∀ j : Nat, j < k → ∀ r, l[j]? = some r → r.1.2.2 = 0) ∧ Below w.heap.size w wr) (fun i _ => l.length - (intOf i).toNat)
  case atStart => exact ⟨0, by omega, rfl, fun j hj => by omega, Below.refl _ _⟩
  case round =>
    obtain ⟨k, hk, rfl, hall, hb⟩ := hrel
    have HA : Hid (∀ j : Nat, j < k → ∀ r, l[j]? = some r → r.1.2.2 = 0) := hall
    clear hall
    by_cases hlt : k < l.length
    · obtain ⟨g, off, K, V, A, B, D, rfl, hg, hr, c0, c1, c2, c3, c4⟩ := HC.out k hlt
      have d3 := cell_below hb c3
      have ik : ((k : Int) < (l.length : Int)) := by omega
      have HR : Hid (l[k]? = some (((K, V), (A, B)), D)) := hr
      clear c0 c1 c2 c3 c4 hr
      by_cases h0 : B = 0
      · have HY : Hid (∀ j : Nat, j < k + 1 → ∀ r, l[j]? = some r → r.1.2.2 = 0) := fun j hj r hr => by
          by_cases e : j = k
          · subst e; rw [HR.out] at hr; cases hr; exact h0
          · exact HA.out j (by omega) r hr
        subst h0
        go_wp2_with fail
        go_roundw
        case rel => exact ⟨k + 1, by omega, by go_num, HY.out, hb⟩
        case measure => simp [intOf]; omega
      · have nB : (B == 0) = false := by simpa using h0
        have HF : Hid (aheadB l = false) := by
          show _ = false
          unfold aheadB
          rw [List.all_eq_false]
          exact ⟨_, List.mem_of_getElem? HR.out, by simpa using h0⟩
        go_wp2_with fail
        go_ret
        exact ⟨by rw [HF.out]; rfl, hb⟩
    · obtain rfl : k = l.length := by omega
      have ik : ¬ ((l.length : Int) < (l.length : Int)) := by omega
      have HF : Hid (aheadB l = true) := by
        show _ = true
        unfold aheadB
        rw [List.all_eq_true]
        intro r hr
        obtain ⟨i, hi, e⟩ := List.getElem_of_mem hr
        have := HA.out i hi r (by rw [List.getElem?_eq_getElem hi, e])
        simpa using this
      go_wp2_with fail
      go_ret
      exact ⟨by rw [HF.out]; rfl, hb⟩
theorem l22Ahead_eq {l : List Rw} {r : Bool} (h : aheadB l = r) {v : Value} {w : World} (hs : Rs w v l) :
    Calls Try.prog 82 #[v] w fun e w' => e = .returned (.bool r) ∧ Below w.heap.size w w' := by
  rw [← h]; exact l22Ahead_any v l w hs
set_option maxRecDepth 100000 in
set_option maxHeartbeats 16000000 in
theorem specLoopFlow_any (v u : Value) (T F : List Rw) (n : Int) (w : World) (hT : Rs w v T) (hF : Rs w u F) :
    Calls Try.prog 55 #[v, u, .int .i64 n] w fun e w' => ∃ o : Value, e = .returned (.tuple #[o, .bool (lokB T F n)]) ∧ OwnR w' w.heap.size o (lflowL T F n) ∧ Below w.heap.size w w' := by
  have oE := ownR_empty w rfl
  have hbE := bAlloc (Below.refl w.heap.size w) (.cells #[] 78)
  have HT : Hid (∀ W, Below w.heap.size w W → Rs W v T) := fun W hW => SlK.keep hT hW
  have HF : Hid (∀ W, Below w.heap.size w W → Rs W u F) := fun W hW => SlK.keep hF hW
  clear hT hF
  have O0 := oE
  clear oE
  cases k1 : bokB T
  · have HL : Hid (lokB T F n = false) := by show _ = false; simp [lokB, k1]
    have HE : Hid (lflowL T F n = []) := by show _ = []; simp [lflowL, HL.out]
    go_enter Try.func55, Try.ntmps55
    go_wp2_with fail
    refine (specBatchOk_eq k1 (HT.out _ hbE)).mono ?_
    rintro e w1 ⟨rfl, hb1⟩
    have hbw1 := bStep hbE hb1
    have O1 := own_keep O0 hb1
    go_wp2_with fail
    refine bodyPost_ret (by simp [results, Try.results55, go_sem]; try rfl) rfl ?_
    exact ⟨_, by rw [HL.out], by rw [HE.out]; exact O1, hbw1⟩
  cases k2 : bokB F
  · have HL : Hid (lokB T F n = false) := by show _ = false; simp [lokB, k2]
    have HE : Hid (lflowL T F n = []) := by show _ = []; simp [lflowL, HL.out]
    go_enter Try.func55, Try.ntmps55
    go_wp2_with fail
    refine (specBatchOk_eq k1 (HT.out _ hbE)).mono ?_
    rintro e w1 ⟨rfl, hb1⟩
    have hbw1 := bStep hbE hb1
    have O1 := own_keep O0 hb1
    go_wp2_with fail
    refine (specBatchOk_eq k2 (HF.out _ hbw1)).mono ?_
    rintro e w2 ⟨rfl, hb2⟩
    have hbw2 := bStep hbw1 hb2
    have O2 := own_keep O1 hb2
    clear O1
    go_wp2_with fail
    refine bodyPost_ret (by simp [results, Try.results55, go_sem]; try rfl) rfl ?_
    exact ⟨_, by rw [HL.out], by rw [HE.out]; exact O2, hbw2⟩
  cases k3 : aheadB T
  · have HL : Hid (lokB T F n = false) := by show _ = false; simp [lokB, k3]
    have HE : Hid (lflowL T F n = []) := by show _ = []; simp [lflowL, HL.out]
    go_enter Try.func55, Try.ntmps55
    go_wp2_with fail
    refine (specBatchOk_eq k1 (HT.out _ hbE)).mono ?_
    rintro e w1 ⟨rfl, hb1⟩
    have hbw1 := bStep hbE hb1
    have O1 := own_keep O0 hb1
    go_wp2_with fail
    refine (specBatchOk_eq k2 (HF.out _ hbw1)).mono ?_
    rintro e w2 ⟨rfl, hb2⟩
    have hbw2 := bStep hbw1 hb2
    have O2 := own_keep O1 hb2
    clear O1
    go_wp2_with fail
    refine (l22Ahead_eq k3 (HT.out _ hbw2)).mono ?_
    rintro e w3 ⟨rfl, hb3⟩
    have hbw3 := bStep hbw2 hb3
    have O3 := own_keep O2 hb3
    clear O2
    go_wp2_with fail
    refine bodyPost_ret (by simp [results, Try.results55, go_sem]; try rfl) rfl ?_
    exact ⟨_, by rw [HL.out], by rw [HE.out]; exact O3, hbw3⟩
  cases k4 : aheadB F
  · have HL : Hid (lokB T F n = false) := by show _ = false; simp [lokB, k4]
    have HE : Hid (lflowL T F n = []) := by show _ = []; simp [lflowL, HL.out]
    go_enter Try.func55, Try.ntmps55
    go_wp2_with fail
    refine (specBatchOk_eq k1 (HT.out _ hbE)).mono ?_
    rintro e w1 ⟨rfl, hb1⟩
    have hbw1 := bStep hbE hb1
    have O1 := own_keep O0 hb1
    go_wp2_with fail
    refine (specBatchOk_eq k2 (HF.out _ hbw1)).mono ?_
    rintro e w2 ⟨rfl, hb2⟩
    have hbw2 := bStep hbw1 hb2
    have O2 := own_keep O1 hb2
    clear O1
    go_wp2_with fail
    refine (l22Ahead_eq k3 (HT.out _ hbw2)).mono ?_
    rintro e w3 ⟨rfl, hb3⟩
    have hbw3 := bStep hbw2 hb3
    have O3 := own_keep O2 hb3
    clear O2
    go_wp2_with fail
    refine (l22Ahead_eq k4 (HF.out _ hbw3)).mono ?_
    rintro e w4 ⟨rfl, hb4⟩
    have hbw4 := bStep hbw3 hb4
    have O4 := own_keep O3 hb4
    clear O3
    go_wp2_with fail
    refine bodyPost_ret (by simp [results, Try.results55, go_sem]; try rfl) rfl ?_
    exact ⟨_, by rw [HL.out], by rw [HE.out]; exact O4, hbw4⟩
  cases k5 : inB n 1 6
  · have HL : Hid (lokB T F n = false) := by show _ = false; simp [lokB, k5]
    have HE : Hid (lflowL T F n = []) := by show _ = []; simp [lflowL, HL.out]
    go_enter Try.func55, Try.ntmps55
    go_wp2_with fail
    refine (specBatchOk_eq k1 (HT.out _ hbE)).mono ?_
    rintro e w1 ⟨rfl, hb1⟩
    have hbw1 := bStep hbE hb1
    have O1 := own_keep O0 hb1
    go_wp2_with fail
    refine (specBatchOk_eq k2 (HF.out _ hbw1)).mono ?_
    rintro e w2 ⟨rfl, hb2⟩
    have hbw2 := bStep hbw1 hb2
    have O2 := own_keep O1 hb2
    clear O1
    go_wp2_with fail
    refine (l22Ahead_eq k3 (HT.out _ hbw2)).mono ?_
    rintro e w3 ⟨rfl, hb3⟩
    have hbw3 := bStep hbw2 hb3
    have O3 := own_keep O2 hb3
    clear O2
    go_wp2_with fail
    refine (l22Ahead_eq k4 (HF.out _ hbw3)).mono ?_
    rintro e w4 ⟨rfl, hb4⟩
    have hbw4 := bStep hbw3 hb4
    have O4 := own_keep O3 hb4
    clear O3
    go_wp2_with fail
    refine (l6In_b k5 _).mono ?_
    rintro e w5 ⟨rfl, hb5⟩
    have hbw5 := bStep hbw4 hb5
    have O5 := own_keep O4 hb5
    clear O4
    go_wp2_with fail
    refine bodyPost_ret (by simp [results, Try.results55, go_sem]; try rfl) rfl ?_
    exact ⟨_, by rw [HL.out], by rw [HE.out]; exact O5, hbw5⟩
  have HL : Hid (lokB T F n = true) := by show _ = true; simp [lokB, k1, k2, k3, k4, k5]
  have hn : 1 ≤ n ∧ n ≤ 6 := by simpa [inB] using k5
  obtain ⟨R, rfl⟩ := Int.eq_ofNat_of_zero_le (show 0 ≤ n by omega)
  have hR6 : R ≤ 6 := by omega
  have HE : Hid (lflowL T F (R : Int) = lflowS T F R) := by show _ = _; simp [lflowL, HL.out]
  have C0 : Hid (chV T F (tsM (0 + 1)) = []) := by show _ = []; rw [tsM_snoc, chV_append, chV_col0]; rfl
  go_enter Try.func55, Try.ntmps55
  go_wp2_with fail
  refine (specBatchOk_eq k1 (HT.out _ hbE)).mono ?_
  rintro e w1 ⟨rfl, hb1⟩
  have hbw1 := bStep hbE hb1
  have O1 := own_keep O0 hb1
  go_wp2_with fail
  refine (specBatchOk_eq k2 (HF.out _ hbw1)).mono ?_
  rintro e w2 ⟨rfl, hb2⟩
  have hbw2 := bStep hbw1 hb2
  have O2 := own_keep O1 hb2
  clear O1
  go_wp2_with fail
  refine (l22Ahead_eq k3 (HT.out _ hbw2)).mono ?_
  rintro e w3 ⟨rfl, hb3⟩
  have hbw3 := bStep hbw2 hb3
  have O3 := own_keep O2 hb3
  clear O2
  go_wp2_with fail
  refine (l22Ahead_eq k4 (HF.out _ hbw3)).mono ?_
  rintro e w4 ⟨rfl, hb4⟩
  have hbw4 := bStep hbw3 hb4
  have O4 := own_keep O3 hb4
  clear O3
  go_wp2_with fail
  refine (l6In_b k5 _).mono ?_
  rintro e w5 ⟨rfl, hb5⟩
  have hbw5 := bStep hbw4 hb5
  have O5 := own_keep O4 hb5
  clear O4
  go_wp2_with fail
  clear hb1 hb2 hb3 hb4 hb5 hbw1 hbw2 hbw3 hbw4 k1 k2 k3 k4 k5 hbE
  go_loopw [8, 9] (fun o b wr => ∃ B : Nat, B ≤ R ∧ b = .int .i64 ((B : Int) + 1) ∧ OwnR wr w.heap.size o (chV T F (tsM (B + 1))) ∧ Below w.heap.size w wr) (fun _ b _ => R + 1 - (intOf b).toNat)
  case atStart => exact ⟨0, by omega, rfl, by rw [C0.out]; exact O5, hbw5⟩
  case round =>
    clear O5 hbw5 C0
    obtain ⟨B, hBR, rfl, hown, hb⟩ := hrel
    have HO : Hid (OwnR wr w.heap.size u8 (chV T F (tsM (B + 1)))) := hown
    clear hown
    by_cases hlt : B < R
    · have ib : (B : Int) + 1 ≤ (R : Int) := by omega
      go_wp2_with fail
      go_loopw [8, 10] (fun o b wr => ∃ A : Nat, A ≤ 8 ∧ b = .int .i64 (A : Int) ∧ OwnR wr w.heap.size o (chV T F (tsM (B + 1) ++ gridCol A (B + 1))) ∧ Below w.heap.size w wr) (fun _ b _ => 8 - (intOf b).toNat)
      case atStart => exact ⟨0, by omega, rfl, by rw [show gridCol 0 (B + 1) = [] from rfl, List.append_nil]; exact HO.out, hb⟩
      case round =>
        clear HO hb
        obtain ⟨A, hA8, rfl, hown, hb⟩ := hrel
        by_cases hA : A < 8
        · obtain ⟨Wd, hWd⟩ : ∃ Wd, Wd = wr := ⟨_, rfl⟩
          subst hWd
          have HO : Hid (OwnR Wd w.heap.size u8 (chV T F (tsM (B + 1) ++ gridCol A (B + 1)))) := hown
          have hts := ok_app (tsM_ok (B := B + 1) (by omega)) (col_ok (n := A) (b := B + 1) (by omega) (by omega))
          have hCl : (chV T F (tsM (B + 1) ++ gridCol A (B + 1))).length ≤ 400 := by
            have := chV_len T F (tsM (B + 1) ++ gridCol A (B + 1))
            rw [List.length_append, tsM_len, colT_len] at this
            omega
          have HAB : Hid (absum (chV T F (tsM (B + 1) ++ gridCol A (B + 1))) ≤ 1000) := by
            have := chV_abs (T := T) (F := F) hts
            rw [List.length_append, tsM_len, colT_len] at this
            show _ ≤ _
            omega
          have HCH : Hid (∀ r ∈ chV T F (tsM (B + 1) ++ gridCol A (B + 1)), -2 ≤ r.2 ∧ r.2 ≤ 2) := fun r hr => ⟨(chV_row hts hr).2.1, (chV_row hts hr).2.2.1⟩
          have HLK : Hid (sumL ltT (vL T F A ((B : Int) + 1) ++ negI (atL (chV T F (tsM (B + 1) ++ gridCol A (B + 1))) A ((B : Int) + 1))) = dV T F ((A : Int), (B : Int) + 1)) := lack_M T F (by omega) hA
          have HNX : Hid (chV T F (tsM (B + 1) ++ gridCol (A + 1) (B + 1)) = chV T F (tsM (B + 1) ++ gridCol A (B + 1)) ++ stamp ((A : Int), (B : Int) + 1) (dV T F ((A : Int), (B : Int) + 1))) := by
            show _ = _
            rw [col_snoc, ← List.append_assoc, chV_snoc]; rfl
          have hRo : Rs Wd u8 (chV T F (tsM (B + 1) ++ gridCol A (B + 1))) := OwnR.rs hown (by omega)
          obtain ⟨ao, cpo, rfl, -, -, -, hcc⟩ := Rs.open hRo
          have HCC := (show Hid _ from hcc)
          have hlV := vL_len T F A ((B : Int) + 1)
          have HS1 : Hid (absum (vL T F A ((B : Int) + 1)) ≤ 4) := vL_abs T F _ _
          have hd5 := dV_len T F ((A : Int), (B : Int) + 1)
          have ia : (A : Int) ≤ 7 := by omega
          have hbs := hb.size
          clear hown hRo hcc hts
          have bX := Bk.new (w := Wd) #[.int .i64 (A : Int), .int .i64 0] 44 rfl
          have hbX : Below Wd.heap.size Wd (Wd.alloc (.cells #[.int .i64 (A : Int), .int .i64 0] 44)) := bAlloc (Below.refl _ _) _
          go_upto_region 11 with fail
          generalize hCE : chV T F (tsM (B + 1) ++ gridCol A (B + 1)) = C at *
          clear hCE
          generalize (Wd.alloc (.cells #[.int .i64 (A : Int), .int .i64 0] 44)) = W1 at *
          have hsW1 : Wd.heap.size + 1 ≤ W1.heap.size := bX.lt
          have HX : Hid (∀ V', Below W1.heap.size W1 V' → V'.cell? ⟨Wd.heap.size, 0, none⟩ = some (.int .i64 (A : Int)) ∧ V'.cell? ⟨Wd.heap.size, 1, none⟩ = some (.int .i64 0)) := fun V' hV => ⟨(bX.keep hV).two.1, (bX.keep hV).two.2.1⟩
          have HWd : Hid (∀ V', Below W1.heap.size W1 V' → Below Wd.heap.size Wd V') := fun V' hV => bStep hbX hV
          have HW1 : Hid (∀ V', Below W1.heap.size W1 V' → Below w.heap.size w V') := fun V' hV => bStep hb (bStep hbX hV)
          have hbP : Below W1.heap.size W1 W1.drew := (Below.refl _ _).drew
          clear bX hbX hb
          go_wp2_with fail
          go_region_held3 (fun V' => V'.cell? ⟨Wd.heap.size, 0, none⟩ = some (.int .i64 (A : Int)) ∧ V'.cell? ⟨Wd.heap.size, 1, none⟩ = some (.int .i64 0))
            (first | exact HX.out _ hS | exact HX.out _ hf | exact HX.out _ hTa | exact HX.out _ hFa | exact HX.out _ hbP)
            (first
              | (go_at_call 70; with_reducible refine (specAt_any u F A 0 _ (HF.out _ (HW1.out _ hTa))).mono ?_; rintro e wf ⟨oF, rfl, ownf, hbf⟩; have hf : Below W1.heap.size W1 wf := bStep hTa hbf; have ITf : Is wf oT (itemsL T A 0) := SlK.keep ITa hbf; have IFf : Is wf oF (itemsL F A 0) := OwnI.is ownf (by have := items_len F A 0; omega))
              | (go_at_call 70; with_reducible refine (specAt_any v T A 0 _ (HT.out _ (HW1.out _ hFa))).mono ?_; rintro e wf ⟨oT, rfl, ownf, hbf⟩; have hf : Below W1.heap.size W1 wf := bStep hFa hbf; have IFf : Is wf oF (itemsL F A 0) := SlK.keep IFa hbf; have ITf : Is wf oT (itemsL T A 0) := OwnI.is ownf (by have := items_len T A 0; omega))
              | (go_at_call 70; with_reducible refine (specAt_any v T A 0 _ (HT.out _ (HW1.out _ hbP))).mono ?_; rintro e wT ⟨oT, rfl, owna, hba⟩; have hTa : Below W1.heap.size W1 wT := bStep hbP hba; have ITa : Is wT oT (itemsL T A 0) := OwnI.is owna (by have := items_len T A 0; omega))
              | (go_at_call 70; with_reducible refine (specAt_any u F A 0 _ (HF.out _ (HW1.out _ hbP))).mono ?_; rintro e wF ⟨oF, rfl, owna, hba⟩; have hFa : Below W1.heap.size W1 wF := bStep hbP hba; have IFa : Is wF oF (itemsL F A 0) := OwnI.is owna (by have := items_len F A 0; omega))
              | (go_at_call 19; refine (specLoopSet_any oT oF (itemsL T A 0) (itemsL F A 0) ((B : Int) + 1) _ ITf IFf).mono ?_; rintro e wS ⟨oS, rfl, ownS, hbS⟩; have hS : Below W1.heap.size W1 wS := bStep hf hbS; have HSO : Hid (OwnI wS W1.heap.size oS (vL T F A ((B : Int) + 1))) := own_less ownS hf.size))
          all_goals
            have bY0 : Bk (wS.alloc (.cells #[.int .i64 (A : Int), .int .i64 ((B : Int) + 1)] 44)) wS.heap.size #[.int .i64 (A : Int), .int .i64 ((B : Int) + 1)] 44 := Bk.new _ _ rfl
            have hY0 : Below W1.heap.size W1 (wS.alloc (.cells #[.int .i64 (A : Int), .int .i64 ((B : Int) + 1)] 44)) := bStep hS (bAlloc (Below.refl _ _) _)
            have HSO2 : Hid (OwnI (wS.alloc (.cells #[.int .i64 (A : Int), .int .i64 ((B : Int) + 1)] 44)) W1.heap.size oS (vL T F A ((B : Int) + 1))) := own_keep HSO.out (bAlloc (Below.refl _ _) _)
            have hyS := hS.size
            clear HSO hS
            go_upto_region 13 with fail
            generalize (wS.alloc (.cells #[.int .i64 (A : Int), .int .i64 ((B : Int) + 1)] 44)) = W2 at *
            generalize wS.heap.size = yb at *
            generalize hSS : vL T F A ((B : Int) + 1) = S at *
            clear hSS
            go_wp2_with fail
            go_loopw [12, 14] (fun o b wq => ∃ k : Nat, k ≤ C.length ∧ b = .int .i64 k ∧ OwnI wq W1.heap.size o (S ++ negI (atL (C.take k) A ((B : Int) + 1))) ∧ Bk wq yb #[.int .i64 (A : Int), .int .i64 ((B : Int) + 1)] 44 ∧ Below W1.heap.size W1 wq) (fun _ b _ => C.length - (intOf b).toNat)
            case atStart => exact ⟨0, by omega, rfl, by have := HSO2.out; simpa [atL, negI] using this, bY0, hY0⟩
            case round =>
              clear HSO2 bY0 hY0
              obtain ⟨k, hkC, rfl, hown, bY, hbq⟩ := hrel
              have HOq : Hid (OwnI wr W1.heap.size u12 (S ++ negI (atL (C.take k) A ((B : Int) + 1)))) := hown
              have hszk := hbq.size
              have hLn : (S ++ negI (atL (C.take k) A ((B : Int) + 1))).length ≤ 200000 := by
                have := atL_len (C.take k) A ((B : Int) + 1)
                rw [List.length_append, negI_len]; rw [List.length_take] at this; omega
              have hbr := HWd.out _ hbq
              by_cases hlk : k < C.length
              · obtain ⟨g, off, K, V, A', B', D, rfl, hgl, hr, c0, c1, c2, c3, c4⟩ := HCC.out k hlk
                have HR := (show Hid _ from hr)
                obtain ⟨d1, d2⟩ : -2 ≤ D ∧ D ≤ 2 := HCH.out _ (List.mem_of_getElem? hr)
                have e2 : ∀ p : Bel wr, p.ww.cell? ⟨g, off + k * 5 + 2, none⟩ = some (.int .i64 A') := fun p => cell_below p.below (cell_below hbr c2)
                have e3 : ∀ p : Bel wr, p.ww.cell? ⟨g, off + k * 5 + 3, none⟩ = some (.int .i64 B') := fun p => cell_below p.below (cell_below hbr c3)
                have t0 := bY.bel0
                have t1 := bY.bel1
                have hne := bel_some wr
                have ik : ((k : Int) < (C.length : Int)) := by omega
                have iw : IntKind.i64.wrap (-D) = -D := by rw [IntKind.wrap_i64]; omega
                have HXC : Hid (∀ W, Below W1.heap.size W1 W → W.cell? ⟨g, off + k * 5, none⟩ = some (.int .i64 K) ∧ W.cell? ⟨g, off + k * 5 + 1, none⟩ = some (.int .i64 V) ∧ W.cell? ⟨g, off + k * 5 + 4, none⟩ = some (.int .i64 D)) := fun W hW => ⟨cell_below (HWd.out W hW) c0, cell_below (HWd.out W hW) c1, cell_below (HWd.out W hW) c4⟩
                have HBY := (show Hid (Bk wr yb #[.int .i64 (A : Int), .int .i64 ((B : Int) + 1)] 44) from bY)
                clear c0 c1 c2 c3 c4 hr hown bY
                cases hp : leB A' B' A ((B : Int) + 1)
                · have HZ : Hid (atL (C.take (k + 1)) A ((B : Int) + 1) = atL (C.take k) A ((B : Int) + 1)) := atL_no HR.out hp
                  go_wp2_with fail
                  (refine wp_region_bel (by kernel_rfl) (by kernel_rfl) ?_; (repeat (go_big_quiet_step ((first | (go_at_call 83; exact calls_bel (specLess_eq (by with_reducible assumption) _)))))); refine wpQuiet_nil ?_)
                  intro w3 hw3
                  replace hw3 := bel_out hw3
                  have O3 : Hid (OwnI w3 W1.heap.size u12 (S ++ negI (atL (C.take k) A ((B : Int) + 1)))) := own_keep HOq.out hw3
                  have bY3 := (show Hid _ from HBY.out.keep hw3)
                  have hb3 := bStep hbq hw3
                  clear HOq e2 e3 t0 t1 hne HBY
                  go_wp2_with fail
                  go_roundw
                  case rel => exact ⟨k + 1, by omega, by go_num, by rw [HZ.out]; exact O3.out, bY3.out, hb3⟩
                  case measure => simp [intOf]; omega
                · have HZ : Hid (S ++ negI (atL (C.take (k + 1)) A ((B : Int) + 1)) = S ++ negI (atL (C.take k) A ((B : Int) + 1)) ++ [((K, V), -D)]) := by
                    show _ = _; rw [atL_yes HR.out hp, negI_snoc1, List.append_assoc]
                  go_wp2_with fail
                  (refine wp_region_bel (by kernel_rfl) (by kernel_rfl) ?_; (repeat (go_big_quiet_step ((first | (go_at_call 83; exact calls_bel (specLess_eq (by with_reducible assumption) _)))))); refine wpQuiet_nil ?_)
                  intro w3 hw3
                  replace hw3 := bel_out hw3
                  have O3 : OwnI w3 W1.heap.size u12 (S ++ negI (atL (C.take k) A ((B : Int) + 1))) := own_keep HOq.out hw3
                  have hb3 := bStep hbq hw3
                  have hs3 := hb3.size
                  have HBY3 := (show Hid (Bk w3 yb #[.int .i64 (A : Int), .int .i64 ((B : Int) + 1)] 44) from HBY.out.keep hw3)
                  obtain ⟨y0, y1, y4⟩ := HXC.out w3 hb3
                  clear HOq e2 e3 t0 t1 hne HBY
                  generalize S ++ negI (atL (C.take k) A ((B : Int) + 1)) = LL at *
                  go_wp2_with fail
                  go_region_held3 (fun w' => w'.cell? ⟨g, off + k * 5, none⟩ = some (.int .i64 K) ∧ w'.cell? ⟨g, off + k * 5 + 1, none⟩ = some (.int .i64 V) ∧ w'.cell? ⟨g, off + k * 5 + 4, none⟩ = some (.int .i64 D))
                    (first | exact HXC.out _ hb3.drew | exact HXC.out _ (bAllocT hb3 hs3 _).drew | exact HXC.out _ hb7)
                    (first
                      | (refine stepI _ (by rfl) _ _ (by rfl) W1.heap.size _ LL (by rfl) ((O3.alloc _).drew) _ K V (-D) (by rfl) ((Bk.new _ _ rfl).drew) (by omega) (by simp; omega) ?_; intro g7 cap7 w7 own7 hgrow hlg; have hb7 : Below W1.heap.size W1 w7 := Below.grew (bAllocT hb3 hs3 _).drew hgrow (by simp; omega) (fun q e => ownK_base O3 q e); have bY7 : Bk w7 yb #[.int .i64 (A : Int), .int .i64 ((B : Int) + 1)] 44 := bk_appI ((HBY3.out.alloc _).drew) ((O3.alloc _).drew) hgrow))
                  go_wp2_with fail
                  go_roundw
                  case rel => exact ⟨k + 1, by omega, by go_num, by rw [HZ.out]; exact own7, bY7, hb7⟩
                  case measure => simp [intOf]; omega
              · obtain rfl : k = C.length := by omega
                have hLS : absum (S ++ negI (atL C A ((B : Int) + 1))) ≤ 300000 := by
                  have h1 := atL_abs (l := C) (x := A) (y := (B : Int) + 1)
                  have h2 := HS1.out
                  have h3 := HAB.out
                  rw [absum_append, absum_negI]; omega
                rw [List.take_length] at hLn
                have IL : Is wr u12 (S ++ negI (atL C A ((B : Int) + 1))) := by have := HOq.out; rw [List.take_length] at this; exact OwnI.is this (by omega)
                have ik : ¬ ((C.length : Int) < (C.length : Int)) := by omega
                clear HOq hown
                obtain ⟨Wk, hWk⟩ : ∃ Wk, Wk = wr := ⟨_, rfl⟩
                subst hWk
                go_wp2_with fail
                refine (l2Items_any _ (S ++ negI (atL C A ((B : Int) + 1))) _ IL (by omega) (by omega)).mono ?_
                rw [HLK.out]
                rintro e W5 ⟨o5, rfl, own5, hb5⟩
                have I5 := OwnI.is own5 (by omega)
                obtain ⟨a5, cp5, rfl, -⟩ := Is.open I5
                have hbr5 := bStep hbr hb5
                have hb15 := bStep hbq hb5
                have BX5 := (show Hid (Bk W5 yb #[.int .i64 (A : Int), .int .i64 ((B : Int) + 1)] 44) from bY.keep hb5)
                have HOW : Hid (OwnR W5 w.heap.size (.slice ao C.length cpo) C) := own_keep HO.out hbr5
                have HLT : Hid (∀ q, (Value.slice ao C.length cpo).ownBlock = some q → q < Wd.heap.size ∧ w.heap.size ≤ q) := fun q e => ⟨ownK_lt HO.out q e, ownK_base HO.out q e⟩
                have HBW5 : Hid (Below w.heap.size w W5) := HW1.out _ hb15
                have hs15 := hb15.size
                have HI5 : Hid (∀ W, W5.grownBy W (Value.slice ao C.length cpo).ownBlock → Is W (.slice a5 (dV T F ((A : Int), (B : Int) + 1)).length cp5) (dV T F ((A : Int), (B : Int) + 1)) ∧ Bk W yb #[.int .i64 (A : Int), .int .i64 ((B : Int) + 1)] 44) := fun W hW => by
                  refine ⟨OwnI.is (ownK_at own5 fun q e => hW.block q (ownK_lt own5 q e) (fun e' => ?_)) (by omega), Bk.grew BX5.out hW (fun q e => ?_)⟩
                  · have h1 := ownK_base own5 q e
                    have h2 := (HLT.out q e'.symm).1
                    omega
                  · have h2 := (HLT.out q e).1
                    omega
                clear IL own5 I5 hb5 hbr5 hb15 bY hbr hbq BX5
                generalize hDD : dV T F ((A : Int), (B : Int) + 1) = DD at *
                clear hDD
                go_wp2_with fail
                go_loopw [8, 15] (fun o b wq => ∃ k : Nat, k ≤ DD.length ∧ b = .int .i64 k ∧ OwnR wq w.heap.size o (C ++ stamp ((A : Int), (B : Int) + 1) (DD.take k)) ∧ (∀ q, o.ownBlock = some q → (Value.slice ao C.length cpo).ownBlock = some q ∨ W5.heap.size ≤ q) ∧ W5.grownBy wq (Value.slice ao C.length cpo).ownBlock) (fun _ b _ => DD.length - (intOf b).toNat)
                case atStart => exact ⟨0, by omega, rfl, by have := HOW.out; simpa [stamp] using this, fun q e => .inl e, ⟨rfl, rfl, rfl, Nat.le_refl _, fun _ _ _ => rfl⟩⟩
                case round =>
                  clear HOW
                  obtain ⟨k, hkD, rfl, hown, hq, hg⟩ := hrel
                  have HOq : Hid (OwnR wr w.heap.size u8 (C ++ stamp ((A : Int), (B : Int) + 1) (DD.take k))) := hown
                  have HQq : Hid (∀ q, u8.ownBlock = some q → (Value.slice ao C.length cpo).ownBlock = some q ∨ W5.heap.size ≤ q) := hq
                  have HGq : Hid (W5.grownBy wr (Value.slice ao C.length cpo).ownBlock) := hg
                  have hsg := hg.size
                  obtain ⟨I6, BX6⟩ := HI5.out wr hg
                  clear hown hq hg
                  by_cases hlk : k < DD.length
                  · obtain ⟨a6, cp6, e6, -, -, -, hcells6⟩ := Is.open I6
                    obtain ⟨g, off, K, V, D, e7, hgl, hr, c0, c1, c2⟩ := hcells6 k hlk
                    cases e6
                    cases e7
                    have HR : Hid (C ++ stamp ((A : Int), (B : Int) + 1) (DD.take (k + 1)) = C ++ stamp ((A : Int), (B : Int) + 1) (DD.take k) ++ [(((K, V), ((A : Int), (B : Int) + 1)), D)]) := by show _ = _; rw [stamp_snoc hr, List.append_assoc]
                    have ik : ((k : Int) < (DD.length : Int)) := by omega
                    have hLn2 : (C ++ stamp ((A : Int), (B : Int) + 1) (DD.take k)).length ≤ 200000 := by rw [List.length_append, stamp_len, List.length_take]; omega
                    have HXD : Hid (∀ W, wr.grownBy W u8.ownBlock → W.cell? ⟨g, off + k * 3, none⟩ = some (.int .i64 K) ∧ W.cell? ⟨g, off + k * 3 + 1, none⟩ = some (.int .i64 V) ∧ W.cell? ⟨g, off + k * 3 + 2, none⟩ = some (.int .i64 D) ∧ W.cell? ⟨yb, 0, none⟩ = some (.int .i64 (A : Int)) ∧ W.cell? ⟨yb, 1, none⟩ = some (.int .i64 ((B : Int) + 1))) := fun W hW => by
                      obtain ⟨I7, BX7⟩ := HI5.out W (HGq.out.andThen hW (fun j e => (HQq.out j e).symm))
                      obtain ⟨a7, cp7, e8, -, -, -, hcells7⟩ := Is.open I7
                      obtain ⟨g', off', K', V', D', e9, _, hr', f0, f1, f2⟩ := hcells7 k hlk
                      cases e8
                      cases e9
                      rw [hr] at hr'
                      cases hr'
                      exact ⟨f0, f1, f2, BX7.two.1, BX7.two.2.1⟩
                    have O6 : OwnR wr w.heap.size u8 (C ++ stamp ((A : Int), (B : Int) + 1) (DD.take k)) := HOq.out
                    have hobw : w.heap.size ≤ wr.heap.size := by omega
                    obtain ⟨z0, z1, z2, z3, z4⟩ := HXD.out wr ⟨rfl, rfl, rfl, Nat.le_refl _, fun _ _ _ => rfl⟩
                    clear hr c0 c1 c2 hcells6 I6 BX6 HOq
                    generalize C ++ stamp ((A : Int), (B : Int) + 1) (DD.take k) = LL at *
                    go_wp2_with fail
                    go_region_held3 (fun w' => w'.cell? ⟨g, off + k * 3, none⟩ = some (.int .i64 K) ∧ w'.cell? ⟨g, off + k * 3 + 1, none⟩ = some (.int .i64 V) ∧ w'.cell? ⟨g, off + k * 3 + 2, none⟩ = some (.int .i64 D) ∧ w'.cell? ⟨yb, 0, none⟩ = some (.int .i64 (A : Int)) ∧ w'.cell? ⟨yb, 1, none⟩ = some (.int .i64 ((B : Int) + 1)))
                      (first | exact HXD.out _ (grown_of (Below.refl _ _).drew _) | exact HXD.out _ (grown_of (bAlloc (Below.refl _ _) _).drew _) | exact HXD.out _ hg7)
                      (first
                        | (refine stepR2 _ (by rfl) _ _ (by rfl) w.heap.size _ LL (by rfl) ((O6.alloc _).drew) _ K V A ((B : Int) + 1) D (by rfl) ((Bk.new _ _ rfl).drew) (by omega) (by simp; omega) ?_; intro g7 cap7 w7 own7 hgrow hgq hlg; have hg7 : wr.grownBy w7 u8.ownBlock := (grown_of (bAlloc (Below.refl _ wr) _).drew _).andThen hgrow (fun j e => .inr e)))
                    have HQ7 : Hid (∀ q, (Value.slice (some ⟨g7, 0, none⟩) (LL.length + 1) cap7).ownBlock = some q → (Value.slice ao C.length cpo).ownBlock = some q ∨ W5.heap.size ≤ q) := fun q e => by
                      cases e
                      rcases hgq with e | e
                      · exact HQq.out _ e
                      · right
                        have h1 : g7 = wr.heap.size + 1 := by rw [e]; simp
                        show W5.heap.size ≤ g7
                        omega
                    have HG7 : Hid (W5.grownBy w7 (Value.slice ao C.length cpo).ownBlock) := HGq.out.andThen hg7 (fun j e => (HQq.out j e).symm)
                    have HO7 : Hid (OwnR w7 w.heap.size (.slice (some ⟨g7, 0, none⟩) (LL.length + 1) cap7) (LL ++ [(((K, V), ((A : Int), (B : Int) + 1)), D)])) := own7
                    clear hgq hgrow hg7 own7
                    go_wp2_with fail
                    go_roundw
                    case rel => exact ⟨k + 1, by omega, by go_num, by rw [HR.out]; exact HO7.out, HQ7.out, HG7.out⟩
                    case measure => simp [intOf]; omega
                  · obtain rfl : k = DD.length := by omega
                    have ik : ¬ ((DD.length : Int) < (DD.length : Int)) := by omega
                    have HF9 : Hid (OwnR wr w.heap.size u8 (chV T F (tsM (B + 1) ++ gridCol (A + 1) (B + 1))) ∧ Below w.heap.size w wr) := by
                      refine ⟨?_, Below.grew HBW5.out HGq.out (by have := HBW5.out.size; omega) (fun q e => (HLT.out q e).2)⟩
                      have := HOq.out; rw [List.take_length] at this; rw [HNX.out]; exact this
                    clear HOq HQq HGq I6 BX6
                    go_wp2_with fail
                    go_roundw
                    case rel => exact ⟨A + 1, by omega, by go_num, HF9.out.1, HF9.out.2⟩
                    case measure => simp [intOf]; omega
        · obtain rfl : A = 8 := by omega
          have HO : Hid (OwnR wr w.heap.size u8 (chV T F (tsM (B + 1 + 1)))) := by have := hown; rw [← tsM_snoc] at this; exact this
          have ia : ¬ (((8 : Nat) : Int) ≤ 7) := by omega
          clear hown
          go_wp2_with fail
          go_roundw
          case rel => exact ⟨B + 1, by omega, by go_num, HO.out, hb⟩
          case measure => simp [intOf]; omega
    · obtain rfl : B = R := by omega
      have ib : ¬ ((B : Int) + 1 ≤ (B : Int)) := by omega
      have hlen : (chV T F (tsM (B + 1))).length ≤ 400 := by
        have := chV_len T F (tsM (B + 1))
        rw [tsM_len] at this
        omega
      have habs : absum (chV T F (tsM (B + 1))) ≤ 1000 := by
        have := chV_abs (T := T) (F := F) (tsM_ok (B := B + 1) (by omega))
        rw [tsM_len] at this
        omega
      have R4 := OwnR.rs HO.out (by omega)
      have hbs := hb.size
      clear HO
      go_wp2_with fail
      refine (l2Sum_any _ _ _ R4 (by omega) (by omega)).mono ?_
      rw [lflow_M T F hR6]
      rintro e w6 ⟨o6, rfl, own6, hb6⟩
      have O6 : Hid (OwnR w6 wr.heap.size o6 (lflowS T F B)) := own6
      clear own6
      go_wp2_with fail
      refine bodyPost_ret (by simp [results, Try.results55, go_sem]; try rfl) rfl ?_
      exact ⟨_, by rw [HL.out], by rw [HE.out]; exact own_less O6.out hbs, bStep hb hb6⟩
end Go.Proofs.Ytjlaeeccnbdghaa
