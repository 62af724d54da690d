import Derived.Test.YtdbhgocaelmanaaGreatGl1
import Derived.Test.YtdbhgocaelmanaaGreatGt7
import Derived.Test.YtdbhgocaelmanaaGreatGs2
namespace Go.Proofs.YtdbhgocaelmanaaGreat
open Go.RowKit
theorem eachR_yes {how : Int} {l : List Rw} {k : Nat} {r : Rw} (h : l[k]? = some r) (hp : wayP how r.1.1 = true) : eachR how (l.take (k + 1)) = eachR how (l.take k) ++ [((wayM how r.1.1, r.1.2), r.2)] := by
  unfold eachR; rw [take_snoc h, List.filter_append, List.map_append]; simp [hp]
theorem eachR_no {how : Int} {l : List Rw} {k : Nat} {r : Rw} (h : l[k]? = some r) (hp : wayP how r.1.1 = false) : eachR how (l.take (k + 1)) = eachR how (l.take k) := by
  unfold eachR; rw [take_snoc h, List.filter_append, List.map_append]; simp [hp]
theorem rok_kt {l : List Rw} (h : rokB l = true) (k : Nat) : ∀ K V A B D : Int, l[k]? = some (((K, V), (A, B)), D) → 0 ≤ K ∧ K ≤ 3 ∧ 0 ≤ V ∧ V ≤ 99 ∧ okB A B = true := fun K V A B D hr => by
  have h1 := rok_at h (List.mem_of_getElem? hr)
  obtain ⟨a, b, c, d⟩ := rw_k h1
  exact ⟨a, b, c, d, rw_time h1⟩
theorem eachR_sp {how : Int} {l : List Rw} (h : rokB l = true) : ∀ r ∈ eachR how l, spOk r.1 := fun _ hr => rw_sp (rok_at (eachR_rok h) hr)
set_option maxRecDepth 100000 in
set_option maxHeartbeats 8000000 in
theorem implFlowEach_1 (v : Value) (l : List Rw) (w : World) (h : Rs w v l) :
    Calls Tryz.prog 37 #[v, .int .i64 1] w fun e w' => ∃ o : Value, e = .returned o ∧ OwnR w' w.heap.size o (feachL l 1) ∧ Below w.heap.size w w' := by
  cases hk : rokB l
  · have HF : Hid (feachL l 1 = []) := feach_no1 hk
    go_enter Tryz.func37, Tryz.ntmps37
    go_wp2_with fail
    refine (wayOf_1 _).mono ?_
    rintro e w1 ⟨rfl, hb1⟩
    go_wp2_with fail
    refine (implRowsOk_eq hk (h.keep hb1)).mono ?_
    rintro e w2 ⟨rfl, hb2⟩
    go_wp2_with fail
    go_ret
    refine ⟨_, rfl, ?_, bStep hb1 hb2⟩
    rw [HF.out]
    exact ownK_nil _ _ _ _ _
  have HF : Hid (feachL l 1 = sumF (eachR 1 l)) := feach_yes hk (by decide)
  have hl := rok_len hk
  have HK : Hid (∀ (k : Nat) (K V A B D : Int), l[k]? = some (((K, V), (A, B)), D) → 0 ≤ K ∧ K ≤ 3 ∧ 0 ≤ V ∧ V ≤ 99 ∧ okB A B = true) := rok_kt hk
  have HA : Hid (absum (eachR 1 l) ≤ 39999600) := by have h1 := eachR_abs 1 l; have h2 := rok_absF hk; show _ ≤ _; omega
  have HSP : Hid (∀ r ∈ eachR 1 l, spOk r.1) := eachR_sp hk
  go_enter Tryz.func37, Tryz.ntmps37
  go_wp2_with fail
  refine (wayOf_1 _).mono ?_
  rintro e w0 ⟨rfl, hb0⟩
  go_wp2_with fail
  refine (implRowsOk_eq hk (h.keep hb0)).mono ?_
  rintro e w1 ⟨rfl, hb1⟩
  have hbw1 := bStep hb0 hb1
  obtain ⟨a, cap, rfl, hc, hm, hn, hcells⟩ := Rs.open h
  unfold maxLen at hm
  have HC := (show Hid _ from hcells)
  clear hcells h hk hb0 hb1
  go_wp2_with fail
  go_loopw [7, 26] (fun o i wr => ∃ k : Nat, k ≤ l.length ∧ i = .int .i64 k ∧ OwnR wr w.heap.size o (eachR 1 (l.take k)) ∧ Below w.heap.size w wr) (fun _ i _ => l.length - (intOf i).toNat)
  case atStart => exact ⟨0, by omega, rfl, by simpa [eachR] using ownK_nil rowC 5 41 w1 w.heap.size, hbw1⟩
  case round =>
    clear hbw1
    obtain ⟨k, hkl, rfl, hown, hb⟩ := hrel
    have HO : Hid (OwnR wr w.heap.size u7 (eachR 1 (l.take k))) := hown
    have hel : (eachR 1 (l.take k)).length ≤ 400 := by have := eachR_len 1 (l.take k); simp at this; omega
    clear hown
    by_cases hlt : k < l.length
    · obtain ⟨g, off, K, V, A, B, D, rfl, hg, hr, c0, c1, c2, c3, c4⟩ := HC.out k hlt
      obtain ⟨i1, i2, i3, i4, -⟩ := HK.out k _ _ _ _ _ hr
      have d0 := cell_below hb c0
      have d1 := cell_below hb c1
      have d2 := cell_below hb c2
      have d3 := cell_below hb c3
      have d4 := cell_below hb c4
      have ik : ((k : Int) < (l.length : Int)) := by omega
      have bx := Bk.new (w := wr) #[.int .i64 K, .int .i64 V, .int .i64 A, .int .i64 B, .int .i64 D] 41 rfl
      have hbx0 : Below wr.heap.size wr (wr.alloc (.cells #[.int .i64 K, .int .i64 V, .int .i64 A, .int .i64 B, .int .i64 D] 41)) := bAlloc (Below.refl _ _) _
      have hbx := bStep hb hbx0
      have O1 : Hid (OwnR (wr.alloc (.cells #[.int .i64 K, .int .i64 V, .int .i64 A, .int .i64 B, .int .i64 D] 41)) w.heap.size u7 (eachR 1 (l.take k))) := own_keep HO.out hbx0
      have HYES : Hid (wayP 1 (K, V) = true → eachR 1 (l.take (k + 1)) = eachR 1 (l.take k) ++ [((wayM 1 (K, V), (A, B)), D)]) := fun hp => eachR_yes hr hp
      have HNO : Hid (wayP 1 (K, V) = false → eachR 1 (l.take (k + 1)) = eachR 1 (l.take k)) := fun hp => eachR_no hr hp
      clear c0 c1 c2 c3 c4 hr hbx0 hb HO
      go_upto_region 8 with fail
      clear d0 d1 d2 d3 d4
      generalize wr.heap.size = tb at *
      generalize World.alloc _ _ = wx at *
      obtain ⟨q0, q1, q2, q3, q4⟩ := bx.five
      go_wp2_with fail
      refine (way1_any K V _ i1 i2 i3 i4).mono ?_
      rintro e wy ⟨rfl, hby⟩
      have by1 := bx.keep hby
      have O2 : Hid (OwnR wy w.heap.size u7 (eachR 1 (l.take k))) := own_keep O1.out hby
      have hbn := bStep hbx hby
      have HM : Hid (wayM 1 (K, V) = ((wayM 1 (K, V)).1, (wayM 1 (K, V)).2)) := rfl
      clear q0 q1 q2 q3 q4 bx hbx hby O1
      generalize (wayM 1 (K, V)).1 = K2 at *
      generalize (wayM 1 (K, V)).2 = V2 at *
      generalize hP : wayP 1 (K, V) = r at *
      clear hP
      have bt0 := Bk.new (w := wy) #[.int .i64 K2, .int .i64 V2] 103 rfl
      have hbt : Below wy.heap.size wy (wy.alloc (.cells #[.int .i64 K2, .int .i64 V2] 103)) := bAlloc (Below.refl _ _) _
      have bz := by1.keep hbt
      have hbz := bStep hbn hbt
      have O3 : Hid (OwnR (wy.alloc (.cells #[.int .i64 K2, .int .i64 V2] 103)) w.heap.size u7 (eachR 1 (l.take k))) := own_keep O2.out hbt
      go_upto_region 9 with fail
      clear by1 hbn hbt O2
      generalize wy.heap.size = ub at *
      generalize World.alloc _ _ = wt at *
      cases r
      · have HZ : Hid (eachR 1 (l.take (k + 1)) = eachR 1 (l.take k)) := HNO.out rfl
        go_wp2_with fail
        go_roundw
        case rel => exact ⟨k + 1, by omega, by go_num, (by rw [HZ.out]; exact O3.out), hbz⟩
        case measure => simp [intOf]; omega
      · have HZ : Hid (eachR 1 (l.take (k + 1)) = eachR 1 (l.take k) ++ [(((K2, V2), (A, B)), D)]) := by show _ = _; rw [HYES.out rfl, HM.out]
        obtain ⟨y0, y1, y2, y3, y4⟩ := bz.five
        obtain ⟨t0, t1, _, _⟩ := bt0.two
        have hsz := hbz.size
        have O4 := O3.out.alloc (.cells #[.int .i64 K2, .int .i64 V2, .int .i64 A, .int .i64 B, .int .i64 D] 41)
        clear O3
        generalize hE : eachR 1 (l.take k) = EL at *
        go_wp2_with (at_builtin; refine appR _ rfl _ _ rfl w.heap.size _ EL rfl O4 _ K2 V2 A B D rfl (Bk.new _ _ rfl) (by omega) (by simp; omega) ?_; intro g7 cap7 w7 own7 hgrow hlg)
        have hb7 : Below w.heap.size w w7 := Below.grew (bAlloc hbz _) hgrow (by simp; omega) (ownK_base O4)
        go_roundw
        case rel => exact ⟨k + 1, by omega, by go_num, by rw [HZ.out]; exact own7, hb7⟩
        case measure => simp [intOf]; omega
    · obtain rfl : k = l.length := by omega
      rw [List.take_length] at HO hel
      have R1 : Rs wr u7 (eachR 1 l) := OwnR.rs HO.out (by omega)
      have hsz := hb.size
      clear HO
      go_wp2_with fail
      refine (batchOf_any _ (eachR 1 l) _ R1 (by omega) (by have := HA.out; omega) HSP.out).mono ?_
      rintro e w3 ⟨o3, rfl, own3, hb3⟩
      have O3 : Hid (OwnR w3 wr.heap.size o3 (sumF (eachR 1 l))) := own3
      clear own3
      go_wp2_with fail
      go_ret
      refine ⟨_, rfl, ?_, bStep hb hb3⟩
      rw [HF.out]
      exact own_less O3.out hsz
set_option maxRecDepth 100000 in
set_option maxHeartbeats 8000000 in
theorem implFlowEach_2 (v : Value) (l : List Rw) (w : World) (h : Rs w v l) :
    Calls Tryz.prog 37 #[v, .int .i64 2] w fun e w' => ∃ o : Value, e = .returned o ∧ OwnR w' w.heap.size o (feachL l 2) ∧ Below w.heap.size w w' := by
  cases hk : rokB l
  · have HF : Hid (feachL l 2 = []) := feach_no1 hk
    go_enter Tryz.func37, Tryz.ntmps37
    go_wp2_with fail
    refine (wayOf_2 _).mono ?_
    rintro e w1 ⟨rfl, hb1⟩
    go_wp2_with fail
    refine (implRowsOk_eq hk (h.keep hb1)).mono ?_
    rintro e w2 ⟨rfl, hb2⟩
    go_wp2_with fail
    go_ret
    refine ⟨_, rfl, ?_, bStep hb1 hb2⟩
    rw [HF.out]
    exact ownK_nil _ _ _ _ _
  have HF : Hid (feachL l 2 = sumF (eachR 2 l)) := feach_yes hk (by decide)
  have hl := rok_len hk
  have HK : Hid (∀ (k : Nat) (K V A B D : Int), l[k]? = some (((K, V), (A, B)), D) → 0 ≤ K ∧ K ≤ 3 ∧ 0 ≤ V ∧ V ≤ 99 ∧ okB A B = true) := rok_kt hk
  have HA : Hid (absum (eachR 2 l) ≤ 39999600) := by have h1 := eachR_abs 2 l; have h2 := rok_absF hk; show _ ≤ _; omega
  have HSP : Hid (∀ r ∈ eachR 2 l, spOk r.1) := eachR_sp hk
  go_enter Tryz.func37, Tryz.ntmps37
  go_wp2_with fail
  refine (wayOf_2 _).mono ?_
  rintro e w0 ⟨rfl, hb0⟩
  go_wp2_with fail
  refine (implRowsOk_eq hk (h.keep hb0)).mono ?_
  rintro e w1 ⟨rfl, hb1⟩
  have hbw1 := bStep hb0 hb1
  obtain ⟨a, cap, rfl, hc, hm, hn, hcells⟩ := Rs.open h
  unfold maxLen at hm
  have HC := (show Hid _ from hcells)
  clear hcells h hk hb0 hb1
  go_wp2_with fail
  go_loopw [7, 26] (fun o i wr => ∃ k : Nat, k ≤ l.length ∧ i = .int .i64 k ∧ OwnR wr w.heap.size o (eachR 2 (l.take k)) ∧ Below w.heap.size w wr) (fun _ i _ => l.length - (intOf i).toNat)
  case atStart => exact ⟨0, by omega, rfl, by simpa [eachR] using ownK_nil rowC 5 41 w1 w.heap.size, hbw1⟩
  case round =>
    clear hbw1
    obtain ⟨k, hkl, rfl, hown, hb⟩ := hrel
    have HO : Hid (OwnR wr w.heap.size u7 (eachR 2 (l.take k))) := hown
    have hel : (eachR 2 (l.take k)).length ≤ 400 := by have := eachR_len 2 (l.take k); simp at this; omega
    clear hown
    by_cases hlt : k < l.length
    · obtain ⟨g, off, K, V, A, B, D, rfl, hg, hr, c0, c1, c2, c3, c4⟩ := HC.out k hlt
      obtain ⟨i1, i2, i3, i4, -⟩ := HK.out k _ _ _ _ _ hr
      have d0 := cell_below hb c0
      have d1 := cell_below hb c1
      have d2 := cell_below hb c2
      have d3 := cell_below hb c3
      have d4 := cell_below hb c4
      have ik : ((k : Int) < (l.length : Int)) := by omega
      have bx := Bk.new (w := wr) #[.int .i64 K, .int .i64 V, .int .i64 A, .int .i64 B, .int .i64 D] 41 rfl
      have hbx0 : Below wr.heap.size wr (wr.alloc (.cells #[.int .i64 K, .int .i64 V, .int .i64 A, .int .i64 B, .int .i64 D] 41)) := bAlloc (Below.refl _ _) _
      have hbx := bStep hb hbx0
      have O1 : Hid (OwnR (wr.alloc (.cells #[.int .i64 K, .int .i64 V, .int .i64 A, .int .i64 B, .int .i64 D] 41)) w.heap.size u7 (eachR 2 (l.take k))) := own_keep HO.out hbx0
      have HYES : Hid (wayP 2 (K, V) = true → eachR 2 (l.take (k + 1)) = eachR 2 (l.take k) ++ [((wayM 2 (K, V), (A, B)), D)]) := fun hp => eachR_yes hr hp
      have HNO : Hid (wayP 2 (K, V) = false → eachR 2 (l.take (k + 1)) = eachR 2 (l.take k)) := fun hp => eachR_no hr hp
      clear c0 c1 c2 c3 c4 hr hbx0 hb HO
      go_upto_region 8 with fail
      clear d0 d1 d2 d3 d4
      generalize wr.heap.size = tb at *
      generalize World.alloc _ _ = wx at *
      obtain ⟨q0, q1, q2, q3, q4⟩ := bx.five
      go_wp2_with fail
      refine (way2_any K V _ i1 i2 i3 i4).mono ?_
      rintro e wy ⟨rfl, hby⟩
      have by1 := bx.keep hby
      have O2 : Hid (OwnR wy w.heap.size u7 (eachR 2 (l.take k))) := own_keep O1.out hby
      have hbn := bStep hbx hby
      have HM : Hid (wayM 2 (K, V) = ((wayM 2 (K, V)).1, (wayM 2 (K, V)).2)) := rfl
      clear q0 q1 q2 q3 q4 bx hbx hby O1
      generalize (wayM 2 (K, V)).1 = K2 at *
      generalize (wayM 2 (K, V)).2 = V2 at *
      generalize hP : wayP 2 (K, V) = r at *
      clear hP
      have bt0 := Bk.new (w := wy) #[.int .i64 K2, .int .i64 V2] 103 rfl
      have hbt : Below wy.heap.size wy (wy.alloc (.cells #[.int .i64 K2, .int .i64 V2] 103)) := bAlloc (Below.refl _ _) _
      have bz := by1.keep hbt
      have hbz := bStep hbn hbt
      have O3 : Hid (OwnR (wy.alloc (.cells #[.int .i64 K2, .int .i64 V2] 103)) w.heap.size u7 (eachR 2 (l.take k))) := own_keep O2.out hbt
      go_upto_region 9 with fail
      clear by1 hbn hbt O2
      generalize wy.heap.size = ub at *
      generalize World.alloc _ _ = wt at *
      cases r
      · have HZ : Hid (eachR 2 (l.take (k + 1)) = eachR 2 (l.take k)) := HNO.out rfl
        go_wp2_with fail
        go_roundw
        case rel => exact ⟨k + 1, by omega, by go_num, (by rw [HZ.out]; exact O3.out), hbz⟩
        case measure => simp [intOf]; omega
      · have HZ : Hid (eachR 2 (l.take (k + 1)) = eachR 2 (l.take k) ++ [(((K2, V2), (A, B)), D)]) := by show _ = _; rw [HYES.out rfl, HM.out]
        obtain ⟨y0, y1, y2, y3, y4⟩ := bz.five
        obtain ⟨t0, t1, _, _⟩ := bt0.two
        have hsz := hbz.size
        have O4 := O3.out.alloc (.cells #[.int .i64 K2, .int .i64 V2, .int .i64 A, .int .i64 B, .int .i64 D] 41)
        clear O3
        generalize hE : eachR 2 (l.take k) = EL at *
        go_wp2_with (at_builtin; refine appR _ rfl _ _ rfl w.heap.size _ EL rfl O4 _ K2 V2 A B D rfl (Bk.new _ _ rfl) (by omega) (by simp; omega) ?_; intro g7 cap7 w7 own7 hgrow hlg)
        have hb7 : Below w.heap.size w w7 := Below.grew (bAlloc hbz _) hgrow (by simp; omega) (ownK_base O4)
        go_roundw
        case rel => exact ⟨k + 1, by omega, by go_num, by rw [HZ.out]; exact own7, hb7⟩
        case measure => simp [intOf]; omega
    · obtain rfl : k = l.length := by omega
      rw [List.take_length] at HO hel
      have R1 : Rs wr u7 (eachR 2 l) := OwnR.rs HO.out (by omega)
      have hsz := hb.size
      clear HO
      go_wp2_with fail
      refine (batchOf_any _ (eachR 2 l) _ R1 (by omega) (by have := HA.out; omega) HSP.out).mono ?_
      rintro e w3 ⟨o3, rfl, own3, hb3⟩
      have O3 : Hid (OwnR w3 wr.heap.size o3 (sumF (eachR 2 l))) := own3
      clear own3
      go_wp2_with fail
      go_ret
      refine ⟨_, rfl, ?_, bStep hb hb3⟩
      rw [HF.out]
      exact own_less O3.out hsz
set_option maxRecDepth 100000 in
set_option maxHeartbeats 8000000 in
theorem implFlowEach_3 (v : Value) (l : List Rw) (w : World) (h : Rs w v l) :
    Calls Tryz.prog 37 #[v, .int .i64 3] w fun e w' => ∃ o : Value, e = .returned o ∧ OwnR w' w.heap.size o (feachL l 3) ∧ Below w.heap.size w w' := by
  cases hk : rokB l
  · have HF : Hid (feachL l 3 = []) := feach_no1 hk
    go_enter Tryz.func37, Tryz.ntmps37
    go_wp2_with fail
    refine (wayOf_3 _).mono ?_
    rintro e w1 ⟨rfl, hb1⟩
    go_wp2_with fail
    refine (implRowsOk_eq hk (h.keep hb1)).mono ?_
    rintro e w2 ⟨rfl, hb2⟩
    go_wp2_with fail
    go_ret
    refine ⟨_, rfl, ?_, bStep hb1 hb2⟩
    rw [HF.out]
    exact ownK_nil _ _ _ _ _
  have HF : Hid (feachL l 3 = sumF (eachR 3 l)) := feach_yes hk (by decide)
  have hl := rok_len hk
  have HK : Hid (∀ (k : Nat) (K V A B D : Int), l[k]? = some (((K, V), (A, B)), D) → 0 ≤ K ∧ K ≤ 3 ∧ 0 ≤ V ∧ V ≤ 99 ∧ okB A B = true) := rok_kt hk
  have HA : Hid (absum (eachR 3 l) ≤ 39999600) := by have h1 := eachR_abs 3 l; have h2 := rok_absF hk; show _ ≤ _; omega
  have HSP : Hid (∀ r ∈ eachR 3 l, spOk r.1) := eachR_sp hk
  go_enter Tryz.func37, Tryz.ntmps37
  go_wp2_with fail
  refine (wayOf_3 _).mono ?_
  rintro e w0 ⟨rfl, hb0⟩
  go_wp2_with fail
  refine (implRowsOk_eq hk (h.keep hb0)).mono ?_
  rintro e w1 ⟨rfl, hb1⟩
  have hbw1 := bStep hb0 hb1
  obtain ⟨a, cap, rfl, hc, hm, hn, hcells⟩ := Rs.open h
  unfold maxLen at hm
  have HC := (show Hid _ from hcells)
  clear hcells h hk hb0 hb1
  go_wp2_with fail
  go_loopw [7, 26] (fun o i wr => ∃ k : Nat, k ≤ l.length ∧ i = .int .i64 k ∧ OwnR wr w.heap.size o (eachR 3 (l.take k)) ∧ Below w.heap.size w wr) (fun _ i _ => l.length - (intOf i).toNat)
  case atStart => exact ⟨0, by omega, rfl, by simpa [eachR] using ownK_nil rowC 5 41 w1 w.heap.size, hbw1⟩
  case round =>
    clear hbw1
    obtain ⟨k, hkl, rfl, hown, hb⟩ := hrel
    have HO : Hid (OwnR wr w.heap.size u7 (eachR 3 (l.take k))) := hown
    have hel : (eachR 3 (l.take k)).length ≤ 400 := by have := eachR_len 3 (l.take k); simp at this; omega
    clear hown
    by_cases hlt : k < l.length
    · obtain ⟨g, off, K, V, A, B, D, rfl, hg, hr, c0, c1, c2, c3, c4⟩ := HC.out k hlt
      obtain ⟨i1, i2, i3, i4, -⟩ := HK.out k _ _ _ _ _ hr
      have d0 := cell_below hb c0
      have d1 := cell_below hb c1
      have d2 := cell_below hb c2
      have d3 := cell_below hb c3
      have d4 := cell_below hb c4
      have ik : ((k : Int) < (l.length : Int)) := by omega
      have bx := Bk.new (w := wr) #[.int .i64 K, .int .i64 V, .int .i64 A, .int .i64 B, .int .i64 D] 41 rfl
      have hbx0 : Below wr.heap.size wr (wr.alloc (.cells #[.int .i64 K, .int .i64 V, .int .i64 A, .int .i64 B, .int .i64 D] 41)) := bAlloc (Below.refl _ _) _
      have hbx := bStep hb hbx0
      have O1 : Hid (OwnR (wr.alloc (.cells #[.int .i64 K, .int .i64 V, .int .i64 A, .int .i64 B, .int .i64 D] 41)) w.heap.size u7 (eachR 3 (l.take k))) := own_keep HO.out hbx0
      have HYES : Hid (wayP 3 (K, V) = true → eachR 3 (l.take (k + 1)) = eachR 3 (l.take k) ++ [((wayM 3 (K, V), (A, B)), D)]) := fun hp => eachR_yes hr hp
      have HNO : Hid (wayP 3 (K, V) = false → eachR 3 (l.take (k + 1)) = eachR 3 (l.take k)) := fun hp => eachR_no hr hp
      clear c0 c1 c2 c3 c4 hr hbx0 hb HO
      go_upto_region 8 with fail
      clear d0 d1 d2 d3 d4
      generalize wr.heap.size = tb at *
      generalize World.alloc _ _ = wx at *
      obtain ⟨q0, q1, q2, q3, q4⟩ := bx.five
      go_wp2_with fail
      refine (way3_any K V _ i1 i2 i3 i4).mono ?_
      rintro e wy ⟨rfl, hby⟩
      have by1 := bx.keep hby
      have O2 : Hid (OwnR wy w.heap.size u7 (eachR 3 (l.take k))) := own_keep O1.out hby
      have hbn := bStep hbx hby
      have HM : Hid (wayM 3 (K, V) = ((wayM 3 (K, V)).1, (wayM 3 (K, V)).2)) := rfl
      clear q0 q1 q2 q3 q4 bx hbx hby O1
      generalize (wayM 3 (K, V)).1 = K2 at *
      generalize (wayM 3 (K, V)).2 = V2 at *
      generalize hP : wayP 3 (K, V) = r at *
      clear hP
      have bt0 := Bk.new (w := wy) #[.int .i64 K2, .int .i64 V2] 103 rfl
      have hbt : Below wy.heap.size wy (wy.alloc (.cells #[.int .i64 K2, .int .i64 V2] 103)) := bAlloc (Below.refl _ _) _
      have bz := by1.keep hbt
      have hbz := bStep hbn hbt
      have O3 : Hid (OwnR (wy.alloc (.cells #[.int .i64 K2, .int .i64 V2] 103)) w.heap.size u7 (eachR 3 (l.take k))) := own_keep O2.out hbt
      go_upto_region 9 with fail
      clear by1 hbn hbt O2
      generalize wy.heap.size = ub at *
      generalize World.alloc _ _ = wt at *
      cases r
      · have HZ : Hid (eachR 3 (l.take (k + 1)) = eachR 3 (l.take k)) := HNO.out rfl
        go_wp2_with fail
        go_roundw
        case rel => exact ⟨k + 1, by omega, by go_num, (by rw [HZ.out]; exact O3.out), hbz⟩
        case measure => simp [intOf]; omega
      · have HZ : Hid (eachR 3 (l.take (k + 1)) = eachR 3 (l.take k) ++ [(((K2, V2), (A, B)), D)]) := by show _ = _; rw [HYES.out rfl, HM.out]
        obtain ⟨y0, y1, y2, y3, y4⟩ := bz.five
        obtain ⟨t0, t1, _, _⟩ := bt0.two
        have hsz := hbz.size
        have O4 := O3.out.alloc (.cells #[.int .i64 K2, .int .i64 V2, .int .i64 A, .int .i64 B, .int .i64 D] 41)
        clear O3
        generalize hE : eachR 3 (l.take k) = EL at *
        go_wp2_with (at_builtin; refine appR _ rfl _ _ rfl w.heap.size _ EL rfl O4 _ K2 V2 A B D rfl (Bk.new _ _ rfl) (by omega) (by simp; omega) ?_; intro g7 cap7 w7 own7 hgrow hlg)
        have hb7 : Below w.heap.size w w7 := Below.grew (bAlloc hbz _) hgrow (by simp; omega) (ownK_base O4)
        go_roundw
        case rel => exact ⟨k + 1, by omega, by go_num, by rw [HZ.out]; exact own7, hb7⟩
        case measure => simp [intOf]; omega
    · obtain rfl : k = l.length := by omega
      rw [List.take_length] at HO hel
      have R1 : Rs wr u7 (eachR 3 l) := OwnR.rs HO.out (by omega)
      have hsz := hb.size
      clear HO
      go_wp2_with fail
      refine (batchOf_any _ (eachR 3 l) _ R1 (by omega) (by have := HA.out; omega) HSP.out).mono ?_
      rintro e w3 ⟨o3, rfl, own3, hb3⟩
      have O3 : Hid (OwnR w3 wr.heap.size o3 (sumF (eachR 3 l))) := own3
      clear own3
      go_wp2_with fail
      go_ret
      refine ⟨_, rfl, ?_, bStep hb hb3⟩
      rw [HF.out]
      exact own_less O3.out hsz
set_option maxRecDepth 100000 in
set_option maxHeartbeats 8000000 in
theorem implFlowEach_4 (v : Value) (l : List Rw) (w : World) (h : Rs w v l) :
    Calls Tryz.prog 37 #[v, .int .i64 4] w fun e w' => ∃ o : Value, e = .returned o ∧ OwnR w' w.heap.size o (feachL l 4) ∧ Below w.heap.size w w' := by
  cases hk : rokB l
  · have HF : Hid (feachL l 4 = []) := feach_no1 hk
    go_enter Tryz.func37, Tryz.ntmps37
    go_wp2_with fail
    refine (wayOf_4 _).mono ?_
    rintro e w1 ⟨rfl, hb1⟩
    go_wp2_with fail
    refine (implRowsOk_eq hk (h.keep hb1)).mono ?_
    rintro e w2 ⟨rfl, hb2⟩
    go_wp2_with fail
    go_ret
    refine ⟨_, rfl, ?_, bStep hb1 hb2⟩
    rw [HF.out]
    exact ownK_nil _ _ _ _ _
  have HF : Hid (feachL l 4 = sumF (eachR 4 l)) := feach_yes hk (by decide)
  have hl := rok_len hk
  have HK : Hid (∀ (k : Nat) (K V A B D : Int), l[k]? = some (((K, V), (A, B)), D) → 0 ≤ K ∧ K ≤ 3 ∧ 0 ≤ V ∧ V ≤ 99 ∧ okB A B = true) := rok_kt hk
  have HA : Hid (absum (eachR 4 l) ≤ 39999600) := by have h1 := eachR_abs 4 l; have h2 := rok_absF hk; show _ ≤ _; omega
  have HSP : Hid (∀ r ∈ eachR 4 l, spOk r.1) := eachR_sp hk
  go_enter Tryz.func37, Tryz.ntmps37
  go_wp2_with fail
  refine (wayOf_4 _).mono ?_
  rintro e w0 ⟨rfl, hb0⟩
  go_wp2_with fail
  refine (implRowsOk_eq hk (h.keep hb0)).mono ?_
  rintro e w1 ⟨rfl, hb1⟩
  have hbw1 := bStep hb0 hb1
  obtain ⟨a, cap, rfl, hc, hm, hn, hcells⟩ := Rs.open h
  unfold maxLen at hm
  have HC := (show Hid _ from hcells)
  clear hcells h hk hb0 hb1
  go_wp2_with fail
  go_loopw [7, 26] (fun o i wr => ∃ k : Nat, k ≤ l.length ∧ i = .int .i64 k ∧ OwnR wr w.heap.size o (eachR 4 (l.take k)) ∧ Below w.heap.size w wr) (fun _ i _ => l.length - (intOf i).toNat)
  case atStart => exact ⟨0, by omega, rfl, by simpa [eachR] using ownK_nil rowC 5 41 w1 w.heap.size, hbw1⟩
  case round =>
    clear hbw1
    obtain ⟨k, hkl, rfl, hown, hb⟩ := hrel
    have HO : Hid (OwnR wr w.heap.size u7 (eachR 4 (l.take k))) := hown
    have hel : (eachR 4 (l.take k)).length ≤ 400 := by have := eachR_len 4 (l.take k); simp at this; omega
    clear hown
    by_cases hlt : k < l.length
    · obtain ⟨g, off, K, V, A, B, D, rfl, hg, hr, c0, c1, c2, c3, c4⟩ := HC.out k hlt
      obtain ⟨i1, i2, i3, i4, -⟩ := HK.out k _ _ _ _ _ hr
      have d0 := cell_below hb c0
      have d1 := cell_below hb c1
      have d2 := cell_below hb c2
      have d3 := cell_below hb c3
      have d4 := cell_below hb c4
      have ik : ((k : Int) < (l.length : Int)) := by omega
      have bx := Bk.new (w := wr) #[.int .i64 K, .int .i64 V, .int .i64 A, .int .i64 B, .int .i64 D] 41 rfl
      have hbx0 : Below wr.heap.size wr (wr.alloc (.cells #[.int .i64 K, .int .i64 V, .int .i64 A, .int .i64 B, .int .i64 D] 41)) := bAlloc (Below.refl _ _) _
      have hbx := bStep hb hbx0
      have O1 : Hid (OwnR (wr.alloc (.cells #[.int .i64 K, .int .i64 V, .int .i64 A, .int .i64 B, .int .i64 D] 41)) w.heap.size u7 (eachR 4 (l.take k))) := own_keep HO.out hbx0
      have HYES : Hid (wayP 4 (K, V) = true → eachR 4 (l.take (k + 1)) = eachR 4 (l.take k) ++ [((wayM 4 (K, V), (A, B)), D)]) := fun hp => eachR_yes hr hp
      have HNO : Hid (wayP 4 (K, V) = false → eachR 4 (l.take (k + 1)) = eachR 4 (l.take k)) := fun hp => eachR_no hr hp
      clear c0 c1 c2 c3 c4 hr hbx0 hb HO
      go_upto_region 8 with fail
      clear d0 d1 d2 d3 d4
      generalize wr.heap.size = tb at *
      generalize World.alloc _ _ = wx at *
      obtain ⟨q0, q1, q2, q3, q4⟩ := bx.five
      go_wp2_with fail
      refine (way4_any K V _ i1 i2 i3 i4).mono ?_
      rintro e wy ⟨rfl, hby⟩
      have by1 := bx.keep hby
      have O2 : Hid (OwnR wy w.heap.size u7 (eachR 4 (l.take k))) := own_keep O1.out hby
      have hbn := bStep hbx hby
      have HM : Hid (wayM 4 (K, V) = ((wayM 4 (K, V)).1, (wayM 4 (K, V)).2)) := rfl
      clear q0 q1 q2 q3 q4 bx hbx hby O1
      generalize (wayM 4 (K, V)).1 = K2 at *
      generalize (wayM 4 (K, V)).2 = V2 at *
      generalize hP : wayP 4 (K, V) = r at *
      clear hP
      have bt0 := Bk.new (w := wy) #[.int .i64 K2, .int .i64 V2] 103 rfl
      have hbt : Below wy.heap.size wy (wy.alloc (.cells #[.int .i64 K2, .int .i64 V2] 103)) := bAlloc (Below.refl _ _) _
      have bz := by1.keep hbt
      have hbz := bStep hbn hbt
      have O3 : Hid (OwnR (wy.alloc (.cells #[.int .i64 K2, .int .i64 V2] 103)) w.heap.size u7 (eachR 4 (l.take k))) := own_keep O2.out hbt
      go_upto_region 9 with fail
      clear by1 hbn hbt O2
      generalize wy.heap.size = ub at *
      generalize World.alloc _ _ = wt at *
      cases r
      · have HZ : Hid (eachR 4 (l.take (k + 1)) = eachR 4 (l.take k)) := HNO.out rfl
        go_wp2_with fail
        go_roundw
        case rel => exact ⟨k + 1, by omega, by go_num, (by rw [HZ.out]; exact O3.out), hbz⟩
        case measure => simp [intOf]; omega
      · have HZ : Hid (eachR 4 (l.take (k + 1)) = eachR 4 (l.take k) ++ [(((K2, V2), (A, B)), D)]) := by show _ = _; rw [HYES.out rfl, HM.out]
        obtain ⟨y0, y1, y2, y3, y4⟩ := bz.five
        obtain ⟨t0, t1, _, _⟩ := bt0.two
        have hsz := hbz.size
        have O4 := O3.out.alloc (.cells #[.int .i64 K2, .int .i64 V2, .int .i64 A, .int .i64 B, .int .i64 D] 41)
        clear O3
        generalize hE : eachR 4 (l.take k) = EL at *
        go_wp2_with (at_builtin; refine appR _ rfl _ _ rfl w.heap.size _ EL rfl O4 _ K2 V2 A B D rfl (Bk.new _ _ rfl) (by omega) (by simp; omega) ?_; intro g7 cap7 w7 own7 hgrow hlg)
        have hb7 : Below w.heap.size w w7 := Below.grew (bAlloc hbz _) hgrow (by simp; omega) (ownK_base O4)
        go_roundw
        case rel => exact ⟨k + 1, by omega, by go_num, by rw [HZ.out]; exact own7, hb7⟩
        case measure => simp [intOf]; omega
    · obtain rfl : k = l.length := by omega
      rw [List.take_length] at HO hel
      have R1 : Rs wr u7 (eachR 4 l) := OwnR.rs HO.out (by omega)
      have hsz := hb.size
      clear HO
      go_wp2_with fail
      refine (batchOf_any _ (eachR 4 l) _ R1 (by omega) (by have := HA.out; omega) HSP.out).mono ?_
      rintro e w3 ⟨o3, rfl, own3, hb3⟩
      have O3 : Hid (OwnR w3 wr.heap.size o3 (sumF (eachR 4 l))) := own3
      clear own3
      go_wp2_with fail
      go_ret
      refine ⟨_, rfl, ?_, bStep hb hb3⟩
      rw [HF.out]
      exact own_less O3.out hsz
end Go.Proofs.YtdbhgocaelmanaaGreat
