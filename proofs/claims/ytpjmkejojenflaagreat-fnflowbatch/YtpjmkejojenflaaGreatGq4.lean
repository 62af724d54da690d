/- Whether a time is among times: the contracts; how the model gathers times and their joins: plain facts. -/
import Derived.Test.YtpjmkejojenflaaGreatGq2
import Derived.Test.YtpjmkejojenflaaGreatGq1
import Derived.BigQuiet
import Derived.Test.YtpjmkejojenflaaGreatGq3
import Derived.Test.YtpjmkejojenflaaGreatGb3
import Derived.Deep.RegionHeld3
/-! Whether a time is among times: the contracts; how the model gathers times and their joins: plain facts. -/
namespace Go.Proofs.YtpjmkejojenflaaGreat
open Go.RowKit

set_option maxRecDepth 100000 in
set_option maxHeartbeats 4000000 in
theorem l11Has_any (v : Value) (T : List (Int × Int)) (X Y : Int) (w : World) (h : Ts w v T) :
    Calls Tryz.prog 145 #[v, tv X Y] w fun e w' => e = .returned (.bool (decide ((X, Y) ∈ T))) ∧ Below w.heap.size w w' := by
  obtain ⟨a, cap, rfl, hc, hm, hn, hcells⟩ := h
  unfold maxLen at hm
  have HC := (show Hid _ from hcells)
  have hba : Below w.heap.size w (w.alloc (.cells #[.int .i64 X, .int .i64 Y] 35)) := bAlloc (Below.refl _ _) _
  have bx : Bk (w.alloc (.cells #[.int .i64 X, .int .i64 Y] 35)) w.heap.size #[.int .i64 X, .int .i64 Y] 35 := Bk.new _ _ rfl
  clear hcells
  go_enter Tryz.func145, Tryz.ntmps145
  go_wp2_with fail
  generalize w.alloc (.cells #[.int .i64 X, .int .i64 Y] 35) = w1 at *
  go_loopw [5] (fun i wr => ∃ k : Nat, k ≤ T.length ∧ i = .int .i64 k ∧ (∀ j, j < k → gt T j ≠ (X, Y)) ∧ Below w1.heap.size w1 wr) (fun i _ => T.length - (intOf i).toNat)
  case atStart => exact ⟨0, by omega, rfl, fun j hj => by omega, Below.refl _ _⟩
  case round =>
    obtain ⟨k, hk, rfl, hno, hb⟩ := hrel
    have HNO := (show Hid (∀ j, j < k → gt T j ≠ (X, Y)) from hno)
    have hbw := bStep hba hb
    clear hno
    by_cases hlt : k < T.length
    · obtain ⟨g, off, rfl, hg, c0, c1⟩ := HC.out k hlt
      have d0 := cell_below hbw c0
      have d1 := cell_below hbw c1
      obtain ⟨x0, x1, _, _⟩ := (bx.keep hb).two
      have ik : (k : Int) < (T.length : Int) := by omega
      have HT : Hid (gt T k = (tA T k, tB T k)) := gt_tv T k
      clear c0 c1
      by_cases hX : tA T k = X
      · by_cases hY : tB T k = Y
        · have HY : Hid (decide ((X, Y) ∈ T) = true) := by show _ = _; rw [decide_eq_true_eq, ← hX, ← hY, ← HT.out]; exact gt_mem hlt
          rw [hX] at d0
          rw [hY] at d1
          go_wp2_with fail
          go_quiet (fail)
          go_wp2_with fail
          go_ret
          exact ⟨by rw [HY.out]; rfl, bStep hbw ⟨rfl, rfl, rfl, Nat.le_refl _, fun _ _ => rfl⟩⟩
        · have HN : Hid (gt T k ≠ (X, Y)) := fun e => hY (by rw [HT.out] at e; exact (Prod.mk.inj e).2)
          have ny : (tB T k == Y) = false := beq_eq_false_iff_ne.2 hY
          rw [hX] at d0
          generalize tB T k = Y' at *
          go_wp2_with fail
          go_quiet (fail)
          go_wp2_with fail
          go_roundw
          case rel => exact ⟨k + 1, by omega, by go_num, (fun j hj => by by_cases e : j = k; (rw [e]; exact HN.out); exact HNO.out j (by omega)), bStep hb ⟨rfl, rfl, rfl, Nat.le_refl _, fun _ _ => rfl⟩⟩
          case measure => simp [intOf]; omega
      · have HN : Hid (gt T k ≠ (X, Y)) := fun e => hX (by rw [HT.out] at e; exact (Prod.mk.inj e).1)
        have nx : (tA T k == X) = false := beq_eq_false_iff_ne.2 hX
        generalize tA T k = X' at *
        generalize tB T k = Y' at *
        go_wp2_with fail
        go_quiet (fail)
        go_wp2_with fail
        go_roundw
        case rel => exact ⟨k + 1, by omega, by go_num, (fun j hj => by by_cases e : j = k; (rw [e]; exact HN.out); exact HNO.out j (by omega)), bStep hb ⟨rfl, rfl, rfl, Nat.le_refl _, fun _ _ => rfl⟩⟩
        case measure => simp [intOf]; omega
    · obtain rfl : k = T.length := by omega
      have HY : Hid (decide ((X, Y) ∈ T) = false) := by
        show _ = _
        rw [decide_eq_false_iff_not]
        intro e
        obtain ⟨j, hj, e⟩ := mem_gt e
        exact HNO.out j hj e
      go_wp2_with fail
      go_ret
      exact ⟨by rw [HY.out]; rfl, hbw⟩
set_option maxRecDepth 100000 in
set_option maxHeartbeats 4000000 in
theorem lwIn_any (v : Value) (T : List (Int × Int)) (X Y : Int) (w : World) (h : Ts w v T) :
    Calls Tryz.prog 20 #[v, tv X Y] w fun e w' => e = .returned (.bool (decide ((X, Y) ∈ T))) ∧ Below w.heap.size w w' := by
  obtain ⟨a, cap, rfl, hc, hm, hn, hcells⟩ := h
  unfold maxLen at hm
  have HC := (show Hid _ from hcells)
  have hba : Below w.heap.size w (w.alloc (.cells #[.int .i64 X, .int .i64 Y] 35)) := bAlloc (Below.refl _ _) _
  have bx : Bk (w.alloc (.cells #[.int .i64 X, .int .i64 Y] 35)) w.heap.size #[.int .i64 X, .int .i64 Y] 35 := Bk.new _ _ rfl
  clear hcells
  go_enter Tryz.func20, Tryz.ntmps20
  go_wp2_with fail
  generalize w.alloc (.cells #[.int .i64 X, .int .i64 Y] 35) = w1 at *
  go_loopw [5] (fun i wr => ∃ k : Nat, k ≤ T.length ∧ i = .int .i64 k ∧ (∀ j, j < k → gt T j ≠ (X, Y)) ∧ Below w1.heap.size w1 wr) (fun i _ => T.length - (intOf i).toNat)
  case atStart => exact ⟨0, by omega, rfl, fun j hj => by omega, Below.refl _ _⟩
  case round =>
    obtain ⟨k, hk, rfl, hno, hb⟩ := hrel
    have HNO := (show Hid (∀ j, j < k → gt T j ≠ (X, Y)) from hno)
    have hbw := bStep hba hb
    clear hno
    by_cases hlt : k < T.length
    · obtain ⟨g, off, rfl, hg, c0, c1⟩ := HC.out k hlt
      have d0 := cell_below hbw c0
      have d1 := cell_below hbw c1
      obtain ⟨x0, x1, _, _⟩ := (bx.keep hb).two
      have ik : (k : Int) < (T.length : Int) := by omega
      have HT : Hid (gt T k = (tA T k, tB T k)) := gt_tv T k
      clear c0 c1
      by_cases hX : tA T k = X
      · by_cases hY : tB T k = Y
        · have HY : Hid (decide ((X, Y) ∈ T) = true) := by show _ = _; rw [decide_eq_true_eq, ← hX, ← hY, ← HT.out]; exact gt_mem hlt
          rw [hX] at d0
          rw [hY] at d1
          go_wp2_with fail
          go_quiet (fail)
          go_wp2_with fail
          go_ret
          exact ⟨by rw [HY.out]; rfl, bStep hbw ⟨rfl, rfl, rfl, Nat.le_refl _, fun _ _ => rfl⟩⟩
        · have HN : Hid (gt T k ≠ (X, Y)) := fun e => hY (by rw [HT.out] at e; exact (Prod.mk.inj e).2)
          have ny : (tB T k == Y) = false := beq_eq_false_iff_ne.2 hY
          rw [hX] at d0
          generalize tB T k = Y' at *
          go_wp2_with fail
          go_quiet (fail)
          go_wp2_with fail
          go_roundw
          case rel => exact ⟨k + 1, by omega, by go_num, (fun j hj => by by_cases e : j = k; (rw [e]; exact HN.out); exact HNO.out j (by omega)), bStep hb ⟨rfl, rfl, rfl, Nat.le_refl _, fun _ _ => rfl⟩⟩
          case measure => simp [intOf]; omega
      · have HN : Hid (gt T k ≠ (X, Y)) := fun e => hX (by rw [HT.out] at e; exact (Prod.mk.inj e).1)
        have nx : (tA T k == X) = false := beq_eq_false_iff_ne.2 hX
        generalize tA T k = X' at *
        generalize tB T k = Y' at *
        go_wp2_with fail
        go_quiet (fail)
        go_wp2_with fail
        go_roundw
        case rel => exact ⟨k + 1, by omega, by go_num, (fun j hj => by by_cases e : j = k; (rw [e]; exact HN.out); exact HNO.out j (by omega)), bStep hb ⟨rfl, rfl, rfl, Nat.le_refl _, fun _ _ => rfl⟩⟩
        case measure => simp [intOf]; omega
    · obtain rfl : k = T.length := by omega
      have HY : Hid (decide ((X, Y) ∈ T) = false) := by
        show _ = _
        rw [decide_eq_false_iff_not]
        intro e
        obtain ⟨j, hj, e⟩ := mem_gt e
        exact HNO.out j hj e
      go_wp2_with fail
      go_ret
      exact ⟨by rw [HY.out]; rfl, hbw⟩
theorem own_slice0 {w : World} {B : Nat} {v : Value} {l : List (Int × Int)} (h : Own w B v l) : ∃ ad cap, v = .slice ad l.length cap := by
  rcases own_open h with ⟨rfl, rfl⟩ | ⟨g, cap, c, rfl, _⟩
  · exact ⟨_, _, rfl⟩
  · exact ⟨_, _, rfl⟩
theorem nodup_le : ∀ (T G : List (Int × Int)), T.Nodup → (∀ x ∈ T, x ∈ G) → T.length ≤ G.length
  | [], _, _, _ => Nat.zero_le _
  | x :: T, G, h, hs => by
    rw [List.nodup_cons] at h
    have hx := hs x (by simp)
    have h1 := nodup_le T (G.erase x) h.2 (fun y hy => (List.mem_erase_of_ne (fun e => h.1 (by rw [← e]; exact hy))).2 (hs y (by simp [hy])))
    have h2 := List.length_erase_of_mem hx
    have h3 := List.length_pos_of_mem hx
    simp only [List.length_cons]; omega
/-- What the model has gathered: all of it is there, each once, the rows' times among it; joins of the first i with those ahead of them, and of the one at i with the first j. -/
structure GtI (l : List Rw) (T : List (Int × Int)) (i j : Nat) : Prop where
  nd : T.Nodup
  inn : ∀ x ∈ T, x ∈ jtimes l
  rows : ∀ r ∈ l, r.1.2 ∈ T
  joins : ∀ p q, p < i → q < p → jnT (gt T p) (gt T q) ∈ T
  part : ∀ q, q < j → jnT (gt T i) (gt T q) ∈ T
theorem GtI.len {l : List Rw} {T : List (Int × Int)} {i j : Nat} (h : GtI l T i j) : T.length ≤ 64 := Nat.le_trans (nodup_le T _ h.nd h.inn) (jtimes_len l)
theorem GtI.inner {l : List Rw} {T : List (Int × Int)} {i : Nat} (h : GtI l T i 0) : GtI l T i 0 := h
theorem GtI.outer {l : List Rw} {T : List (Int × Int)} {i : Nat} (h : GtI l T i i) : GtI l T (i + 1) 0 :=
  ⟨h.nd, h.inn, h.rows, fun p q hp hq => by
    by_cases e : p = i
    · subst e; exact h.part q hq
    · exact h.joins p q (by omega) hq, fun q hq => by omega⟩
theorem GtI.same {l : List Rw} {T : List (Int × Int)} {i j : Nat} (h : GtI l T i j) (hj : jnT (gt T i) (gt T j) ∈ T) : GtI l T i (j + 1) :=
  ⟨h.nd, h.inn, h.rows, h.joins, fun q hq => by
    by_cases e : q = j
    · subst e; exact hj
    · exact h.part q (by omega)⟩
theorem GtI.more {l : List Rw} {T : List (Int × Int)} {i j : Nat} (h : GtI l T i j) (hi : i < T.length) (hji : j < i) (hj : jnT (gt T i) (gt T j) ∉ T) : GtI l (T ++ [jnT (gt T i) (gt T j)]) i (j + 1) := by
  have hg : ∀ p, p < T.length → gt (T ++ [jnT (gt T i) (gt T j)]) p = gt T p := fun p hp => gt_app1 hp
  refine ⟨?_, fun x hx => ?_, fun r hr => List.mem_append_left _ (h.rows r hr), fun p q hp hq => ?_, fun q hq => ?_⟩
  · rw [List.nodup_append]
    refine ⟨h.nd, by simp, fun a ha b hb => ?_⟩
    simp at hb; subst hb; intro e; subst e; exact hj ha
  · rcases List.mem_append.1 hx with hx | hx
    · exact h.inn x hx
    · simp at hx; subst hx; exact jt_join (h.inn _ (gt_mem hi)) (h.inn _ (gt_mem (by omega)))
  · rw [hg p (by omega), hg q (by omega)]; exact List.mem_append_left _ (h.joins p q hp hq)
  · rw [hg i hi, hg q (by omega)]
    by_cases e : q = j
    · subst e; simp
    · exact List.mem_append_left _ (h.part q (by omega))
theorem GtI.fin {l : List Rw} {T : List (Int × Int)} {i : Nat} (h : GtI l T i 0) (hi : T.length ≤ i) : grid.filter (fun t => decide (t ∈ T)) = jtimes l := by
  unfold jtimes
  refine List.filter_congr fun t ht => ?_
  rw [Bool.eq_iff_iff, decide_eq_true_eq]
  constructor
  · intro e; exact (jtimes_mem.1 (h.inn t e)).2
  · intro e
    rw [inJ_iff] at e
    obtain ⟨p, hp, q, hq, e1, e2⟩ := e
    obtain ⟨a, ha, ea⟩ := mem_gt (h.rows p hp)
    obtain ⟨b, hb, eb⟩ := mem_gt (h.rows q hq)
    have hj : jnT p.1.2 q.1.2 = t := Prod.ext e1 e2
    rw [← hj, ← ea, ← eb]
    rcases Nat.lt_trichotomy a b with hab | hab | hab
    · rw [jnT_comm]; exact h.joins b a (by omega) hab
    · subst hab; rw [jnT_self]; exact gt_mem ha
    · exact h.joins a b (by omega) hab
end Go.Proofs.YtpjmkejojenflaaGreat

/-! FlowTimes of the model: the contract. -/
namespace Go.Proofs.YtpjmkejojenflaaGreat
open Go.RowKit

theorem ftimes_len (l : List Rw) (key : Int) : (ftimesL l key).length ≤ 64 := by
  unfold ftimesL
  split
  · exact jtimes_len _
  · simp
theorem ownT_empty (w : World) {B : Nat} (hB : B = w.heap.size) : Own (w.alloc (.cells #[] 35)) B (.slice (some ⟨B, 0, none⟩) 0 0) [] := by
  subst hB; exact own_empty w _ 2
/-- Times of rows, each once. -/
structure OnT (l : List Rw) (T : List (Int × Int)) : Prop where
  nd : T.Nodup
  mem : ∀ x, x ∈ T ↔ x ∈ l.map fun r => r.1.2
theorem OnT.len {l : List Rw} {T : List (Int × Int)} (h : OnT l T) : T.length ≤ l.length := by
  have := nodup_le T _ h.nd (fun x hx => (h.mem x).1 hx)
  rw [List.length_map] at this; exact this
theorem OnT.nil : OnT [] [] := ⟨by simp, by simp⟩
theorem OnT.yes {l : List Rw} {T : List (Int × Int)} {r : Rw} (h : OnT l T) (hr : r.1.2 ∈ T) : OnT (l ++ [r]) T := ⟨h.nd, fun x => by
  rw [h.mem, List.map_append, List.mem_append]
  constructor
  · exact .inl
  · rintro (e | e)
    · exact e
    · simp at e; subst e; exact (h.mem _).1 hr⟩
theorem OnT.no {l : List Rw} {T : List (Int × Int)} {r : Rw} (h : OnT l T) (hr : r.1.2 ∉ T) : OnT (l ++ [r]) (T ++ [r.1.2]) := ⟨by
  rw [List.nodup_append]
  refine ⟨h.nd, by simp, fun a ha b hb => ?_⟩
  simp at hb; subst hb; intro e; subst e; exact hr ha, fun x => by
  rw [List.map_append, List.mem_append, List.mem_append, h.mem]; simp⟩
theorem OnT.start {l : List Rw} {T : List (Int × Int)} (h : OnT l T) (hk : rokB l = true) : GtI l T 0 0 :=
  ⟨h.nd, fun x hx => by
    obtain ⟨r, hr, rfl⟩ := List.mem_map.1 ((h.mem x).1 hx)
    exact jt_self hk hr, fun r hr => (h.mem _).2 (List.mem_map_of_mem hr), fun p q hp => by omega, fun q hq => by omega⟩
theorem row_snoc (a b : Nat) : gridRow a (b + 1) = gridRow a b ++ [((a : Int), (b : Int))] := by
  unfold gridRow; rw [List.range_succ, List.map_append]; rfl
theorem to_snoc (a : Nat) : gridTo (a + 1) = gridTo a ++ gridRow a 8 := by
  unfold gridTo; rw [List.range_succ, List.flatMap_append]; simp
theorem gridTo_len : ∀ x : Nat, (gridTo x).length = x * 8
  | 0 => rfl
  | x + 1 => by rw [to_snoc, List.length_append, gridTo_len x]; unfold gridRow; rw [List.length_map, List.length_range]; omega
theorem glen {x y : Nat} (hx : x ≤ 8) (hy : y ≤ 8) (p : Int × Int → Bool) : ((gridTo x ++ gridRow x y).filter p).length ≤ 2000000 := by
  have h1 := List.length_filter_le p (gridTo x ++ gridRow x y)
  have h2 : (gridRow x y).length = y := by unfold gridRow; rw [List.length_map, List.length_range]
  rw [List.length_append, gridTo_len, h2] at h1
  omega
set_option maxRecDepth 100000 in
set_option maxHeartbeats 16000000 in
theorem specFlowTimes_any (v : Value) (l : List Rw) (key : Int) (w : World) (h : Rs w v l) :
    Calls Tryz.prog 128 #[v, .int .i64 key] w fun e w' => ∃ o : Value, e = .returned o ∧ Own w' w.heap.size o (ftimesL l key) ∧ Below w.heap.size w w' := by
  have HH := (show Hid (Rs w v l) from h)
  obtain ⟨a, cap, rfl, hc, hm, hn, hcells⟩ := Rs.open h
  unfold maxLen at hm
  have HC := (show Hid _ from hcells)
  clear hcells h
  obtain ⟨L, HFT, HL⟩ : ∃ L, Hid (ftimesL l key = jtimes L) ∧ Hid (rokB L = true ∧ (rokB l = true → L = rowsK l key) ∧ (rokB l = false → L = [])) := by
    cases hk : rokB l
    · exact ⟨[], by show _ = _; unfold ftimesL jtimes; rw [hk]; exact (List.filter_eq_nil_iff.2 (fun x _ => by simp [inJ])).symm, by decide, by simp, by simp⟩
    · exact ⟨rowsK l key, by show _ = _; unfold ftimesL; rw [hk]; rfl, rowsK_ok hk key, by simp, by simp⟩
  have hb0 : Below w.heap.size w (w.alloc (.cells #[] 35)) := bAlloc (Below.refl _ _) _
  have HO0 : Hid (Own (w.alloc (.cells #[] 35)) w.heap.size (.slice (some ⟨w.heap.size, 0, none⟩) 0 0) []) := ownT_empty w rfl
  go_enter Tryz.func128, Tryz.ntmps128
  go_wp2_with fail
  go_loopw [5, 6] (fun o b wr => ∃ (k : Nat) (T : List (Int × Int)), k ≤ l.length ∧ b = .int .i64 k ∧ (0 < k → rokB l = true) ∧ Own wr w.heap.size o T ∧ OnT (rowsK (l.take k) key) T ∧ Below w.heap.size w wr) (fun _ b _ => l.length - (intOf b).toNat)
  case atStart => exact ⟨0, [], by omega, rfl, by omega, HO0.out, by simpa [rowsK] using OnT.nil, hb0⟩
  case round =>
    clear HO0 hb0
    obtain ⟨k, T, hk, rfl, hok, hown, hT, hb⟩ := hrel
    have HO : Hid (Own wr w.heap.size u5 T) := hown
    have HT : Hid (OnT (rowsK (l.take k) key) T) := hT
    have HK : Hid (0 < k → rokB l = true) := hok
    have hTl : T.length ≤ 2000000 := by
      have h1 := hT.len
      have h2 := rowsK_len (l.take k) key
      rw [List.length_take] at h2
      by_cases h0 : 0 < k
      · have := rok_len (hok h0); omega
      · omega
    obtain ⟨adT, capT, rfl⟩ := own_slice0 hown
    have hszr := hb.size
    clear hown hT hok
    by_cases hlt : k < l.length
    case' pos =>
      have ii : ((k : Int) < (l.length : Int)) := by omega
      cases hrk : rokB l
    case pos.true =>
      obtain ⟨g, off, K, V, A, B, D, rfl, hg, hr, c0, c1, c2, c3, c4⟩ := HC.out k hlt
      have HR := (show Hid _ from hr)
      have q0 := cell_below hb c0
      go_wp2_with fail
      refine (specRowsOk_eq hrk (HH.out.keep hb)).mono ?_
      rintro e w1 ⟨rfl, hb1⟩
      have hbw := bStep hb hb1
      have q0 := cell_below hbw c0
      have q2 := cell_below hbw c2
      have q3 := cell_below hbw c3
      have HO1 : Hid (Own w1 w.heap.size (.slice adT T.length capT) T) := own_keep HO.out hb1
      have hsz1 := hbw.size
      clear c0 c1 c2 c3 c4 hr hb hb1 HO
      by_cases hK : K = key
      · have HZ := (show Hid (rowsK (l.take (k + 1)) key = rowsK (l.take k) key ++ [(((K, V), (A, B)), D)]) from rowsK_yes HR.out hK)
        subst hK
        by_cases hin : (A, B) ∈ T
        · have HN : Hid (OnT (rowsK (l.take (k + 1)) K) T) := by show OnT _ _; rw [HZ.out]; exact HT.out.yes hin
          have hd : decide ((A, B) ∈ T) = true := by simp [hin]
          go_wp2_with fail
          refine (l11Has_any _ T A B w1 (Own.ts HO1.out (by omega))).mono ?_
          rw [hd]
          rintro e w2 ⟨rfl, hb2⟩
          have hbw2 := bStep hbw hb2
          have HO2 : Hid (Own w2 w.heap.size (.slice adT T.length capT) T) := own_keep HO1.out hb2
          clear hb2 hbw
          go_wp2_with fail
          go_roundw
          case rel => exact ⟨k + 1, T, by omega, by go_num, (fun _ => by first | exact hrk | trivial), HO2.out, HN.out, hbw2⟩
          case measure => simp [intOf]; omega
        · have HN : Hid (OnT (rowsK (l.take (k + 1)) K) (T ++ [(A, B)])) := by show OnT _ _; rw [HZ.out]; exact HT.out.no hin
          have hd : decide ((A, B) ∈ T) = false := by simp [hin]
          go_wp2_with fail
          refine (l11Has_any _ T A B w1 (Own.ts HO1.out (by omega))).mono ?_
          rw [hd]
          rintro e w2 ⟨rfl, hb2⟩
          have q2 := cell_below hb2 q2
          have q3 := cell_below hb2 q3
          have hbw2 := bStep hbw hb2
          have OW := own_keep HO1.out hb2
          have hsz2 := hbw2.size
          have HB := own_base OW
          clear hb2 hbw HO1
          go_wp2_with (at_builtin; refine appT _ rfl _ _ rfl w.heap.size _ T rfl (OW.alloc _) _ A B rfl (Bk.new _ _ rfl) (by omega) (by simp; omega) ?_; intro g3 cap3 w3 own3 hgrow hlg)
          have hb6 : Below w.heap.size w w3 := Below.grew (bAlloc hbw2 _) hgrow (by simp; omega) HB
          go_roundw
          case rel => exact ⟨k + 1, T ++ [(A, B)], by omega, by go_num, (fun _ => by first | exact hrk | trivial), own3, HN.out, hb6⟩
          case measure => simp [intOf]; omega
      · have HZ : Hid (rowsK (l.take (k + 1)) key = rowsK (l.take k) key) := rowsK_no HR.out hK
        have nx : (K == key) = false := beq_eq_false_iff_ne.2 hK
        go_wp2_with fail
        go_roundw
        case rel => exact ⟨k + 1, T, by omega, by go_num, (fun _ => by first | exact hrk | trivial), HO1.out, by rw [HZ.out]; exact HT.out, hbw⟩
        case measure => simp [intOf]; omega
    case' pos.false =>
      go_wp2_with fail
      refine (specRowsOk_eq hrk (HH.out.keep hb)).mono ?_
      rintro e w1 ⟨rfl, hb1⟩
      have HG : Hid (Own w1 w.heap.size (.slice adT T.length capT) T ∧ GtI L T 0 0 ∧ Below w.heap.size w w1) := by
        have hk0 : k = 0 := by
          by_cases e : 0 < k
          · have := HK.out e; rw [hrk] at this; cases this
          · omega
        have := HT.out
        rw [hk0] at this
        rw [HL.out.2.2 hrk]
        exact ⟨own_keep HO.out hb1, OnT.start (by simpa [rowsK] using this) (by decide), bStep hb hb1⟩
      clear hb1
    case' neg =>
      obtain rfl : k = l.length := by omega
      have HG : Hid (Own wr w.heap.size (.slice adT T.length capT) T ∧ GtI L T 0 0 ∧ Below w.heap.size w wr) := by
        have hrk : rokB l = true := by
          by_cases e : 0 < l.length
          · exact HK.out e
          · have : l = [] := List.eq_nil_of_length_eq_zero (by omega)
            subst this; decide
        have := HT.out
        rw [List.take_length] at this
        rw [HL.out.2.1 hrk]
        exact ⟨HO.out, OnT.start this (rowsK_ok hrk key), hb⟩
    all_goals
      clear HO HT HK hb hszr HH HC
      go_wp2_with fail
      go_loopw [5, 7] (fun o b wr => ∃ (i : Nat) (T : List (Int × Int)), i ≤ T.length ∧ b = .int .i64 i ∧ Own wr w.heap.size o T ∧ GtI L T i 0 ∧ Below w.heap.size w wr) (fun _ b _ => 64 - (intOf b).toNat)
      case atStart => exact ⟨0, T, by omega, rfl, HG.out.1, HG.out.2.1, HG.out.2.2⟩
      case round =>
        clear HG hTl
        obtain ⟨i, T, hi, rfl, hown, hG, hb⟩ := hrel
        have hT64 := hG.len
        obtain ⟨adT, capT, rfl⟩ := own_slice0 hown
        have HO : Hid (Own wr w.heap.size (.slice adT T.length capT) T) := hown
        have HG : Hid (GtI L T i 0) := hG
        clear hown hG
        by_cases hlt : i < T.length
        · have ii : ((i : Int) < (T.length : Int)) := by omega
          go_wp2_with fail
          go_loopw [5, 8] (fun o b wr => ∃ (j : Nat) (T : List (Int × Int)), j ≤ i ∧ i < T.length ∧ b = .int .i64 j ∧ Own wr w.heap.size o T ∧ GtI L T i j ∧ Below w.heap.size w wr) (fun _ b _ => i - (intOf b).toNat)
          case atStart => exact ⟨0, T, by omega, hlt, rfl, HO.out, HG.out, hb⟩
          case round =>
            clear HG HO hb ii hlt hT64
            obtain ⟨j, T2, hji, hiT, rfl, hown, hG, hb⟩ := hrel
            have hT64 := hG.len
            by_cases hlt2 : j < i
            · obtain ⟨g2, cp2, e2, pi0, pi1⟩ := own_cellsAt hown hiT
              obtain ⟨g2', cp2', e2', pj0, pj1⟩ := own_cellsAt hown (i := j) (by omega)
              subst e2
              cases e2'
              have HO : Hid (Own wr w.heap.size (.slice (some ⟨g2, 0, none⟩) T2.length cp2) T2) := hown
              have HG : Hid (GtI L T2 i j) := hG
              have HJ : Hid ((jnA (gt T2 i).1 (gt T2 i).2 (gt T2 j).1 (gt T2 j).2, jnB (gt T2 i).1 (gt T2 i).2 (gt T2 j).1 (gt T2 j).2) = jnT (gt T2 i) (gt T2 j)) := jnT_prog (hG.inn _ (gt_mem hiT)) (hG.inn _ (gt_mem (by omega)))
              have ii : ((i : Int) < (T2.length : Int)) := by omega
              have ij : ((j : Int) < (T2.length : Int)) := by omega
              have ji : ((j : Int) < (i : Int)) := by omega
              clear hown hG
              generalize (gt T2 i).1 = A at *
              generalize (gt T2 i).2 = B at *
              generalize (gt T2 j).1 = A2 at *
              generalize (gt T2 j).2 = B2 at *
              have HX : Hid (∀ W, Below wr.heap.size wr W → (W.cell? ⟨g2, i * 2, none⟩ = some (.int .i64 A) ∧ W.cell? ⟨g2, i * 2 + 1, none⟩ = some (.int .i64 B)) ∧ W.cell? ⟨g2, j * 2, none⟩ = some (.int .i64 A2) ∧ W.cell? ⟨g2, j * 2 + 1, none⟩ = some (.int .i64 B2)) := fun W hW => ⟨⟨cell_below hW pi0, cell_below hW pi1⟩, cell_below hW pj0, cell_below hW pj1⟩
              have hcur : Below wr.heap.size wr wr.drew := (Below.refl _ _).drew
              have HC1 : Hid (∀ W wc, Below wr.heap.size wr W → Below W.heap.size W wc → Below wr.heap.size wr wc) := fun W wc h1 h2 => bStep h1 h2
              have HB2 : Hid (∀ wc, Below (wr.alloc (.cells #[.int .i64 0, .int .i64 0] 35)).drew.heap.size (wr.alloc (.cells #[.int .i64 0, .int .i64 0] 35)).drew wc → Below wr.heap.size wr wc ∧ wc.frozen? ⟨wr.heap.size, 0, none⟩ = false ∧ wc.frozen? ⟨wr.heap.size, 1, none⟩ = false ∧ wc.cell? ⟨wr.heap.size, 0, none⟩ = some (.int .i64 0) ∧ wc.cell? ⟨wr.heap.size, 1, none⟩ = some (.int .i64 0) ∧ Hid (Bk wc wr.heap.size #[.int .i64 0, .int .i64 0] 35)) := fun wc hbc => by
                have hz : Bk wc wr.heap.size #[.int .i64 0, .int .i64 0] 35 := ((Bk.new (w := wr) _ _ rfl).drew).keep hbc
                exact ⟨bStep ((bAlloc (Below.refl _ _) _).drew) hbc, hz.free 0, hz.free 1, hz.two.1, hz.two.2.1, hz⟩
              go_wp2_with fail
              go_region_held3 (fun W => (W.cell? ⟨g2, i * 2, none⟩ = some (.int .i64 A) ∧ W.cell? ⟨g2, i * 2 + 1, none⟩ = some (.int .i64 B)) ∧ W.cell? ⟨g2, j * 2, none⟩ = some (.int .i64 A2) ∧ W.cell? ⟨g2, j * 2 + 1, none⟩ = some (.int .i64 B2))
                (first | exact HX.out _ hcur2 | exact HX.out _ hcur | exact HX.out _ (bAlloc hcur2 _) | exact HX.out _ (bAlloc hcur _) | exact HX.out _ (bAlloc (Below.refl _ _) _).drew | exact HX.out _ ((hcur2.setCell (Nat.le_refl _) _).setCell (Nat.le_refl _) _))
                (first
                  | (go_at_call 105; with_reducible refine (specJoin_any A B A2 B2 _).mono ?_; rintro e wc ⟨rfl, hbc⟩; have hcur2 : Below wr.heap.size wr wc := bStep hcur (id (α := Below wr.drew.heap.size wr.drew wc) hbc))
                  | (go_at_call 105; with_reducible refine (specJoin_any A B A2 B2 _).mono ?_; rintro e wc ⟨rfl, hbc⟩; obtain ⟨hcur2, z0, z1, z2, z3, ZB⟩ := HB2.out wc hbc))
              all_goals
                first
                  | (have FB : Hid (Below wr.heap.size wr ((wc.setCell ⟨wr.heap.size, 0, none⟩ (.int .i64 (jnA A B A2 B2))).setCell ⟨wr.heap.size, 1, none⟩ (.int .i64 (jnB A B A2 B2)))) := (hcur2.setCell (Nat.le_refl _) _).setCell (Nat.le_refl _) _
                     have FK : Hid (Bk ((wc.setCell ⟨wr.heap.size, 0, none⟩ (.int .i64 (jnA A B A2 B2))).setCell ⟨wr.heap.size, 1, none⟩ (.int .i64 (jnB A B A2 B2))) wr.heap.size #[.int .i64 (jnA A B A2 B2), .int .i64 (jnB A B A2 B2)] 35) := ZB.out.set01 _ _
                     clear z0 z1 z2 z3 ZB
                     generalize ((wc.setCell ⟨wr.heap.size, 0, none⟩ (.int .i64 (jnA A B A2 B2))).setCell ⟨wr.heap.size, 1, none⟩ (.int .i64 (jnB A B A2 B2))) = W5 at *)
                  | (have FB : Hid (Below wr.heap.size wr (wc.alloc (.cells #[.int .i64 (jnA A B A2 B2), .int .i64 (jnB A B A2 B2)] 35))) := bAlloc hcur2 _
                     have FK : Hid (Bk (wc.alloc (.cells #[.int .i64 (jnA A B A2 B2), .int .i64 (jnB A B A2 B2)] 35)) wc.heap.size #[.int .i64 (jnA A B A2 B2), .int .i64 (jnB A B A2 B2)] 35) := Bk.new _ _ rfl
                     generalize (wc.alloc (.cells #[.int .i64 (jnA A B A2 B2), .int .i64 (jnB A B A2 B2)] 35)) = W5 at *)
                have HO5 : Hid (Own W5 w.heap.size (.slice (some ⟨g2, 0, none⟩) T2.length cp2) T2) := own_keep HO.out FB.out
                have hb5 : Below w.heap.size w W5 := bStep hb FB.out
                obtain ⟨x0, x1, _, _⟩ := FK.out.two
                generalize jnA A B A2 B2 = JA at *
                generalize jnB A B A2 B2 = JB at *
                clear HB2 HC1 HX FB FK hcur hcur2 hbc HO pi0 pi1 pj0 pj1 hb
                by_cases hin : (JA, JB) ∈ T2
                · have HN : Hid (GtI L T2 i (j + 1)) := HG.out.same (by rw [← HJ.out]; exact hin)
                  have hd : decide ((JA, JB) ∈ T2) = true := by simp [hin]
                  clear HJ
                  go_wp2_with fail
                  refine (l11Has_any _ T2 JA JB W5 (Own.ts HO5.out (by omega))).mono ?_
                  rw [hd]
                  rintro e w6 ⟨rfl, hb6⟩
                  have HO6 : Hid (Own w6 w.heap.size (.slice (some ⟨g2, 0, none⟩) T2.length cp2) T2) := own_keep HO5.out hb6
                  have hb7 := bStep hb5 hb6
                  clear hb6 hb5 x0 x1
                  go_wp2_with fail
                  go_roundw
                  case rel => exact ⟨j + 1, T2, by omega, hiT, by go_num, HO6.out, HN.out, hb7⟩
                  case measure => simp [intOf]; omega
                · have HN : Hid (GtI L (T2 ++ [(JA, JB)]) i (j + 1)) := by
                    show GtI _ _ _ _
                    rw [HJ.out]; exact HG.out.more hiT hlt2 (by rw [← HJ.out]; exact hin)
                  have hd : decide ((JA, JB) ∈ T2) = false := by simp [hin]
                  clear HJ
                  go_wp2_with fail
                  refine (l11Has_any _ T2 JA JB W5 (Own.ts HO5.out (by omega))).mono ?_
                  rw [hd]
                  rintro e w6 ⟨rfl, hb6⟩
                  have y0 := cell_below hb6 x0
                  have y1 := cell_below hb6 x1
                  have OW := own_keep HO5.out hb6
                  have hb7 := bStep hb5 hb6
                  have hsz7 := hb7.size
                  have HB := own_base OW
                  clear hb6 hb5 x0 x1 HO5
                  go_wp2_with (at_builtin; refine appT _ rfl _ _ rfl w.heap.size _ T2 rfl (OW.alloc _) _ JA JB rfl (Bk.new _ _ rfl) (by omega) (by simp; omega) ?_; intro g8 cap8 w8 own8 hgrow hlg)
                  have hb8 : Below w.heap.size w w8 := Below.grew (bAlloc hb7 _) hgrow (by simp; omega) HB
                  go_roundw
                  case rel => exact ⟨j + 1, T2 ++ [(JA, JB)], by omega, by rw [List.length_append]; omega, by go_num, own8, HN.out, hb8⟩
                  case measure => simp [intOf]; omega
            · obtain rfl : j = i := by omega
              have HO : Hid (Own wr w.heap.size u5 T2) := hown
              have HG2 : Hid (GtI L T2 (j + 1) 0) := hG.outer
              clear hown hG
              go_wp2_with fail
              go_roundw
              case rel => exact ⟨j + 1, T2, by omega, by go_num, HO.out, HG2.out, hb⟩
              case measure => simp [intOf]; omega
        · obtain rfl : i = T.length := by omega
          obtain ⟨Wc, rfl⟩ : ∃ Wc, wr = Wc := ⟨_, rfl⟩
          have HFN : Hid (grid.filter (fun t => decide (t ∈ T)) = jtimes L) := HG.out.fin (Nat.le_refl _)
          have HTS : Hid (Ts wr (.slice adT T.length capT) T) := Own.ts HO.out (by omega)
          have HE : Hid (Own (wr.alloc (.cells #[] 35)) wr.heap.size (.slice (some ⟨wr.heap.size, 0, none⟩) 0 0) []) := ownT_empty wr rfl
          have hbE : Below wr.heap.size wr (wr.alloc (.cells #[] 35)) := bAlloc (Below.refl _ _) _
          have hszc := hb.size
          clear HO HG
          go_wp2_with fail
          obtain ⟨Wd, hWd⟩ : ∃ Wd, Wd = wr := ⟨_, rfl⟩
          subst hWd
          go_loopw [10, 11] (fun o b wq => ∃ x : Nat, x ≤ 8 ∧ b = .int .i64 x ∧ Own wq Wd.heap.size o ((gridTo x).filter fun t => decide (t ∈ T)) ∧ Below Wd.heap.size Wd wq) (fun _ b _ => 8 - (intOf b).toNat)
          case atStart => exact ⟨0, by omega, rfl, HE.out, hbE⟩
          case round =>
            clear HE hbE
            obtain ⟨x, hx, rfl, hown, hbq⟩ := hrel
            have HO : Hid (Own wr Wd.heap.size u10 ((gridTo x).filter fun t => decide (t ∈ T))) := hown
            clear hown
            by_cases hlx : x < 8
            · have gx : (x : Int) ≤ 7 := by omega
              go_wp2_with fail
              go_loopw [10, 12] (fun o b wq => ∃ y : Nat, y ≤ 8 ∧ b = .int .i64 y ∧ Own wq Wd.heap.size o ((gridTo x ++ gridRow x y).filter fun t => decide (t ∈ T)) ∧ Below Wd.heap.size Wd wq) (fun _ b _ => 8 - (intOf b).toNat)
              case atStart => exact ⟨0, by omega, rfl, by have := HO.out; simpa [gridRow] using this, hbq⟩
              case round =>
                clear HO hbq
                obtain ⟨y, hy, rfl, hown, hbq⟩ := hrel
                have HO : Hid (Own wr Wd.heap.size u10 ((gridTo x ++ gridRow x y).filter fun t => decide (t ∈ T))) := hown
                clear hown
                have hszq := hbq.size
                by_cases hly : y < 8
                · have gy : (y : Int) ≤ 7 := by omega
                  have HZ : Hid ((gridTo x ++ gridRow x (y + 1)).filter (fun t => decide (t ∈ T)) = (gridTo x ++ gridRow x y).filter (fun t => decide (t ∈ T)) ++ [((x : Int), (y : Int))].filter (fun t => decide (t ∈ T))) := by
                    show _ = _; rw [row_snoc, ← List.append_assoc, List.filter_append]
                  have hln := glen hx hy (fun t => decide (t ∈ T))
                  generalize (gridTo x ++ gridRow x y).filter (fun t => decide (t ∈ T)) = G at *
                  by_cases hin : ((x : Int), (y : Int)) ∈ T
                  · have hd : decide (((x : Int), (y : Int)) ∈ T) = true := by simp [hin]
                    go_wp2_with fail
                    refine (l11Has_any _ T (x : Int) (y : Int) wr (HTS.out.keep hbq)).mono ?_
                    rw [hd]
                    rintro e w6 ⟨rfl, hb6⟩
                    have OW := own_keep HO.out hb6
                    have hb7 := bStep hbq hb6
                    have hsz7 := hb7.size
                    have HB := own_base OW
                    clear hb6 HO hd
                    go_wp2_with (at_builtin; refine appT _ rfl _ _ rfl Wd.heap.size _ G rfl (OW.alloc _) _ (x : Int) (y : Int) rfl (Bk.new _ _ rfl) (by omega) (by simp; omega) ?_; intro g8 cap8 w8 own8 hgrow hlg)
                    have hb8 : Below Wd.heap.size Wd w8 := Below.grew (bAlloc hb7 _) hgrow (by simp; omega) HB
                    go_roundw
                    case rel => exact ⟨y + 1, by omega, by go_num, by rw [HZ.out]; simpa [hin] using own8, hb8⟩
                    case measure => simp [intOf]; omega
                  · have hd : decide (((x : Int), (y : Int)) ∈ T) = false := by simp [hin]
                    go_wp2_with fail
                    refine (l11Has_any _ T (x : Int) (y : Int) wr (HTS.out.keep hbq)).mono ?_
                    rw [hd]
                    rintro e w6 ⟨rfl, hb6⟩
                    have HO6 : Hid (Own w6 Wd.heap.size u10 G) := own_keep HO.out hb6
                    have hb7 := bStep hbq hb6
                    clear hb6 HO hd
                    go_wp2_with fail
                    go_roundw
                    case rel => exact ⟨y + 1, by omega, by go_num, by rw [HZ.out]; simpa [hin] using HO6.out, hb7⟩
                    case measure => simp [intOf]; omega
                · obtain rfl : y = 8 := by omega
                  go_wp2_with fail
                  go_roundw
                  case rel => exact ⟨x + 1, by omega, by go_num, by rw [to_snoc]; exact HO.out, hbq⟩
                  case measure => simp [intOf]; omega
            · obtain rfl : x = 8 := by omega
              obtain ⟨ad9, cp9, rfl⟩ := own_slice0 HO.out
              go_wp2_with fail
              go_ret
              refine ⟨_, rfl, ?_, hb.trans (hbq.mono hszc)⟩
              rw [HFT.out, ← HFN.out]
              exact own_less HO.out hszc
end Go.Proofs.YtpjmkejojenflaaGreat
