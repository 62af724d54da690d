/- Heaps of times, as lists: plain facts. -/
import Derived.Test.YtpjmkejojenflaaGreatGb1
import Derived.Test.YtpjmkejojenflaaGreatGa6
import Derived.Test.YtpjmkejojenflaaGreatGa8
import Derived.Test.YtpjmkejojenflaaGreatGb3
import Derived.Deep.RegionHeld3
/-! Heaps of times, as lists: plain facts. -/
namespace Go.Proofs.YtpjmkejojenflaaGreat

/-- The time at a place. -/
def gt (l : List (Int × Int)) (i : Nat) : Int × Int := l.getD i (0, 0)
def swapT (l : List (Int × Int)) (i j : Nat) : List (Int × Int) := (l.set i (gt l j)).set j (gt l i)
/-- The first is not behind the second. -/
def leT (a b : Int × Int) : Prop := ltT b a = false
theorem leT_iff {a b : Int × Int} : leT a b ↔ a.1 < b.1 ∨ (a.1 = b.1 ∧ a.2 ≤ b.2) := by
  unfold leT ltT; simp only [decide_eq_false_iff_not]; omega
theorem ltT_iffP {a b : Int × Int} : ltT a b = true ↔ a.1 < b.1 ∨ (a.1 = b.1 ∧ a.2 < b.2) := by
  unfold ltT; simp only [decide_eq_true_eq]
theorem leT_refl (a : Int × Int) : leT a a := by rw [leT_iff]; omega
theorem leT_trans {a b c : Int × Int} (h : leT a b) (k : leT b c) : leT a c := by rw [leT_iff] at *; omega
theorem leT_of_lt {a b : Int × Int} (h : ltT a b = true) : leT a b := by rw [leT_iff]; rw [ltT_iffP] at h; omega
theorem leT_anti {a b : Int × Int} (h : leT a b) (k : leT b a) : a = b := by rw [leT_iff] at *; exact Prod.ext (by omega) (by omega)
theorem gt_mem {l : List (Int × Int)} {k : Nat} (h : k < l.length) : gt l k ∈ l := by
  unfold gt; rw [List.getD_eq_getElem?_getD, List.getElem?_eq_getElem h]; exact List.getElem_mem h
theorem mem_gt {l : List (Int × Int)} {x : Int × Int} (h : x ∈ l) : ∃ k, k < l.length ∧ gt l k = x := by
  obtain ⟨k, hk, e⟩ := List.getElem_of_mem h
  exact ⟨k, hk, by unfold gt; rw [List.getD_eq_getElem?_getD, List.getElem?_eq_getElem hk, e]; rfl⟩
theorem gt_take {l : List (Int × Int)} {n k : Nat} (h : k < n) : gt (l.take n) k = gt l k := by
  unfold gt; rw [List.getD_eq_getElem?_getD, List.getD_eq_getElem?_getD, List.getElem?_take, if_pos h]
theorem gt_app1 {l : List (Int × Int)} {x : Int × Int} {k : Nat} (h : k < l.length) : gt (l ++ [x]) k = gt l k := by
  unfold gt; rw [List.getD_eq_getElem?_getD, List.getD_eq_getElem?_getD, List.getElem?_append_left h]
theorem gt_app2 {l : List (Int × Int)} {x : Int × Int} : gt (l ++ [x]) l.length = x := by
  unfold gt; rw [List.getD_eq_getElem?_getD, List.getElem?_append_right (Nat.le_refl _)]; simp
theorem swap_len (l : List (Int × Int)) (i j : Nat) : (swapT l i j).length = l.length := by simp [swapT]
theorem swap_gt {l : List (Int × Int)} {i j : Nat} (hi : i < l.length) (hj : j < l.length) (k : Nat) : gt (swapT l i j) k = if k = j then gt l i else if k = i then gt l j else gt l k := by
  unfold swapT
  generalize hx : gt l i = x
  generalize hy : gt l j = y
  unfold gt
  simp only [List.getD_eq_getElem?_getD, List.getElem?_set, List.length_set]
  by_cases h1 : k = j
  · subst h1; simp [hj]
  · simp only [if_neg h1, if_neg (Ne.symm h1)]
    by_cases h2 : k = i
    · subst h2; simp [hi]
    · simp only [if_neg h2, if_neg (Ne.symm h2)]
theorem swap_mem {l : List (Int × Int)} {i j : Nat} (hi : i < l.length) (hj : j < l.length) (x : Int × Int) : x ∈ swapT l i j ↔ x ∈ l := by
  constructor
  · intro h
    obtain ⟨k, hk, e⟩ := mem_gt h
    rw [swap_len] at hk
    rw [swap_gt hi hj] at e
    split at e
    · rw [← e]; exact gt_mem hi
    · split at e
      · rw [← e]; exact gt_mem hj
      · rw [← e]; exact gt_mem hk
  · intro h
    obtain ⟨k, hk, e⟩ := mem_gt h
    have hl := swap_len l i j
    have g : ∀ q, q < l.length → gt (swapT l i j) q ∈ swapT l i j := fun q hq => gt_mem (by omega)
    by_cases h1 : k = i
    · have h := g j hj
      have q : gt (swapT l i j) j = x := by rw [swap_gt hi hj, if_pos rfl, ← h1, e]
      rw [q] at h; exact h
    · by_cases h2 : k = j
      · have h := g i hi
        have q : gt (swapT l i j) i = x := by
          rw [swap_gt hi hj]
          by_cases h3 : i = j
          · rw [if_pos h3, h3, ← h2, e]
          · rw [if_neg h3, if_pos rfl, ← h2, e]
        rw [q] at h; exact h
      · have h := g k hk
        have q : gt (swapT l i j) k = x := by rw [swap_gt hi hj, if_neg h2, if_neg h1, e]
        rw [q] at h; exact h
/-- Of the first n times each at or behind place i0 is not behind those below it. -/
def HeapLow (l : List (Int × Int)) (n i0 : Nat) : Prop := ∀ m, 0 < m → m < n → i0 ≤ (m - 1) / 2 → leT (gt l ((m - 1) / 2)) (gt l m)
/-- What is kept as a time goes down. -/
structure DnI (l c : List (Int × Int)) (i0 n i : Nat) : Prop where
  len : c.length = l.length
  mem : ∀ x, x ∈ c ↔ x ∈ l
  far : ∀ k, n ≤ k → gt c k = gt l k
  d1 : ∀ m, 0 < m → m < n → i0 ≤ (m - 1) / 2 → (m - 1) / 2 ≠ i → leT (gt c ((m - 1) / 2)) (gt c m)
  d2 : i0 < i → ∀ m, 0 < m → m < n → (m - 1) / 2 = i → leT (gt c ((i - 1) / 2)) (gt c m)
  ge : i0 ≤ i
  pge : i0 < i → i0 ≤ (i - 1) / 2
theorem DnI.start {l : List (Int × Int)} {i0 n : Nat} (h : HeapLow l n (i0 + 1)) : DnI l l i0 n i0 where
  len := rfl
  mem _ := Iff.rfl
  far _ _ := rfl
  d1 m h0 hm hi hne := h m h0 hm (by omega)
  d2 h := by omega
  ge := Nat.le_refl _
  pge h := by omega
theorem DnI.stop1 {l c : List (Int × Int)} {i0 n i : Nat} (h : DnI l c i0 n i) (hn : n ≤ 2 * i + 1) : HeapLow c n i0 := fun m h0 hm hi => h.d1 m h0 hm hi (by omega)
/-- The lesser one of two below. -/
def Least2 (c : List (Int × Int)) (n i j : Nat) : Prop := 2 * i + 1 < n ∧ j < n ∧ (j = 2 * i + 1 ∨ j = 2 * i + 2) ∧ ∀ m, 0 < m → m < n → (m - 1) / 2 = i → leT (gt c j) (gt c m)
theorem least_1 {c : List (Int × Int)} {n i : Nat} (h1 : 2 * i + 1 < n) (h : 2 * i + 2 < n → leT (gt c (2 * i + 1)) (gt c (2 * i + 2))) : Least2 c n i (2 * i + 1) :=
  ⟨h1, h1, .inl rfl, fun m h0 hm e => by
    obtain rfl | rfl : m = 2 * i + 1 ∨ m = 2 * i + 2 := by omega
    · exact leT_refl _
    · exact h hm⟩
theorem least_2 {c : List (Int × Int)} {n i : Nat} (h2 : 2 * i + 2 < n) (h : ltT (gt c (2 * i + 2)) (gt c (2 * i + 1)) = true) : Least2 c n i (2 * i + 2) :=
  ⟨by omega, h2, .inr rfl, fun m h0 hm e => by
    obtain rfl | rfl : m = 2 * i + 1 ∨ m = 2 * i + 2 := by omega
    · exact leT_of_lt h
    · exact leT_refl _⟩
theorem DnI.stop2 {l c : List (Int × Int)} {i0 n i j : Nat} (h : DnI l c i0 n i) (hj : Least2 c n i j) (hl : ltT (gt c j) (gt c i) = false) : HeapLow c n i0 := fun m h0 hm hi => by
  by_cases e : (m - 1) / 2 = i
  · rw [e]; exact leT_trans hl (hj.2.2.2 m h0 hm e)
  · exact h.d1 m h0 hm hi e
theorem DnI.step {l c : List (Int × Int)} {i0 n i j : Nat} (h : DnI l c i0 n i) (hn : n ≤ l.length) (hj : Least2 c n i j) (hl : ltT (gt c j) (gt c i) = true) : DnI l (swapT c i j) i0 n j := by
  obtain ⟨h1, h2, h3, h4⟩ := hj
  have hlen := h.len
  have hi' : i < c.length := by omega
  have hj' : j < c.length := by omega
  have hge := h.ge
  have e := swap_gt hi' hj'
  have hij : i ≠ j := by omega
  refine ⟨by rw [swap_len]; exact hlen, fun x => by rw [swap_mem hi' hj']; exact h.mem x, fun k hk => by rw [e, if_neg (by omega), if_neg (by omega)]; exact h.far k hk, fun m h0 hm hi hne => ?_, fun hlt m h0 hm hp => ?_, by omega, fun _ => by omega⟩
  · rw [e, e]
    by_cases c1 : (m - 1) / 2 = i
    · rw [if_neg (by omega), if_pos c1]
      by_cases c2 : m = j
      · rw [if_pos c2]; exact leT_of_lt hl
      · rw [if_neg c2, if_neg (by omega)]; exact h4 m h0 hm c1
    · rw [if_neg (by omega), if_neg (by omega)]
      by_cases c2 : m = j
      · omega
      · rw [if_neg c2]
        by_cases c3 : m = i
        · rw [if_pos c3]
          have := h.d2 (by omega) j (by omega) h2 (by omega)
          rw [c3]; exact this
        · rw [if_neg c3]; exact h.d1 m h0 hm hi c1
  · rw [e, e]
    have c1 : (j - 1) / 2 = i := by omega
    rw [c1, if_neg hij, if_pos rfl, if_neg (by omega), if_neg (by omega)]
    have := h.d1 m h0 hm (by omega) (by omega)
    rw [hp] at this; exact this
/-- What is kept as a time goes up. -/
structure UpI (l c : List (Int × Int)) (j : Nat) : Prop where
  len : c.length = l.length
  mem : ∀ x, x ∈ c ↔ x ∈ l
  lt : j < l.length
  u1 : ∀ m, 0 < m → m < l.length → m ≠ j → leT (gt c ((m - 1) / 2)) (gt c m)
  u2 : 0 < j → ∀ m, 0 < m → m < l.length → (m - 1) / 2 = j → leT (gt c ((j - 1) / 2)) (gt c m)
theorem UpI.start {l : List (Int × Int)} {x : Int × Int} (h : HeapLow l l.length 0) : UpI (l ++ [x]) (l ++ [x]) l.length where
  len := rfl
  mem _ := Iff.rfl
  lt := by simp
  u1 m h0 hm hne := by
    have hm' : m < l.length := by simp at hm; omega
    rw [gt_app1 (by omega), gt_app1 hm']; exact h m h0 hm' (by omega)
  u2 h0 m h1 hm hp := by simp at hm; omega
theorem UpI.stop0 {l c : List (Int × Int)} (h : UpI l c 0) : HeapLow c l.length 0 := fun m h0 hm _ => h.u1 m h0 hm (by omega)
theorem UpI.stop1 {l c : List (Int × Int)} {j : Nat} (h : UpI l c j) (hl : ltT (gt c j) (gt c ((j - 1) / 2)) = false) : HeapLow c l.length 0 := fun m h0 hm _ => by
  by_cases e : m = j
  · rw [e]; exact hl
  · exact h.u1 m h0 hm e
theorem UpI.step {l c : List (Int × Int)} {j : Nat} (h : UpI l c j) (hj0 : 0 < j) (hl : ltT (gt c j) (gt c ((j - 1) / 2)) = true) : UpI l (swapT c ((j - 1) / 2) j) ((j - 1) / 2) := by
  have hlen := h.len
  have hlt := h.lt
  have hi' : (j - 1) / 2 < c.length := by omega
  have hj' : j < c.length := by omega
  have e := swap_gt hi' hj'
  have hc := leT_of_lt hl
  refine ⟨by rw [swap_len]; exact hlen, fun x => by rw [swap_mem hi' hj']; exact h.mem x, by omega, fun m h0 hm hne => ?_, fun h0 m h1 hm hp => ?_⟩
  · rw [e, e]
    by_cases c1 : m = j
    · rw [c1, if_neg (by omega), if_pos rfl, if_pos rfl]; exact hc
    · rw [if_neg c1, if_neg hne]
      by_cases c2 : (m - 1) / 2 = j
      · rw [if_pos c2]; exact h.u2 hj0 m h0 hm c2
      · rw [if_neg c2]
        by_cases c3 : (m - 1) / 2 = (j - 1) / 2
        · rw [if_pos c3]
          have := h.u1 m h0 hm c1
          rw [c3] at this
          exact leT_trans hc this
        · rw [if_neg c3]; exact h.u1 m h0 hm c1
  · rw [e, e]
    have hp0 : leT (gt c (((j - 1) / 2 - 1) / 2)) (gt c ((j - 1) / 2)) := h.u1 ((j - 1) / 2) h0 (by omega) (by omega)
    rw [if_neg (by omega), if_neg (by omega)]
    by_cases c1 : m = j
    · rw [if_pos c1]; exact hp0
    · rw [if_neg c1, if_neg (by omega)]
      have := h.u1 m h1 hm c1
      rw [hp] at this
      exact leT_trans hp0 this
/-- The first of a heap is not behind any. -/
theorem heap_first {l : List (Int × Int)} (h : HeapLow l l.length 0) {k : Nat} (hk : k < l.length) : leT (gt l 0) (gt l k) := by
  induction k using Nat.strongRecOn with
  | _ k ih =>
    by_cases h0 : k = 0
    · subst h0; exact leT_refl _
    · exact leT_trans (ih ((k - 1) / 2) (by omega) (by omega)) (h k (by omega) hk (by omega))
theorem heap_min {l : List (Int × Int)} (h : HeapLow l l.length 0) {x : Int × Int} (hx : x ∈ l) : leT (gt l 0) x := by
  obtain ⟨k, hk, rfl⟩ := mem_gt hx
  exact heap_first h hk
/-- What is left as the first one goes: it is put last, the last one goes down, the last place is left out. -/
theorem pop_low {l : List (Int × Int)} (h : HeapLow l l.length 0) (h0 : 0 < l.length) : HeapLow (swapT l 0 (l.length - 1)) (l.length - 1) (0 + 1) := fun m hm0 hm hi => by
  have e := swap_gt (l := l) (i := 0) (j := l.length - 1) h0 (by omega)
  rw [e, e, if_neg (by omega), if_neg (by omega), if_neg (by omega), if_neg (by omega)]
  exact h m hm0 (by omega) (by omega)
theorem heap_take {c : List (Int × Int)} {n : Nat} (h : HeapLow c n 0) (hn : n ≤ c.length) : HeapLow (c.take n) (c.take n).length 0 := fun m h0 hm _ => by
  have hl : (c.take n).length = n := by rw [List.length_take]; omega
  rw [hl] at hm
  rw [gt_take (by omega), gt_take hm]; exact h m h0 hm (by omega)
theorem pop_mem {l c : List (Int × Int)} (h0 : 0 < l.length) (h : DnI (swapT l 0 (l.length - 1)) c 0 (l.length - 1) c.length ∨ (c.length = l.length ∧ (∀ x, x ∈ c ↔ x ∈ swapT l 0 (l.length - 1)) ∧ ∀ k, l.length - 1 ≤ k → gt c k = gt (swapT l 0 (l.length - 1)) k)) (x : Int × Int) : x ∈ l ↔ x = gt l 0 ∨ x ∈ c.take (l.length - 1) := by
  have hc : c.length = l.length ∧ (∀ x, x ∈ c ↔ x ∈ swapT l 0 (l.length - 1)) ∧ ∀ k, l.length - 1 ≤ k → gt c k = gt (swapT l 0 (l.length - 1)) k := by
    rcases h with h | h
    · exact ⟨by rw [h.len, swap_len], h.mem, h.far⟩
    · exact h
  obtain ⟨h1, h2, h3⟩ := hc
  have hm : x ∈ c ↔ x ∈ l := by rw [h2, swap_mem h0 (by omega)]
  have hlast : gt c (l.length - 1) = gt l 0 := by rw [h3 _ (Nat.le_refl _), swap_gt h0 (by omega), if_pos rfl]
  rw [← hm]
  constructor
  · intro hx
    obtain ⟨k, hk, e⟩ := mem_gt hx
    by_cases hkn : k = l.length - 1
    · left; rw [← e, hkn, hlast]
    · right
      rw [← e, ← gt_take (l := c) (n := l.length - 1) (by omega)]
      exact gt_mem (by rw [List.length_take]; omega)
  · rintro (rfl | hx)
    · rw [← hlast]; exact gt_mem (by omega)
    · exact List.mem_of_mem_take hx
theorem heap_nil : HeapLow [] 0 0 := fun m _ hm _ => by omega
end Go.Proofs.YtpjmkejojenflaaGreat

/-! Methods of the heap, through the interface: closed facts. -/
namespace Go.Proofs.YtpjmkejojenflaaGreat
open Go.RowKit

theorem m_len0 (a : Addr) (w : World) : (method 304 115 (.pointer (some a)) "Len").run Tryz.prog w = (do let v ← loadVar 113 a; pure (193, v)).run Tryz.prog w := by kernel_rfl
theorem m_less0 (a : Addr) (w : World) : (method 304 115 (.pointer (some a)) "Less").run Tryz.prog w = (do let v ← loadVar 113 a; pure (194, v)).run Tryz.prog w := by kernel_rfl
theorem m_swap0 (a : Addr) (w : World) : (method 304 115 (.pointer (some a)) "Swap").run Tryz.prog w = (do let v ← loadVar 113 a; pure (195, v)).run Tryz.prog w := by kernel_rfl
theorem m_pop (a : Addr) (w : World) : (method 304 115 (.pointer (some a)) "Pop").run Tryz.prog w = .ok (196, .pointer (some a)) w := by kernel_rfl
theorem m_push (a : Addr) (w : World) : (method 304 115 (.pointer (some a)) "Push").run Tryz.prog w = .ok (197, .pointer (some a)) w := by kernel_rfl
set_option maxRecDepth 100000 in
set_option maxHeartbeats 2000000 in
theorem load_heap {w : World} {b : Nat} {v : Value} (h : Bk w b #[v] 113) : (loadVar 113 ⟨b, 0, none⟩).run Tryz.prog w = .ok v w := by
  have c0 := h.cell (i := 0) (v := v) rfl
  go_simp
theorem m_len {w : World} {b : Nat} {v : Value} (h : Bk w b #[v] 113) : (method 304 115 (.pointer (some ⟨b, 0, none⟩)) "Len").run Tryz.prog w = .ok (193, v) w := by
  rw [m_len0]; simp [load_heap h, Result.andThen]
theorem m_less {w : World} {b : Nat} {v : Value} (h : Bk w b #[v] 113) : (method 304 115 (.pointer (some ⟨b, 0, none⟩)) "Less").run Tryz.prog w = .ok (194, v) w := by
  rw [m_less0]; simp [load_heap h, Result.andThen]
theorem m_swap {w : World} {b : Nat} {v : Value} (h : Bk w b #[v] 113) : (method 304 115 (.pointer (some ⟨b, 0, none⟩)) "Swap").run Tryz.prog w = .ok (195, v) w := by
  rw [m_swap0]; simp [load_heap h, Result.andThen]
end Go.Proofs.YtpjmkejojenflaaGreat

/-! Methods of the heap: the contracts. -/
namespace Go.Proofs.YtpjmkejojenflaaGreat
open Go.RowKit
attribute [local go_sem ↓] Go.wp_at_zero Go.wp_at_succ

theorem gt_tv (l : List (Int × Int)) (i : Nat) : gt l i = (tA l i, tB l i) := rfl
theorem hLen_any (a : Option Addr) (n cap : Nat) (w : World) : Calls Tryz.prog 193 #[.slice a n cap] w fun e w' => e = .returned (.int .i64 n) ∧ w' = w := by
  go_enter Tryz.func193, Tryz.ntmps193
  go_wp2_with fail
  go_ret
  exact ⟨rfl, rfl⟩
theorem orZ_ltT (a b c d : Int) : decide (orZ (cmpZ a c) (cmpZ b d) < 0) = ltT (a, b) (c, d) := by
  unfold orZ cmpZ ltT
  rw [Bool.eq_iff_iff, decide_eq_true_eq, decide_eq_true_eq]
  simp only
  constructor
  · intro h; revert h; split <;> (try split) <;> (try split) <;> (try split) <;> intro h <;> omega
  · intro h; split <;> (try split) <;> (try split) <;> (try split) <;> omega
set_option maxRecDepth 100000 in
set_option maxHeartbeats 4000000 in
theorem hLess_any {g cap i j : Nat} {c : Array Value} {l : List (Int × Int)} {w : World} (hb : Bk w g c 35) (hf : Fill c l l.length) (hi : i < l.length) (hj : j < l.length) {r : Bool} (hr : ltT (gt l i) (gt l j) = r) :
    Calls Tryz.prog 194 #[.slice (some ⟨g, 0, none⟩) l.length cap, .int .i64 i, .int .i64 j] w fun e w' => e = .returned (.bool r) ∧ Below w.heap.size w w' := by
  have q0 := hb.cell (hf i hi).1
  have q1 := hb.cell (hf i hi).2
  have r0 := hb.cell (hf j hj).1
  have r1 := hb.cell (hf j hj).2
  have HR : Hid (decide (orZ (cmpZ (tA l i) (tA l j)) (cmpZ (tB l i) (tB l j)) < 0) = r) := by
    show _ = _
    rw [← hr]
    exact orZ_ltT _ _ _ _
  have HB : Hid (Bk w g c 35 ∧ Fill c l l.length) := ⟨hb, hf⟩
  have HX : Hid (∀ W, Below w.heap.size w W → (W.cell? ⟨g, i * 2, none⟩ = some (.int .i64 (tA l i)) ∧ W.cell? ⟨g, i * 2 + 1, none⟩ = some (.int .i64 (tB l i))) ∧ W.cell? ⟨g, j * 2, none⟩ = some (.int .i64 (tA l j)) ∧ W.cell? ⟨g, j * 2 + 1, none⟩ = some (.int .i64 (tB l j))) :=
    fun W hW => ⟨⟨cell_below hW q0, cell_below hW q1⟩, cell_below hW r0, cell_below hW r1⟩
  have hbD : Below w.heap.size w w.drew := (Below.refl _ _).drew
  have HG : Hid (∀ wc, Gr w.drew wc → Below w.heap.size w wc) := fun wc h => by obtain ⟨h1, _⟩ := h; exact bStep hbD h1
  have ii : (i : Int) < (l.length : Int) := by omega
  have ij : (j : Int) < (l.length : Int) := by omega
  clear hb hf hr
  generalize tA l i = a1 at *
  generalize tB l i = a2 at *
  generalize tA l j = b1 at *
  generalize tB l j = b2 at *
  generalize l.length = n at *
  go_enter Tryz.func194, Tryz.ntmps194
  go_wp2_with fail
  go_region_held3 (fun W => (W.cell? ⟨g, i * 2, none⟩ = some (.int .i64 a1) ∧ W.cell? ⟨g, i * 2 + 1, none⟩ = some (.int .i64 a2)) ∧ W.cell? ⟨g, j * 2, none⟩ = some (.int .i64 b1) ∧ W.cell? ⟨g, j * 2 + 1, none⟩ = some (.int .i64 b2))
    (first | exact HX.out _ hbc2 | exact HX.out _ hbD)
    (first | (go_at_call 119; with_reducible refine (compareT_any a1 a2 b1 b2 _).mono ?_; rintro e wc ⟨rfl, hbc⟩; have hbc2 := HG.out _ hbc))
  all_goals
    go_wp2_with fail
    go_ret
    exact ⟨ret_bool HR.out, hbc2⟩
theorem Fill.swap {c : Array Value} {l : List (Int × Int)} {i j : Nat} (h : Fill c l l.length) (hi : i < l.length) (hj : j < l.length) (hs : l.length * 2 ≤ c.size) :
    Fill ((((c.setIfInBounds (i * 2) (.int .i64 (tA l j))).setIfInBounds (i * 2 + 1) (.int .i64 (tB l j))).setIfInBounds (j * 2) (.int .i64 (tA l i))).setIfInBounds (j * 2 + 1) (.int .i64 (tB l i))) (swapT l i j) l.length := by
  have h1 := Fill.set h hi rfl hs (tA l j) (tB l j)
  exact Fill.set (n := l.length) h1 hj (by simp) (by simpa using hs) (tA l i) (tB l i)
set_option maxRecDepth 100000 in
set_option maxHeartbeats 8000000 in
theorem hSwap_any {g cap i j : Nat} {c : Array Value} {l : List (Int × Int)} {w : World} (hb : Bk w g c 35) (hf : Fill c l l.length) (hs : l.length * 2 ≤ c.size) (hi : i < l.length) (hj : j < l.length) :
    Calls Tryz.prog 195 #[.slice (some ⟨g, 0, none⟩) l.length cap, .int .i64 i, .int .i64 j] w fun e w' => e = .returned (.tuple #[]) ∧ ∃ c' : Array Value, Bk w' g c' 35 ∧ Fill c' (swapT l i j) l.length ∧ c'.size = c.size ∧ Bx g w w' := by
  have q0 := hb.cell (hf i hi).1
  have q1 := hb.cell (hf i hi).2
  have r0 := hb.cell (hf j hj).1
  have r1 := hb.cell (hf j hj).2
  have ii : (i : Int) < (l.length : Int) := by omega
  have ij : (j : Int) < (l.length : Int) := by omega
  have HF : Hid (∃ c' : Array Value, Bk ((((w.drew.setCell ⟨g, i * 2, none⟩ (.int .i64 (tA l j))).setCell ⟨g, i * 2 + 1, none⟩ (.int .i64 (tB l j))).setCell ⟨g, j * 2, none⟩ (.int .i64 (tA l i))).setCell ⟨g, j * 2 + 1, none⟩ (.int .i64 (tB l i))) g c' 35 ∧ Fill c' (swapT l i j) l.length ∧ c'.size = c.size ∧ Bx g w ((((w.drew.setCell ⟨g, i * 2, none⟩ (.int .i64 (tA l j))).setCell ⟨g, i * 2 + 1, none⟩ (.int .i64 (tB l j))).setCell ⟨g, j * 2, none⟩ (.int .i64 (tA l i))).setCell ⟨g, j * 2 + 1, none⟩ (.int .i64 (tB l i)))) :=
    ⟨_, (((hb.drew.set (i * 2) _).set (i * 2 + 1) _).set (j * 2) _).set (j * 2 + 1) _, Fill.swap hf hi hj hs, by simp, ((((Bx.refl g w).drew.setG rfl _).setG rfl _).setG rfl _).setG rfl _⟩
  have f0 := hb.free (i * 2)
  have f1 := hb.free (i * 2 + 1)
  have f2 := hb.free (j * 2)
  have f3 := hb.free (j * 2 + 1)
  obtain ⟨x1, hx1⟩ : ∃ x, (c.setIfInBounds (i * 2) (.int .i64 (tA l j)))[j * 2]? = some x := ⟨_, Array.getElem?_eq_getElem (by simp; omega)⟩
  obtain ⟨x2, hx2⟩ : ∃ x, ((c.setIfInBounds (i * 2) (.int .i64 (tA l j))).setIfInBounds (i * 2 + 1) (.int .i64 (tB l j)))[j * 2 + 1]? = some x := ⟨_, Array.getElem?_eq_getElem (by simp; omega)⟩
  have e1 := (hb.set (i * 2) (.int .i64 (tA l j))).cell hx1
  have e2 := ((hb.set (i * 2) (.int .i64 (tA l j))).set (i * 2 + 1) (.int .i64 (tB l j))).cell hx2
  clear hb hf hx1 hx2
  generalize tA l i = a1 at *
  generalize tB l i = a2 at *
  generalize tA l j = b1 at *
  generalize tB l j = b2 at *
  generalize hn : l.length = n at *
  go_enter Tryz.func195, Tryz.ntmps195
  go_wp2_with fail
  go_region
  go_wp2_with fail
  go_end0
  exact ⟨rfl, HF.out⟩
end Go.Proofs.YtpjmkejojenflaaGreat

/-! The library's heap, over times: up and down: the contracts. -/
namespace Go.Proofs.YtpjmkejojenflaaGreat
open Go.RowKit

/-- Block hb holds the slice of a heap whose times lie in block g. -/
def HpM (w : World) (hb g cap : Nat) (l : List (Int × Int)) : Prop :=
  Bk w hb #[.slice (some ⟨g, 0, none⟩) l.length cap] 113 ∧ (∃ c : Array Value, Bk w g c 35 ∧ Fill c l l.length ∧ c.size = cap * 2) ∧ l.length ≤ cap ∧ cap ≤ maxLen ∧ hb ≠ g
theorem HpM.keep {w w1 : World} {hb g cap : Nat} {l : List (Int × Int)} (h : HpM w hb g cap l) (hx : Below w.heap.size w w1) : HpM w1 hb g cap l := by
  obtain ⟨h1, ⟨c, h2, h3, h4⟩, h5⟩ := h
  exact ⟨h1.keep hx, ⟨c, h2.keep hx, h3, h4⟩, h5⟩
abbrev hIf (hb : Nat) : Value := .iface 115 (.pointer (some ⟨hb, 0, none⟩))
theorem HpM.swap {w w1 : World} {hb g cap : Nat} {l : List (Int × Int)} {i j : Nat} {c' : Array Value} (h : HpM w hb g cap l) (hb1 : Bk w1 g c' 35) (hf : Fill c' (swapT l i j) l.length) (hs : c'.size = cap * 2) (hx : Bx g w w1) : HpM w1 hb g cap (swapT l i j) := by
  obtain ⟨h1, _, h3, h4, h5⟩ := h
  refine ⟨?_, ⟨c', hb1, by rw [swap_len]; exact hf, hs⟩, by rw [swap_len]; exact h3, h4, h5⟩
  unfold Bk; rw [hx.block hb h1.lt h5, swap_len]; exact h1
theorem half_int {j : Nat} (h : 0 < j) : ((j : Int) - 1).tdiv 2 = (((j - 1) / 2 : Nat) : Int) := by
  rw [Int.tdiv_eq_ediv_of_nonneg (by omega)]; omega
set_option maxRecDepth 100000 in
set_option maxHeartbeats 8000000 in
theorem hUp_any {hb g cap j0 : Nat} {l : List (Int × Int)} {w : World} (h : HpM w hb g cap l) (hu : UpI l l j0) (hl : l.length ≤ 1000000) :
    Calls Tryz.prog 137 #[hIf hb, .int .i64 j0] w fun e w' => e = .returned (.tuple #[]) ∧ ∃ c : List (Int × Int), HpM w' hb g cap c ∧ c.length = l.length ∧ (∀ x, x ∈ c ↔ x ∈ l) ∧ HeapLow c l.length 0 ∧ Bx g w w' := by
  go_enter Tryz.func137, Tryz.ntmps137
  go_wp2_with fail
  go_loopw [1] (fun i wr => ∃ (j : Nat) (c : List (Int × Int)), i = .int .i64 j ∧ HpM wr hb g cap c ∧ UpI l c j ∧ Bx g w wr) (fun i _ => (intOf i).toNat)
  case atStart => exact ⟨j0, l, rfl, h, hu, Bx.refl _ _⟩
  case round =>
    clear h hu
    obtain ⟨j, c, rfl, hM, hU, hx⟩ := hrel
    have hlt := hU.lt
    have hlen := hU.len
    by_cases hj : j = 0
    · subst hj
      have i1 : IntKind.i64.wrap (((0 : Nat) : Int) - 1) = -1 := by decide
      have i2 : IntKind.i64.wrap ((-1 : Int).tdiv 2) = 0 := by decide
      have hfin := hU.stop0
      go_wp2_with fail
      go_end0
      exact ⟨rfl, c, hM, hlen, hU.mem, hfin, hx⟩
    · have i1 : IntKind.i64.wrap ((j : Int) - 1) = (j : Int) - 1 := by rw [IntKind.wrap_i64]; omega
      have i2 : IntKind.i64.wrap (((j : Int) - 1).tdiv 2) = (((j - 1) / 2 : Nat) : Int) := by rw [half_int (by omega), IntKind.wrap_i64]; omega
      have i3 : ((((j - 1) / 2 : Nat) : Int) == (j : Int)) = false := beq_eq_false_iff_ne.2 (by omega)
      have hi' : (j - 1) / 2 < c.length := by omega
      have hj' : j < c.length := by omega
      have hpos : 0 < j := by omega
      have HM := (show Hid (HpM wr hb g cap c) from hM)
      obtain ⟨hbk, ⟨cc, hbg, hfill, hcs⟩, hcap, hcm, hne⟩ := hM
      have mLs := m_less hbk
      have HU := (show Hid (UpI l c j) from hU)
      have HBG := (show Hid (Bk wr g cc 35 ∧ Fill cc c c.length ∧ cc.size = cap * 2) from ⟨hbg, hfill, hcs⟩)
      have HLEN := (show Hid (c.length = l.length) from hlen)
      clear hU hbg hfill hcs hbk hlen
      generalize hI : (j - 1) / 2 = i at *
      have HI := (show Hid ((j - 1) / 2 = i) from hI)
      clear hI
      cases hr : ltT (gt c j) (gt c i)
      · go_wp2_with fail
        refine (hLess_any HBG.out.1 HBG.out.2.1 hj' hi' hr).mono ?_
        rintro e w1 ⟨rfl, hb1⟩
        go_wp2_with fail
        go_end0
        exact ⟨rfl, c, HM.out.keep hb1, HLEN.out, HU.out.mem, HU.out.stop1 (by rw [HI.out]; exact hr), hx.trans (Bx.of_below hb1)⟩
      · go_wp2_with fail
        refine (hLess_any HBG.out.1 HBG.out.2.1 hj' hi' hr).mono ?_
        rintro e w1 ⟨rfl, hb1⟩
        have HM1 := (show Hid (HpM w1 hb g cap c) from HM.out.keep hb1)
        obtain ⟨hbk1, ⟨cc1, hbg1, hfill1, hcs1⟩, -, -, -⟩ := HM.out.keep hb1
        have mSw := m_swap hbk1
        clear mLs
        go_wp2_with fail
        refine (hSwap_any hbg1 hfill1 (by omega) hi' hj').mono ?_
        rintro e w2 ⟨rfl, c2, hb2, hf2, hs2, hx2⟩
        have HM2 := (show Hid (HpM w2 hb g cap (swapT c i j)) from HM1.out.swap hb2 hf2 (by omega) hx2)
        have HU2 := (show Hid (UpI l (swapT c i j) i) from by have := HU.out.step hpos (by rw [HI.out]; exact hr); rw [HI.out] at this; exact this)
        have hij : i < j := by have := HI.out; omega
        clear mSw hbk1 hbg1 hfill1 hb2 hf2
        go_wp2_with fail
        go_roundw
        case rel => exact ⟨i, swapT c i j, rfl, HM2.out, HU2.out, (hx.trans (Bx.of_below hb1)).trans hx2⟩
        case measure => simp [intOf]; omega
theorem hLess_at {g cap i j : Nat} {a b : Int} {c : Array Value} {l : List (Int × Int)} {w : World} (hb : Bk w g c 35) (hf : Fill c l l.length) (ha : a = (i : Int)) (hbb : b = (j : Int)) (hi : i < l.length) (hj : j < l.length) {r : Bool} (hr : ltT (gt l i) (gt l j) = r) :
    Calls Tryz.prog 194 #[.slice (some ⟨g, 0, none⟩) l.length cap, .int .i64 a, .int .i64 b] w fun e w' => e = .returned (.bool r) ∧ Below w.heap.size w w' := by
  subst ha hbb; exact hLess_any hb hf hi hj hr
theorem hSwap_at {g cap i j : Nat} {a b : Int} {c : Array Value} {l : List (Int × Int)} {w : World} (hb : Bk w g c 35) (hf : Fill c l l.length) (ha : a = (i : Int)) (hbb : b = (j : Int)) (hs : l.length * 2 ≤ c.size) (hi : i < l.length) (hj : j < l.length) :
    Calls Tryz.prog 195 #[.slice (some ⟨g, 0, none⟩) l.length cap, .int .i64 a, .int .i64 b] w fun e w' => e = .returned (.tuple #[]) ∧ ∃ c' : Array Value, Bk w' g c' 35 ∧ Fill c' (swapT l i j) l.length ∧ c'.size = c.size ∧ Bx g w w' := by
  subst ha hbb; exact hSwap_any hb hf hs hi hj
end Go.Proofs.YtpjmkejojenflaaGreat
