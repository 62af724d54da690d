/- SortFunc of nothing: nothing turns. -/
import Derived.Test.YtlddhfimiignaaaGa1
import Derived.Test.YtlddhfimiignaaaSrt
import Derived.Test.YtlddhfimiignaaaGb3
/-! SortFunc of nothing: nothing turns. -/
namespace Go.Proofs.Ytlddhfimiignaaa
open Go.RowKit

set_option maxHeartbeats 4000000 in
set_option maxRecDepth 100000 in
theorem len64_0 (w : World) : Calls Try.prog 150 #[.int .u64 0] w fun e w' => (∃ r : Int, e = .returned (.int .i64 r)) ∧ w' = w := by
  go_enter Try.func150, Try.ntmps150
  go_wp2_with fail
  go_ret
  exact ⟨⟨_, rfl⟩, rfl⟩
set_option maxHeartbeats 4000000 in
theorem len_0 (w : World) : Calls Try.prog 125 #[.int .u64 0] w fun e w' => (∃ r : Int, e = .returned (.int .i64 r)) ∧ w' = w := by
  go_enter Try.func125, Try.ntmps125
  go_wp2_with (go_at_call 150; refine (len64_0 _).mono ?_; rintro e w' ⟨⟨r, rfl⟩, rfl⟩)
  go_ret
  exact ⟨⟨_, rfl⟩, rfl⟩
set_option maxHeartbeats 4000000 in
theorem insertRow_0 (fv : Value) (w : World) :
    Calls Try.prog 171 #[.slice none 0 0, .int .i64 0, .int .i64 0, fv] w fun e w' => e = .returned (.tuple #[]) ∧ w' = w := by
  go_enter Try.func171, Try.ntmps171
  go_wp2_with fail
  refine wp_loop_rounds 1 ?_
  rw [rounds_succ]
  go_wp2_with fail
  go_end0
  exact ⟨rfl, rfl⟩
set_option maxHeartbeats 4000000 in
theorem pdqRow_0 (r : Int) (fv : Value) (w : World) :
    Calls Try.prog 162 #[.slice none 0 0, .int .i64 0, .int .i64 0, .int .i64 r, fv] w fun e w' => e = .returned (.tuple #[]) ∧ w' = w := by
  go_enter Try.func162, Try.ntmps162
  go_wp2_with fail
  refine wp_loop_rounds 1 ?_
  rw [rounds_succ]
  go_wp2_with fail
  refine (insertRow_0 _ _).mono ?_
  rintro e w1 ⟨rfl, rfl⟩
  go_wp2_with fail
  (try simp only [Exit.inBlock, Exit.then])
  refine bodyPost_ret (results_none rfl _ _ _) rfl ?_
  exact ⟨rfl, rfl⟩
set_option maxHeartbeats 4000000 in
theorem sortRow_0 (fv : Value) (w : World) : Calls Try.prog 136 #[.slice none 0 0, fv] w fun e w' => e = .returned (.tuple #[]) ∧ w' = w := by
  go_enter Try.func136, Try.ntmps136
  go_wp2_with (first | (go_at_call 125; refine (len_0 _).mono ?_; rintro e w' ⟨⟨r, rfl⟩, rfl⟩) | (go_at_call 162; refine (pdqRow_0 _ _ _).mono ?_; rintro e w1 ⟨rfl, rfl⟩))
  go_end0
  exact ⟨rfl, rfl⟩
set_option maxHeartbeats 4000000 in
theorem insertItem_0 (fv : Value) (w : World) :
    Calls Try.prog 153 #[.slice none 0 0, .int .i64 0, .int .i64 0, fv] w fun e w' => e = .returned (.tuple #[]) ∧ w' = w := by
  go_enter Try.func153, Try.ntmps153
  go_wp2_with fail
  refine wp_loop_rounds 1 ?_
  rw [rounds_succ]
  go_wp2_with fail
  go_end0
  exact ⟨rfl, rfl⟩
set_option maxHeartbeats 4000000 in
theorem pdqItem_0 (r : Int) (fv : Value) (w : World) :
    Calls Try.prog 133 #[.slice none 0 0, .int .i64 0, .int .i64 0, .int .i64 r, fv] w fun e w' => e = .returned (.tuple #[]) ∧ w' = w := by
  go_enter Try.func133, Try.ntmps133
  go_wp2_with fail
  refine wp_loop_rounds 1 ?_
  rw [rounds_succ]
  go_wp2_with fail
  refine (insertItem_0 _ _).mono ?_
  rintro e w1 ⟨rfl, rfl⟩
  go_wp2_with fail
  (try simp only [Exit.inBlock, Exit.then])
  refine bodyPost_ret (results_none rfl _ _ _) rfl ?_
  exact ⟨rfl, rfl⟩
set_option maxHeartbeats 4000000 in
theorem sortItem_0 (fv : Value) (w : World) : Calls Try.prog 97 #[.slice none 0 0, fv] w fun e w' => e = .returned (.tuple #[]) ∧ w' = w := by
  go_enter Try.func97, Try.ntmps97
  go_wp2_with (first | (go_at_call 125; refine (len_0 _).mono ?_; rintro e w' ⟨⟨r, rfl⟩, rfl⟩) | (go_at_call 133; refine (pdqItem_0 _ _ _).mono ?_; rintro e w1 ⟨rfl, rfl⟩))
  go_end0
  exact ⟨rfl, rfl⟩
set_option maxHeartbeats 4000000 in
theorem insertTime_0 (fv : Value) (w : World) :
    Calls Try.prog 141 #[.slice none 0 0, .int .i64 0, .int .i64 0, fv] w fun e w' => e = .returned (.tuple #[]) ∧ w' = w := by
  go_enter Try.func141, Try.ntmps141
  go_wp2_with fail
  refine wp_loop_rounds 1 ?_
  rw [rounds_succ]
  go_wp2_with fail
  go_end0
  exact ⟨rfl, rfl⟩
set_option maxHeartbeats 4000000 in
theorem pdqTime_0 (r : Int) (fv : Value) (w : World) :
    Calls Try.prog 124 #[.slice none 0 0, .int .i64 0, .int .i64 0, .int .i64 r, fv] w fun e w' => e = .returned (.tuple #[]) ∧ w' = w := by
  go_enter Try.func124, Try.ntmps124
  go_wp2_with fail
  refine wp_loop_rounds 1 ?_
  rw [rounds_succ]
  go_wp2_with fail
  refine (insertTime_0 _ _).mono ?_
  rintro e w1 ⟨rfl, rfl⟩
  go_wp2_with fail
  (try simp only [Exit.inBlock, Exit.then])
  refine bodyPost_ret (results_none rfl _ _ _) rfl ?_
  exact ⟨rfl, rfl⟩
set_option maxHeartbeats 4000000 in
theorem sortTime_0 (fv : Value) (w : World) : Calls Try.prog 86 #[.slice none 0 0, fv] w fun e w' => e = .returned (.tuple #[]) ∧ w' = w := by
  go_enter Try.func86, Try.ntmps86
  go_wp2_with (first | (go_at_call 125; refine (len_0 _).mono ?_; rintro e w' ⟨⟨r, rfl⟩, rfl⟩) | (go_at_call 124; refine (pdqTime_0 _ _ _).mono ?_; rintro e w1 ⟨rfl, rfl⟩))
  go_end0
  exact ⟨rfl, rfl⟩
end Go.Proofs.Ytlddhfimiignaaa

/-! What SortFunc answers of rows, of items and of times of a call's own: the same, in order. -/
namespace Go.Proofs.Ytlddhfimiignaaa
open Go.Shelf Go.RowKit Go.Lib

section
variable {α : Type} [Inhabited α]
theorem flatK_get {enc : α → List Value} {k : Nat} (hk : ∀ x, (enc x).length = k) {l : List α} {i : Nat} {x : α} (h : l[i]? = some x) {j : Nat} (hj : j < k) : (Sort.flatK enc k l.toArray)[i * k + j]? = (enc x)[j]? := by
  have hi := (List.getElem?_eq_some_iff.1 h).1
  have hlt : i * k + j < l.toArray.size * k := by
    have : (i + 1) * k ≤ l.length * k := Nat.mul_le_mul_right k hi
    rw [Nat.add_mul] at this
    simp; omega
  have e1 : (i * k + j) / k = i := by
    rw [Nat.mul_comm, Nat.mul_add_div (by omega), Nat.div_eq_of_lt hj, Nat.add_zero]
  have e2 : (i * k + j) % k = j := by
    rw [Nat.mul_comm, Nat.mul_add_mod, Nat.mod_eq_of_lt hj]
  have hx : l.toArray[i]! = x := by
    rw [getElem!_pos l.toArray i (by simpa using hi)]
    simpa using (List.getElem?_eq_some_iff.1 h).2
  simp only [Sort.flatK, Array.getElem?_map]
  rw [Array.getElem?_range, if_pos hlt, Option.map_some, e1, e2, hx]
  rw [getElem!_pos (enc x) j (by rw [hk]; exact hj), List.getElem?_eq_getElem (by rw [hk]; exact hj)]
theorem holdsK_of_fill {enc : α → List Value} {k : Nat} {w : World} {g : Nat} {c : Array Value} {t : TypeId} {l : List α} (hk : ∀ x, (enc x).length = k) (h : Bk w g c t) (hf : FillK enc k c l l.length) : Sort.HoldsK enc k w g 0 l.toArray := by
  intro j hj
  rw [Sort.size_flatK] at hj
  have hj' : j < l.length * k := by simpa using hj
  have hk0 : 0 < k := by
    rcases Nat.eq_zero_or_pos k with e | e
    · subst e; omega
    · exact e
  have e : j = j / k * k + j % k := by rw [Nat.mul_comm]; exact (Nat.div_add_mod j k).symm
  have hq : j / k < l.length := Nat.div_lt_of_lt_mul (by rw [Nat.mul_comm]; exact hj')
  have hr : j % k < k := Nat.mod_lt _ hk0
  have h1 := hf _ _ hq (List.getElem?_eq_getElem hq) _ hr
  have h2 := flatK_get hk (List.getElem?_eq_getElem hq) hr
  rw [← e] at h1 h2
  refine ⟨?_, h.free _⟩
  rw [Nat.zero_add]
  have hs : j < (Sort.flatK enc k l.toArray).size := by rw [Sort.size_flatK]; exact hj
  have h3 : (Sort.flatK enc k l.toArray)[j]? = some ((Sort.flatK enc k l.toArray)[j]!) := by rw [getElem!_pos _ j hs, Array.getElem?_eq_getElem hs]
  rw [h2] at h3
  exact h.cell (h1.trans h3)
theorem fill_of_put {enc : α → List Value} {k : Nat} (hk : ∀ x, (enc x).length = k) {c : Array Value} {l l' : List α} (hl : l'.length = l.length) (hf : l.length * k ≤ c.size) : FillK enc k (Sort.putCells id 0 (Sort.flatK enc k l'.toArray) c) l' l'.length := by
  intro i x hi hx j hj
  have hlt : i * k + j < l'.length * k := by
    have : (i + 1) * k ≤ l'.length * k := Nat.mul_le_mul_right k hi
    rw [Nat.add_mul] at this; omega
  have hc : i * k + j < c.size := by rw [hl] at hlt; omega
  have h2 := flatK_get hk hx hj
  have hs : i * k + j < (Sort.flatK enc k l'.toArray).size := by rw [Sort.size_flatK]; simpa using hlt
  rw [← h2]
  unfold Sort.putCells
  rw [Array.getElem?_mapIdx, Array.getElem?_eq_getElem hc, Option.map_some, if_pos ⟨by omega, by omega⟩, Nat.sub_zero]
  show some ((Sort.flatK enc k l'.toArray)[i * k + j]!) = _
  rw [getElem!_pos (Sort.flatK enc k l'.toArray) (i * k + j) hs, Array.getElem?_eq_getElem hs]
/-- A slice of a call's own, sorted. -/
theorem sort_own {enc : α → List Value} {k : Nat} {t : TypeId} {w : World} {B : Nat} {v : Value} {l : List α} (ρ : Ren) (L : SlLaysF0.n6 Try.prog ρ) (hk : ∀ x, (enc x).length = k) (h1 : ∀ x, ∀ u ∈ enc x, u.oneCell' = true)
    (aE : ∀ w, (isAgg (ρ.t 24)).run Try.prog w = .ok true w) (zE : ∀ w, (Go.sizeOf (ρ.t 24)).run Try.prog w = .ok k w) (cf : α → α → Int) (hO : Sort.SWO (ltOf cf)) (g : Nat) (eg : ∀ args w, (callFunc g args).run Try.prog w = .ok (.enter g args) w)
    (hcmp : ∀ (x y : α) (W : World), Calls Try.prog g #[.agg (enc x).toArray, .agg (enc y).toArray] W fun e w' => e = .returned (.int .i64 (cf x y)) ∧ ∃ q os', w' = Sort.grow (W.drewN q) os')
    (hnone : Calls Try.prog (ρ.f 6) #[.slice none 0 0, .func (.func g) #[] #[]] w fun e w' => e = .returned (.tuple #[]) ∧ w' = w) (h : OwnK enc k t w B v l) (hl : l.length ≤ 2097152) (hB : B ≤ w.heap.size) :
    Calls Try.prog (ρ.f 6) #[v, .func (.func g) #[] #[]] w fun e w' => e = .returned (.tuple #[]) ∧ ∃ l' : List α, l'.Perm l ∧ l'.Pairwise (fun p q => ltOf cf q p = false) ∧ OwnK enc k t w' B v l' ∧ Below B w w' := by
  rcases ownK_open h hk with ⟨rfl, rfl⟩ | ⟨b, cap, c, rfl, hg, hb, hs, hc, hm, hfill⟩
  · refine hnone.mono ?_
    rintro e w' ⟨rfl, rfl⟩
    exact ⟨rfl, [], List.Perm.refl _, by simp, h, Below.refl _ _⟩
  · have hH := holdsK_of_fill hk hb hfill
    have hcon := AnyQ.slices_SortFunc L k aE zE enc hk h1 cf hO g #[] b 0 cap l.toArray w eg (fun m os dk _ x y => by simpa using hcmp x y _) hH hb.lt (by simp; omega)
    have hsz : l.toArray.size = l.length := by simp
    rw [hsz] at hcon
    refine hcon.mono ?_
    rintro e w' ⟨rfl, d', n, os, hp, hsrt, rfl⟩
    obtain ⟨p1, _, p3⟩ := hp
    have hd : d'.size = l.length := by rw [p1]; simp
    have hx : d'.extract 0 l.length = d' := by rw [← hd]; simp
    have hperm : d'.toList.Perm l := by
      rw [hx] at p3
      simpa using p3
    have hlen : d'.toList.length = l.length := by simpa using hd
    have hblt := hb.lt
    have hblk : (sortWorldK enc k w b 0 n d' os).heap[b]? = some (.cells (Sort.putCells id 0 (Sort.flatK enc k d') c) t (0, 0)) := by
      have hbb : w.heap[b]? = some (.cells c t (0, 0)) := hb
      have hlt2 : b < (Sort.putRowK enc k (Sort.ahead w n) b 0 d').heap.size := by
        simp only [Sort.putRowK, Sort.putRow, Sort.mapBlock]; simpa [Sort.ahead] using hblt
      show ((Sort.putRowK enc k (Sort.ahead w n) b 0 d').heap ++ os)[b]? = _
      rw [Array.getElem?_append_left hlt2]
      simp only [Sort.putRowK, Sort.putRow, Sort.mapBlock, Sort.ahead, Array.getElem?_modify, if_pos, hbb, Option.map_some]
      rfl
    have hcs : (Sort.putCells id 0 (Sort.flatK enc k d') c).size = cap * k := by simp [Sort.putCells, hs]
    have hfl : FillK enc k (Sort.putCells id 0 (Sort.flatK enc k d') c) d'.toList d'.toList.length := by
      have := fill_of_put hk (c := c) (l := l) (l' := d'.toList) hlen (by rw [hs]; exact Nat.mul_le_mul_right k hc)
      simpa using this
    have hown := ownK_of_fill (enc := enc) (B := B) (w := sortWorldK enc k w b 0 n d' os) hblk hfl hk hcs (by rw [hlen]; exact hc) hm hg
    refine ⟨rfl, d'.toList, hperm, ?_, by rw [hlen] at hown; simpa only [hlen] using hown, ?_⟩
    · refine List.pairwise_iff_getElem.2 fun i j hi hj hij => ?_
      have := hsrt i j (by omega) hij (by omega)
      rw [getElem!_pos d' i (by simpa using hi), getElem!_pos d' j (by simpa using hj)] at this
      simpa using this
    · refine ⟨rfl, rfl, rfl, ?_, fun q hq => ?_⟩
      · show w.heap.size ≤ ((Sort.putRowK enc k (Sort.ahead w n) b 0 d').heap ++ os).size
        simp only [Sort.putRowK, Sort.putRow, Sort.mapBlock, Sort.ahead]; simp
      · show ((Sort.putRowK enc k (Sort.ahead w n) b 0 d').heap ++ os)[q]? = _
        have hq2 : q < (Sort.putRowK enc k (Sort.ahead w n) b 0 d').heap.size := by
          simp only [Sort.putRowK, Sort.putRow, Sort.mapBlock, Sort.ahead]; simp; omega
        rw [Array.getElem?_append_left hq2]
        simp only [Sort.putRowK, Sort.putRow, Sort.mapBlock, Sort.ahead, Array.getElem?_modify]
        rw [if_neg (by omega)]
end
theorem swo_of {α K : Type} {lt : K → K → Bool} [DecidableEq K] (O : Ord lt) (key : α → K) {cf : α → α → Int} (h : ∀ x y, ltOf cf x y = lt (key x) (key y)) : Sort.SWO (ltOf cf) where
  irrefl x := by rw [h]; exact O.irr _
  trans x y z h1 h2 := by rw [h] at *; exact O.trans _ _ _ h1 h2
  ntrans x y z h1 h2 := by
    rw [h] at *
    cases e : lt (key x) (key z)
    · rfl
    · by_cases exy : key x = key y
      · rw [← exy] at h2; rw [e] at h2; cases h2
      · have hyx : lt (key y) (key x) = true := by
          cases e2 : lt (key y) (key x)
          · exact absurd (O.tri _ _ h1 e2) exy
          · rfl
        have := O.trans _ _ _ hyx e
        rw [this] at h2; cases h2
/-- The sort of rows. -/
theorem sortR_any {w : World} {B : Nat} {v : Value} {l : List Rw} (h : OwnR w B v l) (hl : l.length ≤ 2097152) (hB : B ≤ w.heap.size) :
    Calls Try.prog 136 #[v, .func (.func 137) #[] #[]] w fun e w' => e = .returned (.tuple #[]) ∧ ∃ l' : List Rw, l'.Perm l ∧ l'.Pairwise (fun p q => ltS q.1 p.1 = false) ∧ OwnR w' B v l' ∧ Below B w w' := by
  have hlt : ∀ x y : Rw, ltOf (fun x y : Rw => cmpS x.1 y.1) x y = ltS x.1 y.1 := fun x y => cmpS_lt _ _
  have := sort_own sortR_ren sortR rowC_len (fun x u hu => by simp at hu; rcases hu with rfl | rfl | rfl | rfl | rfl <;> rfl) Try.isAgg55 Try.sizeOf55 (fun x y : Rw => cmpS x.1 y.1) (swo_of ltS_ord (fun x : Rw => x.1) hlt) 137 (enters_of Try.func137 (by kernel_rfl) rfl)
    (fun x y W => by
      refine (compareR_any _ _ _ _ _ _ _ _ _ _ W).mono ?_
      rintro e w' ⟨he, hg⟩
      exact ⟨by rw [he, cmpS_or], gr_grow hg⟩) (sortRow_0 _ _) h hl hB
  refine this.mono ?_
  rintro e w' ⟨he, l', h1, h2, h3, h4⟩
  exact ⟨he, l', h1, h2.imp (fun {a b} h => by rw [hlt] at h; exact h), h3, h4⟩
/-- The sort of items. -/
theorem sortI_any {w : World} {B : Nat} {v : Value} {l : List It} (h : OwnI w B v l) (hl : l.length ≤ 2097152) (hB : B ≤ w.heap.size) :
    Calls Try.prog 97 #[v, .func (.func 94) #[] #[]] w fun e w' => e = .returned (.tuple #[]) ∧ ∃ l' : List It, l'.Perm l ∧ l'.Pairwise (fun p q => ltT q.1 p.1 = false) ∧ OwnI w' B v l' ∧ Below B w w' := by
  have hlt : ∀ x y : It, ltOf (fun x y : It => cmpT x.1 y.1) x y = ltT x.1 y.1 := fun x y => cmpT_lt _ _
  have := sort_own sortI_ren sortI itC_len (fun x u hu => by simp at hu; rcases hu with rfl | rfl | rfl <;> rfl) Try.isAgg34 Try.sizeOf34 (fun x y : It => cmpT x.1 y.1) (swo_of ltT_ord (fun x : It => x.1) hlt) 94 (enters_of Try.func94 (by kernel_rfl) rfl)
    (fun x y W => by
      refine (compareI_any _ _ _ _ _ _ W).mono ?_
      rintro e w' ⟨he, hg⟩
      exact ⟨by rw [he, cmpZ_or], gr_grow hg⟩) (sortItem_0 _ _) h hl hB
  refine this.mono ?_
  rintro e w' ⟨he, l', h1, h2, h3, h4⟩
  exact ⟨he, l', h1, h2.imp (fun {a b} h => by rw [hlt] at h; exact h), h3, h4⟩
abbrev tmC (t : Int × Int) : List Value := [.int .i64 t.1, .int .i64 t.2]
theorem tmC_len (x : Int × Int) : (tmC x).length = 2 := rfl
/-- The sort of times by both numbers. -/
theorem sortT_any {w : World} {B : Nat} {v : Value} {l : List (Int × Int)} (h : Own w B v l) (hl : l.length ≤ 2097152) (hB : B ≤ w.heap.size) :
    Calls Try.prog 86 #[v, .func (.func 87) #[] #[]] w fun e w' => e = .returned (.tuple #[]) ∧ ∃ l' : List (Int × Int), l'.Perm l ∧ l'.Pairwise (fun p q => ltT q p = false) ∧ Own w' B v l' ∧ Below B w w' := by
  have hlt : ∀ x y : Int × Int, ltOf (fun x y : Int × Int => cmpT x y) x y = ltT x y := fun x y => cmpT_lt _ _
  have h' : OwnK tmC 2 45 w B v l := h
  have := sort_own sortT_ren sortT tmC_len (fun x u hu => by simp at hu; rcases hu with rfl | rfl <;> rfl) Try.isAgg45 Try.sizeOf45 (fun x y : Int × Int => cmpT x y) (swo_of ltT_ord (fun x : Int × Int => x) hlt) 87 (enters_of Try.func87 (by kernel_rfl) rfl)
    (fun x y W => by
      refine (compareT_any _ _ _ _ W).mono ?_
      rintro e w' ⟨he, hg⟩
      exact ⟨by rw [he, cmpZ_or], gr_grow hg⟩) (sortTime_0 _ _) h' hl hB
  refine this.mono ?_
  rintro e w' ⟨he, l', h1, h2, h3, h4⟩
  exact ⟨he, l', h1, h2.imp (fun {a b} h => by rw [hlt] at h; exact h), h3, h4⟩
end Go.Proofs.Ytlddhfimiignaaa
