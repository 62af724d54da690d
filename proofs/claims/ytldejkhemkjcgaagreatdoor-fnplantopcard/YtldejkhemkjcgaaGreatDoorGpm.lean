import Derived.Test.YtldejkhemkjcgaaGreatDoorGl1
import Derived.Test.YtldejkhemkjcgaaGreatDoorGpa
import Derived.Test.YtldejkhemkjcgaaGreatDoorGd3
namespace Go.Proofs.YtldejkhemkjcgaaGreatDoor
def opR (k n : Int) (x y : List Rw) : List Rw :=
  if k = 2 then sumL ltS (eachR n x) else if k = 3 then sumL ltS (x ++ y) else if k = 4 then lessL x else if k = 5 then sumL ltS (pairR x y) else sumL ltS (fsumR n x)
def opS (k n : Int) (x y : List It) : List It :=
  if k = 2 then eachS x n else if k = 3 then bothS x y else if k = 4 then lessS x else if k = 5 then joinS x y else sumK n x
def fitO (l : List Rw) : Option (List Rw) := if bokB l then some l else none
def fitI (l : List It) : Option (List It) := if sokB l then some l else none
def planR (a b : List Rw) : PT → Option (List Rw)
  | .n0 _ n => fitO (if n = 0 then a else b)
  | .n1 k n x => (planR a b x).bind fun r => fitO (opR k n r [])
  | .n2 k n x y => (planR a b x).bind fun r => (planR a b y).bind fun s => fitO (opR k n r s)
def planS (a b : List It) : PT → Option (List It)
  | .n0 _ n => fitI (if n = 0 then a else b)
  | .n1 k n x => (planS a b x).bind fun r => fitI (opS k n r [])
  | .n2 k n x y => (planS a b x).bind fun r => (planS a b y).bind fun s => fitI (opS k n r s)
theorem fitO_some {l r : List Rw} : fitO l = some r ↔ bokB l = true ∧ l = r := by
  unfold fitO; split <;> simp_all
theorem fitI_some {l r : List It} : fitI l = some r ↔ sokB l = true ∧ l = r := by
  unfold fitI; split <;> simp_all
theorem fitO_yes {l : List Rw} (h : bokB l = true) : fitO l = some l := by simp [fitO, h]
theorem fitO_no {l : List Rw} (h : bokB l = false) : fitO l = none := by simp [fitO, h]
theorem fitI_yes {l : List It} (h : sokB l = true) : fitI l = some l := by simp [fitI, h]
theorem fitI_no {l : List It} (h : sokB l = false) : fitI l = none := by simp [fitI, h]
theorem planR_bok {a b r : List Rw} {t : PT} (h : planR a b t = some r) : bokB r = true := by
  cases t with
  | n0 k n => obtain ⟨h1, rfl⟩ := fitO_some.1 h; exact h1
  | n1 k n x =>
    obtain ⟨s, _, h2⟩ := Option.bind_eq_some_iff.1 h
    obtain ⟨h1, rfl⟩ := fitO_some.1 h2; exact h1
  | n2 k n x y =>
    obtain ⟨s, _, h2⟩ := Option.bind_eq_some_iff.1 h
    obtain ⟨u, _, h3⟩ := Option.bind_eq_some_iff.1 h2
    obtain ⟨h1, rfl⟩ := fitO_some.1 h3; exact h1
theorem planS_sok {a b r : List It} {t : PT} (h : planS a b t = some r) : sokB r = true := by
  cases t with
  | n0 k n => obtain ⟨h1, rfl⟩ := fitI_some.1 h; exact h1
  | n1 k n x =>
    obtain ⟨s, _, h2⟩ := Option.bind_eq_some_iff.1 h
    obtain ⟨h1, rfl⟩ := fitI_some.1 h2; exact h1
  | n2 k n x y =>
    obtain ⟨s, _, h2⟩ := Option.bind_eq_some_iff.1 h
    obtain ⟨u, _, h3⟩ := Option.bind_eq_some_iff.1 h2
    obtain ⟨h1, rfl⟩ := fitI_some.1 h3; exact h1
theorem lessL_of {l : List Rw} (h : bokB l = true) : lessL l = negL l := by
  have hr := bok_rok h
  have e : sumL ltS (negL l) = negL l := by
    refine sumL_self ltS_ord ?_ ?_
    · unfold negL Srt
      rw [List.pairwise_map]
      exact bok_srt h
    · intro r hr
      obtain ⟨q, hq, rfl⟩ := List.mem_map.1 hr
      have := bok_nz h q hq
      simp only; omega
  have e2 : rokB (negL l) = true := by
    refine rok_mk (by unfold negL; rw [List.length_map]; exact rok_len hr) fun r hr' => ?_
    obtain ⟨q, hq, rfl⟩ := List.mem_map.1 hr'
    have := rok_at hr hq
    simp only [rwOkB, Bool.and_eq_true] at this ⊢
    refine ⟨this.1, ?_⟩
    have h2 := this.2
    simp only [inB, decide_eq_true_eq] at h2 ⊢
    omega
  simp only [lessL, hr, if_true]
  rw [sumF_ok (by rw [e]; exact e2), e]
theorem lessL_bok (l : List Rw) : bokB (lessL l) = true := by
  unfold lessL; split
  · exact sumF_bok _
  · exact bok_nil
theorem at_neg (l : List Rw) (x y : Int) : atL (negL l) x y = negI (atL l x y) := by
  unfold atL negL negI
  induction l with
  | nil => rfl
  | cons r l ih => cases h2 : leB r.1.2.1 r.1.2.2 x y <;> simp [h2] at ih ⊢ <;> exact ih
theorem op_items {k n : Int} {x y : List Rw} (hk : 2 ≤ k ∧ k ≤ 6) (hn : numLo k ≤ n ∧ n ≤ numHi k) (hx : bokB x = true) (hy : bokB y = true) (ho : bokB (opR k n x y) = true) {X Y : Int} (hX : okB X Y = true) :
    itemsL (opR k n x y) X Y = opS k n (itemsL x X Y) (itemsL y X Y) := by
  have rx := bok_rok hx
  have ry := bok_rok hy
  rw [items_yes (bok_rok ho) hX]
  have hc : k = 2 ∨ k = 3 ∨ k = 4 ∨ k = 5 ∨ k = 6 := by omega
  rcases hc with rfl | rfl | rfl | rfl | rfl
  · have hw : inB n 1 7 = true := by simp [numLo, numHi] at hn; simp [inB]; exact hn
    show sumL ltT (atL (sumL ltS (eachR n x)) X Y) = eachS (itemsL x X Y) n
    rw [at_sum, at_each, each_yes (items_sokF x X Y) hw, items_yes rx hX]
    refine sumL_congr ltT_ord fun z => ?_
    rw [each_tot, each_tot, sumL_wsum ltT_ord]
  · show sumL ltT (atL (sumL ltS (x ++ y)) X Y) = bothS (itemsL x X Y) (itemsL y X Y)
    rw [at_sum, at_append, bothS_yes (items_sokF x X Y) (items_sokF y X Y), items_yes rx hX, items_yes ry hX]
    refine sumL_congr ltT_ord fun z => ?_
    rw [tot_append, tot_append, sumL_tot ltT_ord, sumL_tot ltT_ord]
  · show sumL ltT (atL (lessL x) X Y) = lessS (itemsL x X Y)
    rw [lessL_of hx, at_neg, lessS_yes (items_sokF x X Y), items_yes rx hX]
    refine sum_as (neg_sok (by rw [← items_yes rx hX]; exact items_sokF x X Y)) fun z => ?_
    rw [neg_totI, neg_totI, sumL_tot ltT_ord]
  · show sumL ltT (atL (sumL ltS (pairR x y)) X Y) = joinS (itemsL x X Y) (itemsL y X Y)
    rw [at_sum, at_pair (fun r hr => rw_time (rok_at rx hr)) (fun r hr => rw_time (rok_at ry hr)), joinS_yes (items_sokF x X Y) (items_sokF y X Y), items_yes rx hX, items_yes ry hX]
    refine sumL_congr ltT_ord fun z => ?_
    rw [pair_tot, pair_tot, sumL_wsum ltT_ord]
    refine wsum_congr fun r _ => ?_
    rw [sumL_wsum ltT_ord]
  · have hw : inB n 1 3 = true := by simp [numLo, numHi] at hn; simp [inB]; exact hn
    show sumL ltT (atL (sumL ltS (fsumR n x)) X Y) = sumK n (itemsL x X Y)
    rw [at_sum]
    exact sum_as (sumK_sok n (items_sokF x X Y)) fun v => (fsumR_tot n rx hX v).symm
theorem here_parts {t : PT} (h : hereB t = true) : (1 ≤ t.k ∧ t.k ≤ 6) ∧ (t.len : Int) = kidN t.k ∧ numLo t.k ≤ t.n ∧ t.n ≤ numHi t.k := by
  simp only [hereB, inB, Bool.and_eq_true, decide_eq_true_eq] at h
  exact ⟨h.1.1, h.1.2, h.2⟩
theorem kid_ne0 {k : Int} (h : 1 ≤ k ∧ k ≤ 6) (h1 : kidN k ≠ 0) : 2 ≤ k ∧ k ≤ 6 := by
  refine ⟨?_, h.2⟩
  rcases Int.lt_or_eq_of_le h.1 with h2 | h2
  · omega
  · subst h2; exact absurd rfl h1
theorem plan_items {a b : List Rw} (ha : bokB a = true) (hb : bokB b = true) {X Y : Int} (hX : okB X Y = true) : ∀ {t : PT} {d : Nat} {r : List Rw}, pokB t d = true → planR a b t = some r → planS (itemsL a X Y) (itemsL b X Y) t = some (itemsL r X Y)
  | .n0 k n, d, r, hp, h => by
    obtain ⟨h1, rfl⟩ := fitO_some.1 h
    simp only [planS]
    by_cases e : n = 0
    · rw [if_pos e, if_pos e]; exact fitI_yes (items_sokF _ _ _)
    · rw [if_neg e, if_neg e]; exact fitI_yes (items_sokF _ _ _)
  | .n1 k n x, 0, r, hp, h => by rw [pok_zero] at hp; cases hp
  | .n1 k n x, d + 1, r, hp, h => by
    obtain ⟨hh, hk⟩ := pok_parts hp
    obtain ⟨s, hs, h2⟩ := Option.bind_eq_some_iff.1 h
    obtain ⟨h1, rfl⟩ := fitO_some.1 h2
    obtain ⟨p1, p2, p3⟩ := here_parts hh
    have i1 : planS (itemsL a X Y) (itemsL b X Y) x = some (itemsL s X Y) := plan_items ha hb hX (hk 0 (by simp [PT.len])) hs
    simp only [planS, i1, Option.bind_some]
    have e := op_items (kid_ne0 p1 (by rw [← p2]; simp [PT.len])) p3 (planR_bok hs) bok_nil h1 hX
    rw [show itemsL [] X Y = [] from by rw [items_yes rok_nil hX]; rfl] at e
    rw [show opS k n (itemsL s X Y) [] = itemsL (opR k n s []) X Y from e.symm]
    exact fitI_yes (items_sokF _ _ _)
  | .n2 k n x y, 0, r, hp, h => by rw [pok_zero] at hp; cases hp
  | .n2 k n x y, d + 1, r, hp, h => by
    obtain ⟨hh, hk⟩ := pok_parts hp
    obtain ⟨s, hs, h2⟩ := Option.bind_eq_some_iff.1 h
    obtain ⟨u, hu, h3⟩ := Option.bind_eq_some_iff.1 h2
    obtain ⟨h1, rfl⟩ := fitO_some.1 h3
    obtain ⟨p1, p2, p3⟩ := here_parts hh
    have i1 : planS (itemsL a X Y) (itemsL b X Y) x = some (itemsL s X Y) := plan_items ha hb hX (hk 0 (by simp [PT.len])) hs
    have i2 : planS (itemsL a X Y) (itemsL b X Y) y = some (itemsL u X Y) := plan_items ha hb hX (hk 1 (by simp [PT.len])) hu
    simp only [planS, i1, i2, Option.bind_some]
    have e := op_items (kid_ne0 p1 (by rw [← p2]; simp [PT.len])) p3 (planR_bok hs) (planR_bok hu) h1 hX
    rw [show opS k n (itemsL s X Y) (itemsL u X Y) = itemsL (opR k n s u) X Y from e.symm]
    exact fitI_yes (items_sokF _ _ _)
end Go.Proofs.YtldejkhemkjcgaaGreatDoor
namespace Go.Proofs.YtldejkhemkjcgaaGreatDoor
def outR (a b : List Rw) (t : PT) (K : List (List Rw)) : List Rw := if t.k = 1 then (if t.n = 0 then a else b) else opR t.k t.n (K.getD 0 []) (K.getD 1 [])
def outI (a b : List It) (t : PT) (K : List (List It)) : List It := if t.k = 1 then (if t.n = 0 then a else b) else opS t.k t.n (K.getD 0 []) (K.getD 1 [])
theorem len0_k {k n : Int} (h : hereB (.n0 k n) = true) : k = 1 := by
  obtain ⟨p1, p2, -⟩ := here_parts h
  simp only [PT.k, PT.len] at p1 p2
  have hc : k = 1 ∨ k = 2 ∨ k = 3 ∨ k = 4 ∨ k = 5 ∨ k = 6 := by omega
  rcases hc with rfl | rfl | rfl | rfl | rfl | rfl
  · rfl
  all_goals exact absurd p2 (by decide)
theorem lenS_k {t : PT} (h : hereB t = true) (hl : t.len ≠ 0) : t.k ≠ 1 := fun e => by
  obtain ⟨-, p2, -⟩ := here_parts h
  rw [e] at p2
  have : kidN 1 = 0 := rfl
  omega
theorem planR_of {a b : List Rw} {t : PT} {K : List (List Rw)} (hh : hereB t = true) (hl : K.length = t.len) (hp : ∀ j l, K[j]? = some l → planR a b (t.kid j) = some l) : planR a b t = fitO (outR a b t K) := by
  cases t with
  | n0 k n =>
    have := len0_k hh
    subst this
    rfl
  | n1 k n x =>
    have h1 := lenS_k hh (by simp [PT.len])
    simp only [PT.k] at h1
    obtain ⟨l, rfl⟩ : ∃ l, K = [l] := by
      match K, hl with
      | [l], _ => exact ⟨l, rfl⟩
    have := hp 0 l rfl
    simp only [PT.kid] at this
    simp [planR, outR, PT.k, PT.n, h1, this]
  | n2 k n x y =>
    have h1 := lenS_k hh (by simp [PT.len])
    simp only [PT.k] at h1
    obtain ⟨l, m, rfl⟩ : ∃ l m, K = [l, m] := by
      match K, hl with
      | [l, m], _ => exact ⟨l, m, rfl⟩
    have e1 := hp 0 l rfl
    have e2 := hp 1 m rfl
    simp only [PT.kid] at e1 e2
    simp [planR, outR, PT.k, PT.n, h1, e1, e2]
theorem planS_of {a b : List It} {t : PT} {K : List (List It)} (hh : hereB t = true) (hl : K.length = t.len) (hp : ∀ j l, K[j]? = some l → planS a b (t.kid j) = some l) : planS a b t = fitI (outI a b t K) := by
  cases t with
  | n0 k n =>
    have := len0_k hh
    subst this
    rfl
  | n1 k n x =>
    have h1 := lenS_k hh (by simp [PT.len])
    simp only [PT.k] at h1
    obtain ⟨l, rfl⟩ : ∃ l, K = [l] := by
      match K, hl with
      | [l], _ => exact ⟨l, rfl⟩
    have := hp 0 l rfl
    simp only [PT.kid] at this
    simp [planS, outI, PT.k, PT.n, h1, this]
  | n2 k n x y =>
    have h1 := lenS_k hh (by simp [PT.len])
    simp only [PT.k] at h1
    obtain ⟨l, m, rfl⟩ : ∃ l m, K = [l, m] := by
      match K, hl with
      | [l, m], _ => exact ⟨l, m, rfl⟩
    have e1 := hp 0 l rfl
    have e2 := hp 1 m rfl
    simp only [PT.kid] at e1 e2
    simp [planS, outI, PT.k, PT.n, h1, e1, e2]
theorem planR_none {a b : List Rw} {t : PT} {i : Nat} (hi : i < t.len) (h : planR a b (t.kid i) = none) : planR a b t = none := by
  cases t with
  | n0 k n => simp [PT.len] at hi
  | n1 k n x => simp only [PT.kid] at h; simp [planR, h]
  | n2 k n x y =>
    cases i with
    | zero => simp only [PT.kid] at h; simp [planR, h]
    | succ i => simp only [PT.kid] at h; simp [planR, h]
theorem planS_none {a b : List It} {t : PT} {i : Nat} (hi : i < t.len) (h : planS a b (t.kid i) = none) : planS a b t = none := by
  cases t with
  | n0 k n => simp [PT.len] at hi
  | n1 k n x => simp only [PT.kid] at h; simp [planS, h]
  | n2 k n x y =>
    cases i with
    | zero => simp only [PT.kid] at h; simp [planS, h]
    | succ i => simp only [PT.kid] at h; simp [planS, h]
theorem planR_len {a b r : List Rw} {t : PT} (h : planR a b t = some r) : r.length ≤ 400 := rok_len (bok_rok (planR_bok h))
theorem planS_len {a b r : List It} {t : PT} (h : planS a b t = some r) : r.length ≤ 400 := sok_len (planS_sok h)
theorem bokR_len {l : List Rw} (h : bokB l = true) : l.length ≤ 400 := rok_len (bok_rok h)
def flowR (t : PT) : List (List Rw) → Option (List Rw)
  | [a, b] => if pokB t 4 && bokB a && bokB b then planR a b t else none
  | _ => none
def flowI (t : PT) : List (List It) → Option (List It)
  | [a, b] => if pokB t 4 && sokB a && sokB b then planS a b t else none
  | _ => none
theorem flowR_two {t : PT} {a b : List Rw} (h : pokB t 4 = true) (ha : bokB a = true) (hb : bokB b = true) : flowR t [a, b] = planR a b t := by simp [flowR, h, ha, hb]
theorem flowI_two {t : PT} {a b : List It} (h : pokB t 4 = true) (ha : sokB a = true) (hb : sokB b = true) : flowI t [a, b] = planS a b t := by simp [flowI, h, ha, hb]
theorem flowR_no1 {t : PT} {K : List (List Rw)} (h : pokB t 4 = false) : flowR t K = none := by
  unfold flowR; split
  · simp [h]
  · rfl
theorem flowI_no1 {t : PT} {K : List (List It)} (h : pokB t 4 = false) : flowI t K = none := by
  unfold flowI; split
  · simp [h]
  · rfl
theorem flowR_no2 {t : PT} {K : List (List Rw)} (h : K.length ≠ 2) : flowR t K = none := by
  unfold flowR; split
  · simp at h
  · rfl
theorem flowI_no2 {t : PT} {K : List (List It)} (h : K.length ≠ 2) : flowI t K = none := by
  unfold flowI; split
  · simp at h
  · rfl
theorem flowR_no3 {t : PT} {K : List (List Rw)} (h : K.all bokB = false) : flowR t K = none := by
  unfold flowR; split
  · rename_i a b
    simp only [List.all_cons, List.all_nil, Bool.and_true] at h
    rw [Bool.and_assoc, h]; simp
  · rfl
theorem flowI_no3 {t : PT} {K : List (List It)} (h : K.all sokB = false) : flowI t K = none := by
  unfold flowI; split
  · rename_i a b
    simp only [List.all_cons, List.all_nil, Bool.and_true] at h
    rw [Bool.and_assoc, h]; simp
  · rfl
theorem flowR_some {t : PT} {K : List (List Rw)} {r : List Rw} (h : flowR t K = some r) : ∃ a b, K = [a, b] ∧ pokB t 4 = true ∧ bokB a = true ∧ bokB b = true ∧ planR a b t = some r := by
  unfold flowR at h; split at h
  · rename_i a b
    split at h
    · rename_i hc
      simp only [Bool.and_eq_true] at hc
      exact ⟨a, b, rfl, hc.1.1, hc.1.2, hc.2, h⟩
    · cases h
  · cases h
theorem two_of {α : Type} {K : List α} (h : K.length = 2) : ∃ a b, K = [a, b] := by
  match K, h with
  | [a, b], _ => exact ⟨a, b, rfl⟩
def FineR (_ _ : List Rw) (_ : PT) : Prop := True
theorem fineR_kid {a b : List Rw} {t : PT} {i : Nat} (_ : FineR a b t) (_ : i < t.len) : FineR a b (t.kid i) := trivial
def FineI (a b : List It) : PT → Prop
  | .n0 _ _ => True
  | .n1 _ _ x => FineI a b x ∧ ∀ r, planS a b x = some r → absum r ≤ 1200000
  | .n2 _ _ x y => (FineI a b x ∧ ∀ r, planS a b x = some r → absum r ≤ 1200000) ∧ FineI a b y ∧ ∀ r, planS a b y = some r → absum r ≤ 1200000
theorem fineI_at {a b : List It} {t : PT} {i : Nat} (h : FineI a b t) (hi : i < t.len) : FineI a b (t.kid i) ∧ ∀ r, planS a b (t.kid i) = some r → absum r ≤ 1200000 := by
  cases t with
  | n0 k n => simp [PT.len] at hi
  | n1 k n x => exact h
  | n2 k n x y =>
    cases i with
    | zero => exact h.1
    | succ i => exact h.2
theorem fineI_kid {a b : List It} {t : PT} {i : Nat} (h : FineI a b t) (hi : i < t.len) : FineI a b (t.kid i) := (fineI_at h hi).1
theorem pairR_far {x y : List Rw} (hx : rokB x = true) (hy : rokB y = true) : (pairR x y).length ≤ 160000 ∧ absum (pairR x y) ≤ 2305843009213693952 := by
  have h1 := pairR_len x y
  have h2 : x.length * y.length ≤ 400 * 400 := Nat.mul_le_mul (rok_len hx) (rok_len hy)
  have h3 := pairR_small (rok_absF hx) (rok_absF hy)
  constructor
  · omega
  · omega
end Go.Proofs.YtldejkhemkjcgaaGreatDoor
namespace Go.Proofs.YtldejkhemkjcgaaGreatDoor
def bdd : Nat → Int
  | 0 => 33
  | 1 => 33
  | d + 2 => bdd (d + 1) * bdd (d + 1)
theorem bdd_ge : ∀ d, 33 ≤ bdd d
  | 0 => by decide
  | 1 => by decide
  | d + 2 => by
    have h := bdd_ge (d + 1)
    show 33 ≤ bdd (d + 1) * bdd (d + 1)
    have : 33 * 1 ≤ bdd (d + 1) * bdd (d + 1) := Int.mul_le_mul h (by omega) (by decide) (by omega)
    omega
theorem bdd_sq {b : Int} (h : 33 ≤ b) : b + b ≤ b * b ∧ b ≤ b * b ∧ 400 ≤ b * b := by
  have h1 : 33 * b ≤ b * b := Int.mul_le_mul_of_nonneg_right h (by omega)
  omega
theorem sumK_abs (n : Int) {x : List It} (h : sokB x = true) : absum (sumK n x) ≤ 400 := by
  have h1 : ∀ {m : List It}, (∀ r ∈ m, r.2 = 1) → absum m ≤ m.length := by
    intro m
    induction m with
    | nil => intro _; simp [absum]
    | cons q m ih =>
      intro hm
      have h2 := ih fun r hr => hm r (List.mem_cons_of_mem _ hr)
      have h3 := hm q (List.mem_cons_self ..)
      simp only [absum, List.length_cons]
      rw [h3]
      omega
  have h2 := h1 fun r hr => sumK_ones (kind := n) h hr
  have h3 := sok_len (sumK_sok n h)
  omega
theorem opS_abs {k n b : Int} {x y : List It} (hx : sokB x = true) (hy : sokB y = true) (hb : 33 ≤ b) (h1 : absum x ≤ b) (h2 : absum y ≤ b) : absum (opS k n x y) ≤ b * b := by
  obtain ⟨s1, s2, s3⟩ := bdd_sq hb
  unfold opS
  split
  · cases hw : inB n 1 7
    · rw [each_no2 hw]; simp [absum]; omega
    · rw [each_yes hx hw]
      have := sum_absI (eachT n x); have := each_abs n x; omega
  split
  · have := bothS_abs x y; omega
  split
  · rw [lessS_yes hx, neg_abs1]; omega
  split
  · rw [joinS_yes hx hy]
    have := sum_absI (pairT x y)
    have := pair_small h1 h2
    omega
  · have := sumK_abs n hx; omega
theorem planS_abs {a b : List It} (ha : absum a ≤ 33) (hb : absum b ≤ 33) : ∀ (d : Nat) (t : PT) {r : List It}, pokB t d = true → planS a b t = some r → absum r ≤ bdd d := by
  intro d
  induction d with
  | zero => intro t r hp; rw [pok_zero] at hp; cases hp
  | succ d ih =>
    intro t r hp h
    obtain ⟨hh, hk⟩ := pok_parts hp
    cases t with
    | n0 k n =>
      obtain ⟨_, rfl⟩ := fitI_some.1 h
      have := bdd_ge (d + 1)
      split <;> omega
    | n1 k n x =>
      obtain ⟨s, hs, h2⟩ := Option.bind_eq_some_iff.1 h
      obtain ⟨_, rfl⟩ := fitI_some.1 h2
      have k0 := hk 0 (by simp [PT.len])
      have i0 := ih x k0 hs
      cases d with
      | zero => rw [pok_zero] at k0; cases k0
      | succ d => exact opS_abs (planS_sok hs) sok_nil (bdd_ge _) i0 (by have := bdd_ge (d + 1); simp [absum]; omega)
    | n2 k n x y =>
      obtain ⟨s, hs, h2⟩ := Option.bind_eq_some_iff.1 h
      obtain ⟨u, hu, h3⟩ := Option.bind_eq_some_iff.1 h2
      obtain ⟨_, rfl⟩ := fitI_some.1 h3
      have k0 := hk 0 (by simp [PT.len])
      have k1 := hk 1 (by simp [PT.len])
      have i0 := ih x k0 hs
      have i1 := ih y k1 hu
      cases d with
      | zero => rw [pok_zero] at k0; cases k0
      | succ d => exact opS_abs (planS_sok hs) (planS_sok hu) (bdd_ge _) i0 i1
theorem bdd_up {d e : Nat} (h : d ≤ e) : bdd d ≤ bdd e := by
  induction e with
  | zero => obtain rfl : d = 0 := by omega
            exact Int.le_refl _
  | succ e ih =>
    rcases Nat.lt_or_ge e d with h1 | h1
    · obtain rfl : d = e + 1 := by omega
      exact Int.le_refl _
    · have h2 := ih h1
      cases e with
      | zero => exact h2
      | succ e => exact Int.le_trans h2 (bdd_sq (bdd_ge (e + 1))).2.1
theorem fineI_of {a b : List It} (ha : absum a ≤ 33) (hb : absum b ≤ 33) : ∀ (d : Nat) (t : PT), d ≤ 4 → pokB t d = true → FineI a b t := by
  intro d
  induction d with
  | zero => intro t _ hp; rw [pok_zero] at hp; cases hp
  | succ d ih =>
    intro t hd hp
    obtain ⟨hh, hk⟩ := pok_parts hp
    have key : ∀ i, i < t.len → FineI a b (t.kid i) ∧ ∀ r, planS a b (t.kid i) = some r → absum r ≤ 1200000 := fun i hi => by
      refine ⟨ih _ (by omega) (hk i hi), fun r hr => ?_⟩
      have h1 := planS_abs ha hb d _ (hk i hi) hr
      have h2 := bdd_up (show d ≤ 3 by omega)
      have h3 : bdd 3 = 1185921 := by decide
      omega
    cases t with
    | n0 k n => trivial
    | n1 k n x => exact key 0 (by simp [PT.len])
    | n2 k n x y => exact ⟨key 0 (by simp [PT.len]), key 1 (by simp [PT.len])⟩
end Go.Proofs.YtldejkhemkjcgaaGreatDoor
