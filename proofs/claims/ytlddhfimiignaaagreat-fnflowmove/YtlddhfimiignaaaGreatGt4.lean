/- Items of a slice appended to a slice of a call's own; what the model makes of all items of a key, and of all keys: contracts. -/
import Derived.Test.YtlddhfimiignaaaGreatGt3
import Derived.Test.YtlddhfimiignaaaGreatGs3
namespace Go.Proofs.YtlddhfimiignaaaGreat
open Go.RowKit Go.Shelf

theorem is_src {w : World} {v : Value} {l : List It} (h : Is w v l) : ∃ (ad : Option Addr) (cap : Nat), v = .slice ad l.length cap ∧ (l ≠ [] → ∃ g off, ad = some ⟨g, off, none⟩ ∧ ∀ j u, (l.flatMap itC)[j]? = some u → w.cell? ((⟨g, off, none⟩ : Addr).add j) = some u) := by
  obtain ⟨a, cap, rfl, hc, hm, hn, h4⟩ := h
  refine ⟨a, cap, rfl, fun hne => ?_⟩
  have h0 : 0 < l.length := List.length_pos_iff.2 hne
  obtain ⟨g, off, rfl, hg, _⟩ := h4 0 l[0] (List.getElem?_eq_getElem h0)
  refine ⟨g, off, rfl, fun j u hj => ?_⟩
  have hlt : j < l.length * 3 := by
    have := (List.getElem?_eq_some_iff.1 hj).1
    rwa [flat_len itC_len] at this
  have hq : j / 3 < l.length := by omega
  obtain ⟨g', off', e, _, c⟩ := h4 (j / 3) l[j / 3] (List.getElem?_eq_getElem hq)
  simp only [Option.some.injEq, Addr.mk.injEq] at e
  obtain ⟨rfl, rfl, _⟩ := e
  have hc2 := c (j % 3) (Nat.mod_lt _ (by omega))
  have e2 := flat_get itC_len l (List.getElem?_eq_getElem hq) (j := j % 3) (Nat.mod_lt _ (by omega))
  have e3 : j / 3 * 3 + j % 3 = j := by omega
  rw [e3] at e2
  rw [Nat.add_assoc, e3] at hc2
  rw [Go.WideShapes.add_plain]
  rw [hc2, ← e2, hj]
theorem onesIs (l : List It) : ∀ u ∈ l.flatMap itC, u.oneCell' = true := by
  intro u hu
  obtain ⟨r, _, hr⟩ := List.mem_flatMap.1 hu
  exact onesI r u hr
theorem src_zeroI {w : World} (ad : Option Addr) (c : Nat) : _root_.Go.Src Tryz.prog 3 32 (.slice ad 0 c) 0 [] w := by
  cases ad with
  | none => exact _root_.Go.Src.ofNil w Tryz.underlying32 c
  | some a => exact _root_.Go.Src.ofSlice w Tryz.underlying32 a 0 c [] rfl (by simp) (by simp)
theorem app_zeroI {w : World} {B : Nat} {v : Value} {l : List It} (h : OwnI w B v l) (ad : Option Addr) (c : Nat) (ty : TypeId) : (Builtin.append_ #[32, 32] ty #[v, .slice ad 0 c]).run Tryz.prog w = .ok v w := by
  obtain ⟨i0, hi, hz0, hz1, hz2⟩ := info_parts infoI
  have hs : _root_.Go.Src Tryz.prog i0.size 32 (.slice ad 0 c) 0 [] w := by rw [hz1]; exact src_zeroI ad c
  rcases ownK_open h itC_len with ⟨rfl, rfl⟩ | ⟨g, cap, cs, rfl, hg, hb, hss, hcc, hm, _⟩
  · simp [Builtin.append_, run_underlying Tryz.underlying32, sizeOf, typeInfo, hi, hs.len, hs.cells]
  · have := run_append_room_src (P := Tryz.prog) w 32 32 ty 69 i0 Tryz.underlying32 hi g 0 l.length cap _ 0 [] hs (by omega) (by simp) (by simp)
    exact this
section
variable {ops : Array Oper} {rest : List Oper} {o : Oper} {a : Act} {Q : Exit → Act → World → Prop}
/-- 'append(v, v2...)'. -/
theorem appIs (w : World) (hgd : o.guard = none) (s x : Operand) (ho : o.op = .call { callee := .builtin .append, args := #[s, x], argTypes := #[32, 32] })
    (base : Nat) (v : Value) (l : List It) (hs : a.eval s = v) (hown : OwnI w base v l) (v2 : Value) (m : List It) (hx : a.eval x = v2) (hR : Is w v2 m) (hl : l.length + m.length ≤ 2000000) (hbase : base ≤ w.heap.size)
    (h : ∀ v' w', OwnI w' base v' (l ++ m) → w.grownBy w' v.ownBlock → wpList Tryz.prog ops Q rest (a.put o.dst v') w') :
    wpList Tryz.prog ops Q (o :: rest) a w := by
  obtain ⟨i0, hi, hz0, hz1, hz2⟩ := info_parts infoI
  obtain ⟨ad, cap, rfl, hsrc⟩ := is_src hR
  by_cases hm0 : m = []
  · subst hm0
    refine wpList_plain hgd fun K' hK' => ?_
    have hrun := app_zeroI hown ad cap o.type
    unfold Oper.wp
    simp [execOp, ho, resolve, invoke, builtin, hs, hx, hrun, Result.andThen]
    exact hK' _ _ (h v w (by simpa using hown) ⟨rfl, rfl, rfl, Nat.le_refl _, fun _ _ _ => rfl⟩)
  · obtain ⟨g, off, rfl, hnews⟩ := hsrc hm0
    have hpos : 0 < m.length := List.length_pos_iff.2 hm0
    refine wpList_append_lies w hgd s x 32 ho base 69 i0 _ 3 24 Tryz.underlying32 hi hz0 hz1 hz2 rfl (by decide) v l.length (l.flatMap itC) hs hown ⟨g, off, none⟩ m.length cap (m.flatMap itC) hx (flat_len itC_len m) hnews (onesIs m) hpos (by unfold maxLen; omega) (by omega) hbase w.heap.size rfl ?_
    intro g' cap' w' h1 h2 _ _
    refine h _ w' ?_ h2
    show w'.ownsRow _ _ _ _ _ _
    rw [List.flatMap_append, List.length_append]; exact h1
end
theorem appIs_len {s t : List It} : (s ++ t).length = s.length + t.length := List.length_append
theorem sok_take {l : List It} (h : sokB l = true) (k : Nat) : absum (l.take k) ≤ 1099511627776 * 400 := Int.le_trans (absum_take l k) (sok_abs h)
theorem keyN_yes {l : List It} {k : Nat} {K V D key : Int} (h : l[k]? = some ((K, V), D)) (e : K = key) : keyN (l.take (k + 1)) key = keyN (l.take k) key + D := by
  rw [take_snoc h, keyN_snoc]; simp [e]
theorem keyN_no {l : List It} {k : Nat} {K V D key : Int} (h : l[k]? = some ((K, V), D)) (e : K ≠ key) : keyN (l.take (k + 1)) key = keyN (l.take k) key := by
  rw [take_snoc h, keyN_snoc]; simp [e]
theorem mod100 (n : Int) : ((n.tmod 100) + 100) % 100 = n % 100 := by
  have h1 := Int.tmod_add_mul_tdiv n 100
  omega
theorem once_other {l : List It} {k : Nat} {K V D key : Int} (hr : l[k]? = some ((K, V), D)) (hK : K ≠ key) : ((onceT (l.take (k + 1))).filter fun r => decide (r.1.1 = key)) = ((onceT (l.take k)).filter fun r => decide (r.1.1 = key)) := by
  by_cases hD : 0 < D
  · rw [once_yes hr hD, List.filter_append]; simp [hK]
  · rw [once_no hr hD]
set_option maxHeartbeats 2000000 in
theorem l3Count_any (n : Int) (w : World) : Calls Tryz.prog 141 #[.int .i64 n] w fun e w' => e = .returned (.int .i64 (n % 100)) ∧ Below w.heap.size w w' := by
  have t1 := Int.tmod_lt_of_pos n (b := 100) (by omega)
  have t2 : -100 < n.tmod 100 := by have := Int.lt_tmod_of_pos n (b := 100) (by omega); omega
  have H := (show Hid _ from mod100 n)
  go_enter Tryz.func141, Tryz.ntmps141
  go_wp2_with fail
  go_ret
  exact ⟨ret_int H.out, Below.refl _ _⟩
set_option maxHeartbeats 2000000 in
theorem valOf_any (n : Int) (w : World) : Calls Tryz.prog 91 #[.int .i64 n] w fun e w' => e = .returned (.int .i64 (n % 100)) ∧ Below w.heap.size w w' := by
  have t1 := Int.tmod_lt_of_pos n (b := 100) (by omega)
  have t2 : -100 < n.tmod 100 := by have := Int.lt_tmod_of_pos n (b := 100) (by omega); omega
  have H := (show Hid _ from mod100 n)
  go_enter Tryz.func91, Tryz.ntmps91
  go_wp2_with fail
  go_ret
  exact ⟨ret_int H.out, Below.refl _ _⟩
set_option maxRecDepth 100000 in
set_option maxHeartbeats 8000000 in
theorem l3Key_1 (v : Value) (l : List It) (key : Int) (w : World) (h : Is w v l) (hs : sokB l = true) :
    Calls Tryz.prog 126 #[v, .int .i64 key, .int .i64 1] w fun e w' => ∃ o : Value, e = .returned o ∧ Is w' o (countK l key) ∧ Below w.heap.size w w' := by
  obtain ⟨a, cap, rfl, hc, hm, hn, hcells⟩ := Is.open h
  unfold maxLen at hm
  have HC := (show Hid _ from hcells)
  have hl := sok_len hs
  have HD : Hid (∀ (k : Nat) (s : Int × Int) (d : Int), l[k]? = some (s, d) → -1099511627776 ≤ d ∧ d ≤ 1099511627776) := fun k s d hr => sok_d hs hr
  have HN : Hid (∀ k : Nat, -(1099511627776 * 400) ≤ keyN (l.take k) key ∧ keyN (l.take k) key ≤ 1099511627776 * 400) := fun k => by
    have h1 := keyN_abs (l.take k) key; have h2 := sok_take hs k; omega
  clear hcells h hs
  have oE := ownI_empty w rfl
  have hbE := bAlloc (Below.refl _ w) (.cells #[] 69)
  go_enter Tryz.func126, Tryz.ntmps126
  go_wp2_with fail
  go_loopw [7, 8, 9] (fun o n i wr => ∃ k : Nat, k ≤ l.length ∧ i = .int .i64 k ∧ n = .int .i64 (keyN (l.take k) key) ∧ OwnI wr w.heap.size o (([] : List It)) ∧ Below w.heap.size w wr) (fun _ _ i _ => l.length - (intOf i).toNat)
  case atStart => exact ⟨0, by omega, rfl, rfl, oE, hbE⟩
  case round =>
    clear oE hbE
    obtain ⟨k, hkl, rfl, rfl, hown, hb⟩ := hrel
    have HO : Hid (OwnI wr w.heap.size u7 (([] : List It))) := hown
    obtain ⟨n1, n2⟩ := HN.out k
    have hsz := hb.size
    clear hown
    by_cases hlt : k < l.length
    · obtain ⟨g, off, K, V, D, rfl, hg, hr, c0, c1, c2⟩ := HC.out k hlt
      obtain ⟨hD1, hD2⟩ := HD.out k _ _ hr
      have d0 := cell_below hb c0
      have d1 := cell_below hb c1
      have d2 := cell_below hb c2
      have ik : ((k : Int) < (l.length : Int)) := by omega
      clear c0 c1 c2
      by_cases hK : K = key
      · subst hK
        have HY := (show Hid _ from keyN_yes hr rfl)
        clear hr
        generalize keyN (l.take k) K = nn at *
        by_cases hD : 0 < D
        · go_wp2_with fail
          go_roundw
          case rel => exact ⟨k + 1, by omega, by go_num, by rw [HY.out], HO.out, hb⟩
          case measure => simp [intOf]; omega
        · go_wp2_with fail
          go_roundw
          case rel => exact ⟨k + 1, by omega, by go_num, by rw [HY.out], HO.out, hb⟩
          case measure => simp [intOf]; omega
      · have nK : (K == key) = false := by simpa using hK
        have HY := (show Hid _ from keyN_no hr hK)
        have HZ : Hid (([] : List It) = ([] : List It)) := rfl
        clear hr
        generalize keyN (l.take k) key = nn at *
        go_wp2_with fail
        go_roundw
        case rel => exact ⟨k + 1, by omega, by go_num, by rw [HY.out], by rw [HZ.out]; exact HO.out, hb⟩
        case measure => simp [intOf]; omega
    · obtain rfl : k = l.length := by omega
      have HK : Hid (countK l key = if keyN (l.take l.length) key = 0 then [] else [((key, keyN (l.take l.length) key % 100), 1)]) := by show _ = _; rw [List.take_length]; rfl
      generalize keyN (l.take l.length) key = nn at *
      by_cases h0 : nn = 0
      · subst h0
        have HR : Hid (Is wr u7 (countK l key)) := by rw [HK.out, if_pos rfl]; exact OwnI.is HO.out (by simp)
        go_wp2_with fail
        go_ret
        exact ⟨_, rfl, HR.out, hb⟩
      · have n0 : (nn == 0) = false := by simpa using h0
        go_wp2_with fail
        refine (l3Count_any nn _).mono ?_
        rintro e w1 ⟨rfl, hb1⟩
        have hbn := bStep hb hb1
        have hsn := hbn.size
        have O2 : OwnI w1 w.heap.size u7 [] := own_keep HO.out hb1
        go_wp2_with (at_builtin; refine appI _ rfl _ _ rfl w.heap.size _ [] rfl (O2.alloc _) _ key (nn % 100) 1 rfl (Bk.new _ _ rfl) (by simp) (by simp; omega) ?_; intro g9 cap9 w9 own9 hgrow hlg)
        have hb9 : Below w.heap.size w w9 := Below.grew (bAlloc hbn _) hgrow (by simp; omega) (ownK_base O2)
        have HR : Hid (Is w9 (.slice (some ⟨g9, 0, none⟩) (([] : List It).length + 1) cap9) (countK l key)) := by rw [HK.out, if_neg h0]; exact OwnI.is own9 (by simp)
        go_ret
        exact ⟨_, rfl, HR.out, hb9⟩
set_option maxRecDepth 100000 in
set_option maxHeartbeats 8000000 in
theorem l3Key_2 (v : Value) (l : List It) (key : Int) (w : World) (h : Is w v l) (hs : sokB l = true) :
    Calls Tryz.prog 126 #[v, .int .i64 key, .int .i64 2] w fun e w' => ∃ o : Value, e = .returned o ∧ Is w' o ((onceT l).filter fun r => decide (r.1.1 = key)) ∧ Below w.heap.size w w' := by
  obtain ⟨a, cap, rfl, hc, hm, hn, hcells⟩ := Is.open h
  unfold maxLen at hm
  have HC := (show Hid _ from hcells)
  have hl := sok_len hs
  have HD : Hid (∀ (k : Nat) (s : Int × Int) (d : Int), l[k]? = some (s, d) → -1099511627776 ≤ d ∧ d ≤ 1099511627776) := fun k s d hr => sok_d hs hr
  have HN : Hid (∀ k : Nat, -(1099511627776 * 400) ≤ keyN (l.take k) key ∧ keyN (l.take k) key ≤ 1099511627776 * 400) := fun k => by
    have h1 := keyN_abs (l.take k) key; have h2 := sok_take hs k; omega
  clear hcells h hs
  have oE := ownI_empty w rfl
  have hbE := bAlloc (Below.refl _ w) (.cells #[] 69)
  go_enter Tryz.func126, Tryz.ntmps126
  go_wp2_with fail
  go_loopw [7, 8, 9] (fun o n i wr => ∃ k : Nat, k ≤ l.length ∧ i = .int .i64 k ∧ n = .int .i64 (keyN (l.take k) key) ∧ OwnI wr w.heap.size o ((onceT (l.take k)).filter fun r => decide (r.1.1 = key)) ∧ Below w.heap.size w wr) (fun _ _ i _ => l.length - (intOf i).toNat)
  case atStart => exact ⟨0, by omega, rfl, rfl, oE, hbE⟩
  case round =>
    clear oE hbE
    obtain ⟨k, hkl, rfl, rfl, hown, hb⟩ := hrel
    have HO : Hid (OwnI wr w.heap.size u7 ((onceT (l.take k)).filter fun r => decide (r.1.1 = key))) := hown
    obtain ⟨n1, n2⟩ := HN.out k
    have hsz := hb.size
    clear hown
    by_cases hlt : k < l.length
    · obtain ⟨g, off, K, V, D, rfl, hg, hr, c0, c1, c2⟩ := HC.out k hlt
      obtain ⟨hD1, hD2⟩ := HD.out k _ _ hr
      have d0 := cell_below hb c0
      have d1 := cell_below hb c1
      have d2 := cell_below hb c2
      have ik : ((k : Int) < (l.length : Int)) := by omega
      clear c0 c1 c2
      by_cases hK : K = key
      · subst hK
        have HY := (show Hid _ from keyN_yes hr rfl)
        by_cases hD : 0 < D
        · have HZ : Hid (((onceT (l.take (k + 1))).filter fun r => decide (r.1.1 = K)) = ((onceT (l.take k)).filter fun r => decide (r.1.1 = K)) ++ [((K, V), 1)]) := by show _ = _; rw [once_yes hr hD, List.filter_append]; simp
          have hL : ((onceT (l.take k)).filter fun r => decide (r.1.1 = K)).length ≤ 1000000 := by have h1 := List.length_filter_le (fun r : It => decide (r.1.1 = K)) (onceT (l.take k)); have h2 := once_len (l.take k); simp at h2; omega
          have O1 : OwnI wr w.heap.size u7 ((onceT (l.take k)).filter fun r => decide (r.1.1 = K)) := HO.out
          clear hr HO
          generalize ((onceT (l.take k)).filter fun r => decide (r.1.1 = K)) = LL at *
          generalize keyN (l.take k) K = nn at *
          go_wp2_with (at_builtin; refine appI _ rfl _ _ rfl w.heap.size _ LL rfl (O1.alloc _) _ K V 1 rfl (Bk.new _ _ rfl) (by omega) (by simp; omega) ?_; intro g9 cap9 w9 own9 hgrow hlg)
          have hb9 : Below w.heap.size w w9 := Below.grew (bAlloc hb _) hgrow (by simp; omega) (ownK_base O1)
          exact ⟨⟨k + 1, by omega, by go_num, by rw [HY.out], by rw [HZ.out]; exact own9, hb9⟩, by simp [intOf]; omega⟩
        · have HZ : Hid (((onceT (l.take (k + 1))).filter fun r => decide (r.1.1 = K)) = ((onceT (l.take k)).filter fun r => decide (r.1.1 = K))) := by show _ = _; rw [once_no hr hD]
          clear hr
          generalize keyN (l.take k) K = nn at *
          go_wp2_with fail
          go_roundw
          case rel => exact ⟨k + 1, by omega, by go_num, by rw [HY.out], by rw [HZ.out]; exact HO.out, hb⟩
          case measure => simp [intOf]; omega
      · have nK : (K == key) = false := by simpa using hK
        have HY := (show Hid _ from keyN_no hr hK)
        have HZ : Hid (((onceT (l.take (k + 1))).filter fun r => decide (r.1.1 = key)) = ((onceT (l.take k)).filter fun r => decide (r.1.1 = key))) := by show _ = _; rw [once_other hr hK]
        clear hr
        generalize keyN (l.take k) key = nn at *
        go_wp2_with fail
        go_roundw
        case rel => exact ⟨k + 1, by omega, by go_num, by rw [HY.out], by rw [HZ.out]; exact HO.out, hb⟩
        case measure => simp [intOf]; omega
    · obtain rfl : k = l.length := by omega
      have HR : Hid (Is wr u7 ((onceT l).filter fun r => decide (r.1.1 = key))) := by have := HO.out; rw [List.take_length] at this; exact OwnI.is this (by have h1 := List.length_filter_le (fun r : It => decide (r.1.1 = key)) (onceT l); have h2 := once_len l; omega)
      generalize keyN (l.take l.length) key = nn at *
      go_wp2_with fail
      go_ret
      exact ⟨_, rfl, HR.out, hb⟩
set_option maxRecDepth 100000 in
set_option maxHeartbeats 8000000 in
theorem l3Key_3 (v : Value) (l : List It) (key : Int) (w : World) (h : Is w v l) (hs : sokB l = true) :
    Calls Tryz.prog 126 #[v, .int .i64 key, .int .i64 3] w fun e w' => ∃ o : Value, e = .returned o ∧ Is w' o (leastK l key) ∧ Below w.heap.size w w' := by
  obtain ⟨a, cap, rfl, hc, hm, hn, hcells⟩ := Is.open h
  unfold maxLen at hm
  have HC := (show Hid _ from hcells)
  have hl := sok_len hs
  have HD : Hid (∀ (k : Nat) (s : Int × Int) (d : Int), l[k]? = some (s, d) → -1099511627776 ≤ d ∧ d ≤ 1099511627776) := fun k s d hr => sok_d hs hr
  have HN : Hid (∀ k : Nat, -(1099511627776 * 400) ≤ keyN (l.take k) key ∧ keyN (l.take k) key ≤ 1099511627776 * 400) := fun k => by
    have h1 := keyN_abs (l.take k) key; have h2 := sok_take hs k; omega
  clear hcells h hs
  have oE := ownI_empty w rfl
  have hbE := bAlloc (Below.refl _ w) (.cells #[] 69)
  go_enter Tryz.func126, Tryz.ntmps126
  go_wp2_with fail
  go_loopw [7, 8, 9] (fun o n i wr => ∃ k : Nat, k ≤ l.length ∧ i = .int .i64 k ∧ n = .int .i64 (keyN (l.take k) key) ∧ OwnI wr w.heap.size o (((onceT (l.take k)).filter fun r => decide (r.1.1 = key)).take 1) ∧ Below w.heap.size w wr) (fun _ _ i _ => l.length - (intOf i).toNat)
  case atStart => exact ⟨0, by omega, rfl, rfl, oE, hbE⟩
  case round =>
    clear oE hbE
    obtain ⟨k, hkl, rfl, rfl, hown, hb⟩ := hrel
    have HO : Hid (OwnI wr w.heap.size u7 (((onceT (l.take k)).filter fun r => decide (r.1.1 = key)).take 1)) := hown
    obtain ⟨n1, n2⟩ := HN.out k
    have hsz := hb.size
    clear hown
    by_cases hlt : k < l.length
    · obtain ⟨g, off, K, V, D, rfl, hg, hr, c0, c1, c2⟩ := HC.out k hlt
      obtain ⟨hD1, hD2⟩ := HD.out k _ _ hr
      have d0 := cell_below hb c0
      have d1 := cell_below hb c1
      have d2 := cell_below hb c2
      have ik : ((k : Int) < (l.length : Int)) := by omega
      clear c0 c1 c2
      by_cases hK : K = key
      · subst hK
        have HY := (show Hid _ from keyN_yes hr rfl)
        have HO2 : Hid (OwnI wr w.heap.size u7 (((onceT (l.take k)).filter fun r => decide (r.1.1 = K)).take 1)) := HO.out
        have R0 : Is wr u7 (((onceT (l.take k)).filter fun r => decide (r.1.1 = K)).take 1) := OwnI.is HO.out (by simp; omega)
        obtain ⟨a7, cap7, hu7, -, -, -, -⟩ := R0
        by_cases hD : 0 < D
        · by_cases hz : (((onceT (l.take k)).filter fun r => decide (r.1.1 = K)).take 1).length = 0
          · have h0 : (onceT (l.take k)).filter (fun r => decide (r.1.1 = K)) = [] := by
              rw [List.length_take] at hz; exact List.eq_nil_of_length_eq_zero (by omega)
            have e0 : (((onceT (l.take k)).filter fun r => decide (r.1.1 = K)).take 1) = [] := by rw [h0]; rfl
            have HZ : Hid ((((onceT (l.take (k + 1))).filter fun r => decide (r.1.1 = K)).take 1) = [((K, V), 1)]) := by show _ = _; rw [once_yes hr hD, List.filter_append, h0]; simp
            have O1 : OwnI wr w.heap.size u7 [] := by have := HO.out; rw [e0] at this; exact this
            have hu : u7 = .slice a7 0 cap7 := by rw [hu7, e0]; rfl
            subst hu
            clear hr HO HO2 hz h0 e0 hu7
            generalize keyN (l.take k) K = nn at *
            go_wp2_with (at_builtin; refine appI _ rfl _ _ rfl w.heap.size _ [] rfl (O1.alloc _) _ K V 1 rfl (Bk.new _ _ rfl) (by simp) (by simp; omega) ?_; intro g9 cap9 w9 own9 hgrow hlg)
            have hb9 : Below w.heap.size w w9 := Below.grew (bAlloc hb _) hgrow (by simp; omega) (ownK_base O1)
            exact ⟨⟨k + 1, by omega, by go_num, by rw [HY.out], by rw [HZ.out]; exact own9, hb9⟩, by simp [intOf]; omega⟩
          · have HZ : Hid ((((onceT (l.take (k + 1))).filter fun r => decide (r.1.1 = K)).take 1) = (((onceT (l.take k)).filter fun r => decide (r.1.1 = K)).take 1)) := by
              show _ = _
              rw [once_yes hr hD, List.filter_append, List.take_append_of_le_length (by rw [List.length_take] at hz; omega)]
            have nz : (((((onceT (l.take k)).filter fun r => decide (r.1.1 = K)).take 1).length : Int) == 0) = false := by simpa using hz
            clear hr hz HO
            generalize (((onceT (l.take k)).filter fun r => decide (r.1.1 = K)).take 1) = XX at *
            subst hu7
            generalize keyN (l.take k) K = nn at *
            go_wp2_with fail
            go_roundw
            case rel => exact ⟨k + 1, by omega, by go_num, by rw [HY.out], by rw [HZ.out]; exact HO2.out, hb⟩
            case measure => simp [intOf]; omega
        · have HZ : Hid ((((onceT (l.take (k + 1))).filter fun r => decide (r.1.1 = K)).take 1) = (((onceT (l.take k)).filter fun r => decide (r.1.1 = K)).take 1)) := by show _ = _; rw [once_no hr hD]
          clear hr
          subst hu7
          generalize keyN (l.take k) K = nn at *
          go_wp2_with fail
          go_roundw
          case rel => exact ⟨k + 1, by omega, by go_num, by rw [HY.out], by rw [HZ.out]; exact HO2.out, hb⟩
          case measure => simp [intOf]; omega
      · have nK : (K == key) = false := by simpa using hK
        have HY := (show Hid _ from keyN_no hr hK)
        have HZ : Hid ((((onceT (l.take (k + 1))).filter fun r => decide (r.1.1 = key)).take 1) = ((onceT (l.take k)).filter fun r => decide (r.1.1 = key)).take 1) := by show _ = _; rw [once_other hr hK]
        clear hr
        generalize keyN (l.take k) key = nn at *
        go_wp2_with fail
        go_roundw
        case rel => exact ⟨k + 1, by omega, by go_num, by rw [HY.out], by rw [HZ.out]; exact HO.out, hb⟩
        case measure => simp [intOf]; omega
    · obtain rfl : k = l.length := by omega
      have HR : Hid (Is wr u7 (leastK l key)) := by have := HO.out; rw [List.take_length] at this; exact OwnI.is (l := leastK l key) this (by have h1 := leastK_len l key; omega)
      generalize keyN (l.take l.length) key = nn at *
      go_wp2_with fail
      go_ret
      exact ⟨_, rfl, HR.out, hb⟩
/-- What is made of the keys below k, one behind the other. -/
def accF (f : Int → List It) : Nat → List It
  | 0 => []
  | k + 1 => accF f k ++ f k
theorem accF_len {f : Int → List It} {c : Nat} (h : ∀ k, (f k).length ≤ c) (k : Nat) : (accF f k).length ≤ k * c := by
  induction k with
  | zero => simp [accF]
  | succ k ih => have := h k; simp only [accF, List.length_append, Nat.add_mul]; omega
theorem accF_four (f : Int → List It) : accF f 4 = f 0 ++ f 1 ++ f 2 ++ f 3 := by simp [accF]
end Go.Proofs.YtlddhfimiignaaaGreat
