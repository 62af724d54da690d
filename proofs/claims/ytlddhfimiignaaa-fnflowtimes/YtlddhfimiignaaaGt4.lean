/- Items of a slice appended to a slice of a call's own; what the model makes of all items of a key, and of all keys: contracts. -/
import Derived.Test.YtlddhfimiignaaaGt3
import Derived.Test.YtlddhfimiignaaaGs3
namespace Go.Proofs.Ytlddhfimiignaaa
open Go.RowKit Go.Shelf

theorem is_src {w : World} {v : Value} {l : List It} (h : Is w v l) : ∃ (ad : Option Addr) (cap : Nat), v = .slice ad l.length cap ∧ (l ≠ [] → ∃ g off, ad = some ⟨g, off, none⟩ ∧ ∀ j u, (l.flatMap itC)[j]? = some u → w.cell? ((⟨g, off, none⟩ : Addr).add j) = some u) := by
  obtain ⟨a, cap, rfl, hc, hm, hn, h4⟩ := h
  refine ⟨a, cap, rfl, fun hne => ?_⟩
  have h0 : 0 < l.length := List.length_pos_iff.2 hne
  obtain ⟨g, off, rfl, hg, _⟩ := h4 0 l[0] (List.getElem?_eq_getElem h0)
  refine ⟨g, off, rfl, fun j u hj => ?_⟩
  have hlt : j < l.length * 3 := by
    have := (List.getElem?_eq_some_iff.1 hj).1
    rwa [flat_len itC_len] at this
  have hq : j / 3 < l.length := by omega
  obtain ⟨g', off', e, _, c⟩ := h4 (j / 3) l[j / 3] (List.getElem?_eq_getElem hq)
  simp only [Option.some.injEq, Addr.mk.injEq] at e
  obtain ⟨rfl, rfl, _⟩ := e
  have hc2 := c (j % 3) (Nat.mod_lt _ (by omega))
  have e2 := flat_get itC_len l (List.getElem?_eq_getElem hq) (j := j % 3) (Nat.mod_lt _ (by omega))
  have e3 : j / 3 * 3 + j % 3 = j := by omega
  rw [e3] at e2
  rw [Nat.add_assoc, e3] at hc2
  rw [Go.WideShapes.add_plain]
  rw [hc2, ← e2, hj]
theorem onesIs (l : List It) : ∀ u ∈ l.flatMap itC, u.oneCell' = true := by
  intro u hu
  obtain ⟨r, _, hr⟩ := List.mem_flatMap.1 hu
  exact onesI r u hr
theorem src_zeroI {w : World} (ad : Option Addr) (c : Nat) : _root_.Go.Src Try.prog 3 23 (.slice ad 0 c) 0 [] w := by
  cases ad with
  | none => exact _root_.Go.Src.ofNil w Try.underlying23 c
  | some a => exact _root_.Go.Src.ofSlice w Try.underlying23 a 0 c [] rfl (by simp) (by simp)
theorem app_zeroI {w : World} {B : Nat} {v : Value} {l : List It} (h : OwnI w B v l) (ad : Option Addr) (c : Nat) (ty : TypeId) : (Builtin.append_ #[23, 23] ty #[v, .slice ad 0 c]).run Try.prog w = .ok v w := by
  obtain ⟨i0, hi, hz0, hz1, hz2⟩ := info_parts infoI
  have hs : _root_.Go.Src Try.prog i0.size 23 (.slice ad 0 c) 0 [] w := by rw [hz1]; exact src_zeroI ad c
  rcases ownK_open h itC_len with ⟨rfl, rfl⟩ | ⟨g, cap, cs, rfl, hg, hb, hss, hcc, hm, _⟩
  · simp [Builtin.append_, run_underlying Try.underlying23, sizeOf, typeInfo, hi, hs.len, hs.cells]
  · have := run_append_room_src (P := Try.prog) w 23 23 ty 34 i0 Try.underlying23 hi g 0 l.length cap _ 0 [] hs (by omega) (by simp) (by simp)
    exact this
section
variable {ops : Array Oper} {rest : List Oper} {o : Oper} {a : Act} {Q : Exit → Act → World → Prop}
/-- 'append(v, v2...)'. -/
theorem appIs (w : World) (hgd : o.guard = none) (s x : Operand) (ho : o.op = .call { callee := .builtin .append, args := #[s, x], argTypes := #[23, 23] })
    (base : Nat) (v : Value) (l : List It) (hs : a.eval s = v) (hown : OwnI w base v l) (v2 : Value) (m : List It) (hx : a.eval x = v2) (hR : Is w v2 m) (hl : l.length + m.length ≤ 2000000) (hbase : base ≤ w.heap.size)
    (h : ∀ v' w', OwnI w' base v' (l ++ m) → w.grownBy w' v.ownBlock → wpList Try.prog ops Q rest (a.put o.dst v') w') :
    wpList Try.prog ops Q (o :: rest) a w := by
  obtain ⟨i0, hi, hz0, hz1, hz2⟩ := info_parts infoI
  obtain ⟨ad, cap, rfl, hsrc⟩ := is_src hR
  by_cases hm0 : m = []
  · subst hm0
    refine wpList_plain hgd fun K' hK' => ?_
    have hrun := app_zeroI hown ad cap o.type
    unfold Oper.wp
    simp [execOp, ho, resolve, invoke, builtin, hs, hx, hrun, Result.andThen]
    exact hK' _ _ (h v w (by simpa using hown) ⟨rfl, rfl, rfl, Nat.le_refl _, fun _ _ _ => rfl⟩)
  · obtain ⟨g, off, rfl, hnews⟩ := hsrc hm0
    have hpos : 0 < m.length := List.length_pos_iff.2 hm0
    refine wpList_append_lies w hgd s x 23 ho base 34 i0 _ 3 24 Try.underlying23 hi hz0 hz1 hz2 rfl (by decide) v l.length (l.flatMap itC) hs hown ⟨g, off, none⟩ m.length cap (m.flatMap itC) hx (flat_len itC_len m) hnews (onesIs m) hpos (by unfold maxLen; omega) (by omega) hbase w.heap.size rfl ?_
    intro g' cap' w' h1 h2 _ _
    refine h _ w' ?_ h2
    show w'.ownsRow _ _ _ _ _ _
    rw [List.flatMap_append, List.length_append]; exact h1
end
theorem appIs_len {s t : List It} : (s ++ t).length = s.length + t.length := List.length_append
theorem sok_take {l : List It} (h : sokB l = true) (k : Nat) : absum (l.take k) ≤ 1099511627776 * 400 := Int.le_trans (absum_take l k) (sok_abs h)
theorem keyN_yes {l : List It} {k : Nat} {K V D key : Int} (h : l[k]? = some ((K, V), D)) (e : K = key) : keyN (l.take (k + 1)) key = keyN (l.take k) key + D := by
  rw [take_snoc h, keyN_snoc]; simp [e]
theorem keyN_no {l : List It} {k : Nat} {K V D key : Int} (h : l[k]? = some ((K, V), D)) (e : K ≠ key) : keyN (l.take (k + 1)) key = keyN (l.take k) key := by
  rw [take_snoc h, keyN_snoc]; simp [e]
theorem mod100 (n : Int) : ((n.tmod 100) + 100) % 100 = n % 100 := by
  have h1 := Int.tmod_add_mul_tdiv n 100
  omega
theorem once_other {l : List It} {k : Nat} {K V D key : Int} (hr : l[k]? = some ((K, V), D)) (hK : K ≠ key) : ((onceT (l.take (k + 1))).filter fun r => decide (r.1.1 = key)) = ((onceT (l.take k)).filter fun r => decide (r.1.1 = key)) := by
  by_cases hD : 0 < D
  · rw [once_yes hr hD, List.filter_append]; simp [hK]
  · rw [once_no hr hD]
set_option maxHeartbeats 2000000 in
theorem valOf_any (n : Int) (w : World) : Calls Try.prog 117 #[.int .i64 n] w fun e w' => e = .returned (.int .i64 (n % 100)) ∧ Below w.heap.size w w' := by
  have t1 := Int.tmod_lt_of_pos n (b := 100) (by omega)
  have t2 : -100 < n.tmod 100 := by have := Int.lt_tmod_of_pos n (b := 100) (by omega); omega
  have H := (show Hid _ from mod100 n)
  go_enter Try.func117, Try.ntmps117
  go_wp2_with fail
  go_ret
  exact ⟨ret_int H.out, Below.refl _ _⟩
/-- What is made of the keys below k, one behind the other. -/
def accF (f : Int → List It) : Nat → List It
  | 0 => []
  | k + 1 => accF f k ++ f k
theorem accF_len {f : Int → List It} {c : Nat} (h : ∀ k, (f k).length ≤ c) (k : Nat) : (accF f k).length ≤ k * c := by
  induction k with
  | zero => simp [accF]
  | succ k ih => have := h k; simp only [accF, List.length_append, Nat.add_mul]; omega
theorem accF_four (f : Int → List It) : accF f 4 = f 0 ++ f 1 ++ f 2 ++ f 3 := by simp [accF]
end Go.Proofs.Ytlddhfimiignaaa
