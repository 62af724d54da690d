/- The marking of a spine of a call's own, and whether it holds its marks: the contracts. -/
import Derived.Test.YtjkojbafifbdgaaGreatZe2
import Derived.Test.YtjkojbafifbdgaaGreatZq0
namespace Go.Proofs.YtjkojbafifbdgaaGreat
open Go.RowKit Go.Shelf

/-- One block alone was written, if there is one. -/
def K1 (o : Option Nat) (w w' : World) : Prop := Kg o.toList w w'
theorem K1.of_bx {g : Nat} {w w' : World} (h : Bx g w w') : K1 (some g) w w' := ⟨h.os, h.tape, h.output, h.size, fun k hk hn => h.block k hk (by simpa using hn)⟩
theorem markRO_x {B : Nat} {v : Value} {l : List Rw} {w : World} (h : OwnR w B v l) (hl : l.length ≤ 2097152) (a : Int) (h0 : 0 ≤ a) (h1 : a ≤ 1000000000) :
    Calls Tryz.prog 28 #[v, .int .i64 a] w fun e w' => e = .returned (.int .i64 (a + 5 * (l.length : Int))) ∧ OwnR w' B v (marksR a l.length) ∧ K1 v.ownBlock w w' := by
  rcases ownK_open h rowC_len with ⟨rfl, rfl⟩ | ⟨g, cap, c, rfl, hg, hb, hs, hc, hm, _⟩
  · refine (markRN_any a w).mono ?_
    rintro e w' ⟨rfl, rfl⟩
    exact ⟨by simp, h, Kg.refl _ _⟩
  · refine (markRB_any g l.length cap c a w hb hs hc hl h0 h1).mono ?_
    rintro e w' ⟨c', rfl, hb', hs', hf', hx⟩
    have := ownK_of_fill (B := B) hb' (l := marksR a l.length) (by rw [marksR_len]; exact hf') rowC_len hs' (by rw [marksR_len]; exact hc) hm hg
    simp only [marksR_len] at this
    exact ⟨rfl, by simpa only [marksR_len] using this, K1.of_bx hx⟩
theorem markO_x {B : Nat} {v : Value} {l : List (Int × Int)} {w : World} (h : Own w B v l) (hl : l.length ≤ 2097152) (a : Int) (h0 : 0 ≤ a) (h1 : a ≤ 1000000000) :
    Calls Tryz.prog 72 #[v, .int .i64 a] w fun e w' => e = .returned (.int .i64 (a + 2 * (l.length : Int))) ∧ Own w' B v (marksL a l.length) ∧ K1 v.ownBlock w w' := by
  rcases own_open h with ⟨rfl, rfl⟩ | ⟨g, cap, c, rfl, hg, hb, hs, hc, hm, _⟩
  · refine (markN_any a w).mono ?_
    rintro e w' ⟨rfl, rfl⟩
    exact ⟨by simp, h, Kg.refl _ _⟩
  · refine (markB_any g l.length cap c a w hb hs hc hl h0 h1).mono ?_
    rintro e w' ⟨c', rfl, hb', hs', hf', hx⟩
    have := own_of_fill (B := B) hb' (F := marksL a l.length) (by rw [marksL_len]; exact hf') hs' (by rw [marksL_len]; exact hc) hm hg
    rw [marksL_len] at this
    exact ⟨rfl, this, K1.of_bx hx⟩
theorem EachO.apart {w : World} {B : Nat} {vs : List Value} {L : List (List Rw)} (h : EachO w B vs L) {i k q : Nat} {u v : Value} (hu : vs[i]? = some u) (hv : vs[k]? = some v) (hne : i ≠ k) (h1 : u.ownBlock = some q) (h2 : v.ownBlock = some q) : False := by
  have hp := List.pairwise_filterMap.1 h.nd
  obtain ⟨hi, e1⟩ := List.getElem?_eq_some_iff.1 hu
  obtain ⟨hk, e2⟩ := List.getElem?_eq_some_iff.1 hv
  rw [List.pairwise_iff_getElem] at hp
  rcases Nat.lt_or_gt_of_ne hne with hlt | hlt
  · exact hp i k hi hk hlt q (by rw [e1]; exact h1) q (by rw [e2]; exact h2) rfl
  · exact hp k i hk hi hlt q (by rw [e2]; exact h2) q (by rw [e1]; exact h1) rfl
theorem EachO.upd {w w1 : World} {B : Nat} {vs : List Value} {L : List (List Rw)} (h : EachO w B vs L) {k : Nat} {v : Value} {m : List Rw} (hv : vs[k]? = some v) (ho : OwnR w1 B v m) (hm : m.length ≤ 1000) (hk : K1 v.ownBlock w w1) : EachO w1 B vs (L.set k m) := by
  refine ⟨by rw [h.len, List.length_set], fun i u l h1 h2 => ?_, fun l hl => ?_, h.nd⟩
  · by_cases e : i = k
    · subst e
      have hlt : i < L.length := by rw [← h.len]; exact (List.getElem?_eq_some_iff.1 hv).1
      rw [List.getElem?_set_self hlt] at h2
      rw [hv] at h1
      cases h1; cases h2
      exact ho
    · rw [List.getElem?_set_ne (fun e2 => e e2.symm)] at h2
      have hu := h.own i u l h1 h2
      refine ownK_at hu fun q eq => hk.block q (ownK_lt hu q eq) fun hq => ?_
      exact h.apart h1 hv e eq (by simpa using hq)
  · rcases List.mem_or_eq_of_mem_set hl with hl | rfl
    · exact h.few l hl
    · exact hm
theorem gl_set_ne {L : List (List Rw)} {i k : Nat} {m : List Rw} (h : i ≠ k) : gl (L.set k m) i = gl L i := by
  unfold gl; rw [List.getD_eq_getElem?_getD, List.getD_eq_getElem?_getD, List.getElem?_set_ne (fun e => h e.symm)]
theorem gl_set_at {L : List (List Rw)} {k : Nat} {m : List Rw} (h : k < L.length) : gl (L.set k m) k = m := by
  unfold gl; rw [List.getD_eq_getElem?_getD, List.getElem?_set_self h]; rfl
def preN (L : List (List Rw)) (i : Nat) : Nat := (L.take i).flatten.length
/-- The layers L' are marked as L is long, from a on; of the first k alone. -/
structure Mkd (a : Int) (L L' : List (List Rw)) (k : Nat) : Prop where
  len : L'.length = L.length
  done : ∀ i, i < k → gl L' i = marksR (a + 5 * (preN L i : Int)) (gl L i).length
  rest : ∀ i, k ≤ i → gl L' i = gl L i
theorem Mkd.same {a : Int} {L L' : List (List Rw)} {k i : Nat} (h : Mkd a L L' k) : (gl L' i).length = (gl L i).length := by
  by_cases hi : i < k
  · rw [h.done i hi, marksR_len]
  · rw [h.rest i (by omega)]
theorem Mkd.step {a : Int} {L L' : List (List Rw)} {k : Nat} (h : Mkd a L L' k) (hk : k < L.length) : Mkd a L (L'.set k (marksR (a + 5 * (preN L k : Int)) (gl L k).length)) (k + 1) := by
  refine ⟨by rw [List.length_set, h.len], fun i hi => ?_, fun i hi => by rw [gl_set_ne (by omega)]; exact h.rest i (by omega)⟩
  by_cases e : i = k
  · subst e; rw [gl_set_at (by rw [h.len]; exact hk)]
  · rw [gl_set_ne e]; exact h.done i (by omega)
theorem Mkd.flat {a : Int} {L L' : List (List Rw)} {k : Nat} (h : Mkd a L L' k) : ∀ j, j ≤ L.length → (L'.take j).flatten.length = (L.take j).flatten.length := fun j => by
  induction j with
  | zero => intro _; simp
  | succ j ih =>
    intro hj
    rw [flat_take (by rw [h.len]; omega), flat_take (by omega), ih (by omega), h.same]
theorem Mkd.flat_all {a : Int} {L L' : List (List Rw)} {k : Nat} (h : Mkd a L L' k) : L'.flatten.length = L.flatten.length := by
  have h1 := h.flat L.length (Nat.le_refl _)
  rw [List.take_length, ← h.len, List.take_length] at h1
  exact h1
theorem row_not_own_time {w : World} {q : Nat} {c d : Array Value} (h : Bk w q c 74) (k : Bk w q d 71) : False := by
  unfold Bk at h k
  rw [h] at k
  cases k
theorem own_time_block {w : World} {B : Nat} {v : Value} {l : List (Int × Int)} (h : Own w B v l) {q : Nat} (e : v.ownBlock = some q) : ∃ c : Array Value, Bk w q c 71 := by
  rcases own_open h with ⟨rfl, _⟩ | ⟨g, cap, c, rfl, _, hb, _⟩
  · simp [Value.ownBlock] at e
  · simp [Value.ownBlock] at e; subst e; exact ⟨c, hb⟩
theorem own_rows_block {w : World} {B : Nat} {v : Value} {l : List Value} (h : OwnV w B v l) {q : Nat} (e : v.ownBlock = some q) : ∃ c : Array Value, Bk w q c 33 := by
  rcases ownK_open h valC_len with ⟨rfl, _⟩ | ⟨g, cap, c, rfl, _, hb, _⟩
  · simp [Value.ownBlock] at e
  · simp [Value.ownBlock] at e; subst e; exact ⟨c, hb⟩
theorem own_row_block {w : World} {B : Nat} {v : Value} {l : List Rw} (h : OwnR w B v l) {q : Nat} (e : v.ownBlock = some q) : ∃ c : Array Value, Bk w q c 74 := by
  rcases ownK_open h rowC_len with ⟨rfl, _⟩ | ⟨g, cap, c, rfl, _, hb, _⟩
  · simp [Value.ownBlock] at e
  · simp [Value.ownBlock] at e; subst e; exact ⟨c, hb⟩
theorem rows_not_time {w : World} {q : Nat} {c d : Array Value} (h : Bk w q c 33) (k : Bk w q d 71) : False := by
  unfold Bk at h k
  rw [h] at k
  cases k
theorem K1.below {o : Option Nat} {B : Nat} {w a b : World} (h : K1 o a b) (hw : Below B w a) (hB : B ≤ a.heap.size) (hg : ∀ q, o = some q → B ≤ q) : Below B w b := Kg.below h hw hB (fun g hg' => hg g (by simpa using hg'))
set_option maxRecDepth 100000 in
set_option maxHeartbeats 8000000 in
theorem markSS_own (lv : Value) (vs : List Value) (L : List (List Rw)) (a : Int) (B : Nat) (w : World) (ho : OwnV w B lv vs) (he : EachO w B vs L) (hB : B ≤ w.heap.size) (hn : L.length ≤ 1000) (hf : L.flatten.length ≤ 1000000) (h0 : 0 ≤ a) (h1 : a ≤ 1000) :
    Calls Tryz.prog 71 #[lv, .int .i64 a] w fun e w' => e = .returned (.int .i64 (a + 5 * (L.flatten.length : Int))) ∧ (∃ L', Mkd a L L' L.length ∧ EachO w' B vs L') ∧ OwnV w' B lv vs ∧ (∀ q c t, t ≠ 74 → Bk w q c t → w'.heap[q]? = w.heap[q]?) ∧ Below B w w' := by
  have hvl := he.len
  obtain ⟨ax, cx, rfl⟩ := ownV_slice ho
  rw [hvl] at ho ⊢
  have HO := (show Hid (OwnV w B (.slice ax L.length cx) vs) from ho)
  have HE := (show Hid (EachO w B vs L) from he)
  have HVL := (show Hid (vs.length = L.length) from hvl)
  clear ho he hvl
  go_enter Tryz.func71, Tryz.ntmps71
  go_wp2_with fail
  go_loopw [1, 5] (fun q i wr => ∃ (k : Nat) (L' : List (List Rw)), k ≤ L.length ∧ i = .int .i64 k ∧ q = .int .i64 (a + 5 * (preN L k : Int)) ∧ Mkd a L L' k ∧ EachO wr B vs L' ∧ OwnV wr B (.slice ax L.length cx) vs ∧ (∀ q c t, t ≠ 74 → Bk w q c t → wr.heap[q]? = w.heap[q]?) ∧ w.heap.size ≤ wr.heap.size ∧ Below B w wr) (fun _ i _ => L.length - (intOf i).toNat)
  case atStart => exact ⟨0, L, by omega, rfl, by simp [preN], ⟨rfl, fun i hi => by omega, fun i _ => rfl⟩, HE.out, HO.out, fun q c t _ _ => rfl, Nat.le_refl _, Below.refl _ _⟩
  case round =>
    clear HE HO
    obtain ⟨k, L', hk, rfl, rfl, hmk, hea, hov, htm, hsz, hb⟩ := hrel
    have HM := (show Hid (Mkd a L L' k) from hmk)
    have HEA := (show Hid (EachO wr B vs L') from hea)
    have HOV := (show Hid (OwnV wr B (.slice ax L.length cx) vs) from hov)
    have HTM := (show Hid (∀ q c t, t ≠ 74 → Bk w q c t → wr.heap[q]? = w.heap[q]?) from htm)
    by_cases hlt : k < L.length
    · have hv : vs[k]? = some (vs[k]'(by have := HVL.out; omega)) := List.getElem?_eq_getElem _
      have hown := hea.own k _ (gl L' k) hv (gl_at (by rw [hmk.len]; exact hlt))
      have hlen : (gl L' k).length = (gl L k).length := hmk.same
      have hfew := hea.few _ (gl_mem (L := L') (i := k) (by rw [hmk.len]; exact hlt))
      obtain ⟨ad, cp, ev, -⟩ := Rs.open (OwnR.rs hown (by omega))
      rw [hlen] at ev
      rw [ev] at hv hown
      have HV := (show Hid (vs[k]? = some (.slice ad (gl L k).length cp)) from hv)
      have HW := (show Hid (OwnR wr B (.slice ad (gl L k).length cp) (gl L' k)) from hown)
      obtain ⟨gq, d0⟩ : ∃ gq, ax = some ⟨gq, 0, none⟩ ∧ wr.cell? ⟨gq, k, none⟩ = some (.slice ad (gl L k).length cp) := by
        rcases ownK_open hov valC_len with ⟨_, e⟩ | ⟨g, cap, c, e, _, hbk, _, _, _, hfill⟩
        · have := HVL.out; rw [e] at this; simp at this; omega
        · rw [HVL.out] at e
          cases e
          refine ⟨g, rfl, ?_⟩
          have := hfill k _ (by have := HVL.out; omega) hv 0 (by omega)
          rw [Nat.mul_one, Nat.add_zero] at this
          exact hbk.cell (by simpa using this)
      obtain ⟨rfl, d0⟩ := d0
      have ik : (k : Int) < (L.length : Int) := by omega
      have hpre : preN L (k + 1) = preN L k + (gl L k).length := flat_take hlt
      have HP := (show Hid _ from hpre)
      have hpl : preN L (k + 1) ≤ L.flatten.length := flat_len_le L (k + 1)
      rw [hpre] at hpl
      rw [hlen] at hfew
      have HMS := (show Hid _ from hmk.step hlt)
      clear hmk hea hov htm hv hown ev hlen hpre
      generalize hN : preN L k = N at *
      generalize hQ : (gl L k).length = Q at *
      generalize hA : a + 5 * (N : Int) = A at *
      go_wp2_with fail
      refine (markRO_x HW.out (by rw [HM.out.same, hQ]; omega) A (by omega) (by omega)).mono ?_
      rw [HM.out.same, hQ]
      rintro e w1 ⟨rfl, own1, hk1⟩
      have HN : Hid (EachO w1 B vs (L'.set k (marksR A Q)) ∧ OwnV w1 B (.slice (some ⟨gq, 0, none⟩) L.length cx) vs ∧ (∀ q c t, t ≠ 74 → Bk w q c t → w1.heap[q]? = w.heap[q]?) ∧ w.heap.size ≤ w1.heap.size ∧ Below B w w1) := by
        refine ⟨HEA.out.upd HV.out own1 (by rw [marksR_len]; omega) hk1, ownK_at HOV.out fun q e => hk1.block q (ownK_lt HOV.out q e) fun hq => ?_, fun q c t ht hq => ?_, Nat.le_trans hsz hk1.size, hk1.below hb (by omega) (fun q e => ownK_base HW.out q e)⟩
        · obtain ⟨c1, b1⟩ := own_rows_block HOV.out e
          obtain ⟨c2, b2⟩ := own_row_block HW.out (show _ = some q by simpa using hq)
          exact row_not_rows b2 b1
        · have e1 := HTM.out q c t ht hq
          rw [← e1]
          refine hk1.block q (by have := hq.lt; omega) fun hq2 => ?_
          obtain ⟨c2, b2⟩ := own_row_block HW.out (show _ = some q by simpa using hq2)
          unfold Bk at b2 hq
          rw [e1, hq] at b2
          cases b2
          exact ht rfl
      clear own1 hk1 HW HEA HOV HTM hb
      go_wp2_with fail
      go_roundw
      case rel => exact ⟨k + 1, _, by omega, by go_num, by congr 1; have := HP.out; omega, HMS.out, HN.out.1, HN.out.2.1, HN.out.2.2.1, HN.out.2.2.2.1, HN.out.2.2.2.2⟩
      case measure => simp [intOf]; omega
    · obtain rfl : k = L.length := by omega
      have HPN : Hid (preN L L.length = L.flatten.length) := by show _ = _; unfold preN; rw [List.take_length]
      clear hmk hea hov htm
      rw [HPN.out]
      go_wp2_with fail
      go_ret
      exact ⟨rfl, ⟨L', HM.out, HEA.out⟩, HOV.out, HTM.out, hb⟩
set_option maxRecDepth 100000 in
set_option maxHeartbeats 8000000 in
theorem heldSS_any (lv : Value) (L L' : List (List Rw)) (a : Int) (w : World) (h : Ly w lv L') (hm : Mkd a L L' L.length) (hn : L.length ≤ 1000) (hf : L.flatten.length ≤ 1000000) (h0 : 0 ≤ a) (h1 : a ≤ 1000) :
    Calls Tryz.prog 73 #[lv, .int .i64 a] w fun e w' => e = .returned (.int .i64 (a + 5 * (L.flatten.length : Int))) ∧ Below w.heap.size w w' := by
  obtain ⟨aL, cL, rfl, hc, hmx, hn2, hcells⟩ := Ly.open h
  unfold maxLen at hmx
  rw [hm.len] at hc hn2 hcells ⊢
  have HC := (show Hid _ from hcells)
  have HM := (show Hid (Mkd a L L' L.length) from hm)
  clear h hcells hm
  go_enter Tryz.func73, Tryz.ntmps73
  go_wp2_with fail
  go_loopw [1, 5] (fun q i wr => ∃ k : Nat, k ≤ L.length ∧ i = .int .i64 k ∧ q = .int .i64 (a + 5 * (preN L k : Int)) ∧ Below w.heap.size w wr) (fun _ i _ => L.length - (intOf i).toNat)
  case atStart => exact ⟨0, by omega, rfl, by simp [preN], Below.refl _ _⟩
  case round =>
    obtain ⟨k, hk, rfl, rfl, hb⟩ := hrel
    by_cases hlt : k < L.length
    · obtain ⟨g, off, ad, cp, rfl, hg, c0, hR⟩ := HC.out k hlt
      rw [HM.out.done k hlt] at c0 hR
      rw [marksR_len] at c0 hR
      have q0 := cell_below hb c0
      have R1 := hR.keep hb
      have ik : (k : Int) < (L.length : Int) := by omega
      have hpre : preN L (k + 1) = preN L k + (gl L k).length := flat_take hlt
      have HP := (show Hid _ from hpre)
      have hpl : preN L (k + 1) ≤ L.flatten.length := flat_len_le L (k + 1)
      rw [hpre] at hpl
      clear c0 hR hpre
      generalize hN : preN L k = N at *
      generalize hQ : (gl L k).length = Q at *
      generalize hA : a + 5 * (N : Int) = A at *
      have hA0 : ¬ (A + 5 * (Q : Int) < 0) := by omega
      go_wp2_with fail
      refine (heldR_any _ Q A _ R1 (by omega) (by omega)).mono ?_
      rintro e w1 ⟨rfl, hb1⟩
      have hb2 := bStep hb hb1
      go_wp2_with fail
      go_roundw
      case rel => exact ⟨k + 1, by omega, by go_num, by congr 1; have := HP.out; omega, hb2⟩
      case measure => simp [intOf]; omega
    · obtain rfl : k = L.length := by omega
      have HPN : Hid (preN L L.length = L.flatten.length) := by show _ = _; unfold preN; rw [List.take_length]
      rw [HPN.out]
      go_wp2_with fail
      go_ret
      exact ⟨rfl, hb⟩
set_option maxRecDepth 100000 in
set_option maxHeartbeats 8000000 in
theorem markSpO_any (lv fv : Value) (L : List (List Rw)) (F : List (Int × Int)) (B : Nat) (w : World) (h : SpO w B lv fv L F) (hB : B ≤ w.heap.size) (hn : L.length ≤ 1000) (hf : L.flatten.length ≤ 1000000) (hF : F.length ≤ 1000000) :
    Calls Tryz.prog 27 #[spv lv fv, .int .i64 1] w fun e w' => e = .returned (.int .i64 (1 + 5 * (L.flatten.length : Int) + 2 * (F.length : Int))) ∧ (∃ L', Mkd 1 L L' L.length ∧ SpO w' B lv fv L' (marksL (1 + 5 * (L.flatten.length : Int)) F.length)) ∧ (∀ q c, Bk w q c 26 → w'.heap[q]? = w.heap[q]?) ∧ Below B w w' := by
  obtain ⟨aL, cL, aF, cF, rfl, rfl⟩ := h.open
  obtain ⟨vs, ov, eo, oF⟩ := h
  have hb0 : Below w.heap.size w (w.alloc (.cells #[.slice aL L.length cL, .slice aF F.length cF] 26)) := bAlloc (Below.refl _ _) _
  have bt0 : Bk (w.alloc (.cells #[.slice aL L.length cL, .slice aF F.length cF] 26)) w.heap.size #[.slice aL L.length cL, .slice aF F.length cF] 26 := Bk.new _ _ rfl
  obtain ⟨s0, s1, _, _⟩ := bt0.two
  have ov0 := own_keep ov hb0
  have eo0 := eo.keep hb0
  have oF0 := own_keep oF hb0
  have hB0 : Below B w (w.alloc (.cells #[.slice aL L.length cL, .slice aF F.length cF] 26)) := hb0.mono hB
  have HSW : Hid (∀ q c, Bk w q c 26 → (w.alloc (.cells #[.slice aL L.length cL, .slice aF F.length cF] 26)).heap[q]? = w.heap[q]?) := fun q c hq => hb0.block q hq.lt
  have hsz0 := hb0.size
  clear ov eo oF hb0
  go_enter Tryz.func27, Tryz.ntmps27
  go_wp2_with fail
  generalize (w.alloc (.cells #[.slice aL L.length cL, .slice aF F.length cF] 26)) = w0 at *
  refine (markSS_own _ vs L 1 B w0 ov0 eo0 (by omega) hn hf (by omega) (by omega)).mono ?_
  rintro e w1 ⟨rfl, ⟨L', hmk, hea⟩, hov, htm, hb1⟩
  have bt1 : Bk w1 w.heap.size #[.slice aL L.length cL, .slice aF F.length cF] 26 := by unfold Bk; rw [htm _ _ _ (by decide) bt0]; exact bt0
  have oF1 : Own w1 B (.slice aF F.length cF) F := ownK_at oF0 fun q e => by
    obtain ⟨c, hc⟩ := own_time_block oF0 e
    exact htm q c _ (by decide) hc
  have HS1 : Hid (∀ q c, Bk w q c 26 → w1.heap[q]? = w.heap[q]?) := fun q c hq => by
    have e1 := HSW.out q c hq
    rw [← e1]
    exact htm q c 26 (by decide) (by unfold Bk; rw [e1]; exact hq)
  have HM := (show Hid (Mkd 1 L L' L.length) from hmk)
  have HEA := (show Hid (EachO w1 B vs L') from hea)
  have HOV := (show Hid (OwnV w1 B (.slice aL L.length cL) vs) from hov)
  have HOF := (show Hid (Own w1 B (.slice aF F.length cF) F) from oF1)
  have HBW : Hid (Below B w w1) := hB0.trans hb1
  have HZ1 : Hid (B ≤ w1.heap.size) := by show _ ≤ _; have := hb1.size; omega
  obtain ⟨r0, r1, _, _⟩ := bt1.two
  clear s0 s1 bt0 ov0 eo0 oF0 hmk hea hov htm hb1 bt1 hB0 hsz0
  generalize hA : (1 : Int) + 5 * (L.flatten.length : Int) = A at *
  go_wp2_with fail
  refine (markO_x HOF.out (by omega) A (by omega) (by omega)).mono ?_
  rintro e w2 ⟨rfl, own2, hk2⟩
  have HF : Hid (SpO w2 B (.slice aL L.length cL) (.slice aF F.length cF) L' (marksL A F.length) ∧ (∀ q c, Bk w q c 26 → w2.heap[q]? = w.heap[q]?) ∧ Below B w w2) := by
    refine ⟨⟨vs, ownK_at HOV.out fun q e => hk2.block q (ownK_lt HOV.out q e) fun hq => ?_, HEA.out.mono fun q c hc => hk2.block q hc.lt fun hq => ?_, own2⟩, fun q c hc => ?_, hk2.below HBW.out HZ1.out (fun q e => ownK_base HOF.out q e)⟩
    · obtain ⟨c1, b1⟩ := own_rows_block HOV.out e
      obtain ⟨c2, b2⟩ := own_time_block HOF.out (show _ = some q by simpa using hq)
      exact rows_not_time b1 b2
    · obtain ⟨c2, b2⟩ := own_time_block HOF.out (show _ = some q by simpa using hq)
      exact row_not_own_time hc b2
    · have e1 := HS1.out q c hc
      rw [← e1]
      have hlt : q < w1.heap.size := Bk.lt (c := c) (t := 26) (by unfold Bk; rw [e1]; exact hc)
      refine hk2.block q hlt fun hq => ?_
      obtain ⟨c2, b2⟩ := own_time_block HOF.out (show _ = some q by simpa using hq)
      unfold Bk at b2 hc
      rw [e1, hc] at b2
      cases b2
  clear own2 hk2 HEA HOV HOF HBW
  go_wp2_with fail
  go_ret
  exact ⟨by rw [← hA]; rfl, ⟨L', HM.out, by rw [hA]; exact HF.out.1⟩, HF.out.2.1, HF.out.2.2⟩
set_option maxRecDepth 100000 in
set_option maxHeartbeats 8000000 in
theorem heldSpO_any (lv fv : Value) (L L' : List (List Rw)) (F F' : List (Int × Int)) (w : World) (h : Spn w lv fv L' F') (hm : Mkd 1 L L' L.length) (hF' : F' = marksL (1 + 5 * (L.flatten.length : Int)) F.length) (hn : L.length ≤ 1000) (hf : L.flatten.length ≤ 1000000) (hF : F.length ≤ 1000000) :
    Calls Tryz.prog 29 #[spv lv fv, .int .i64 1] w fun e w' => e = .returned (.int .i64 (1 + 5 * (L.flatten.length : Int) + 2 * (F.length : Int))) ∧ Below w.heap.size w w' := by
  subst hF'
  have HS := (show Hid (Spn w lv fv L' (marksL (1 + 5 * (L.flatten.length : Int)) F.length)) from h)
  obtain ⟨aL, cL, aF, cF, rfl, rfl⟩ := Spn.open h
  rw [hm.len, marksL_len] at HS ⊢
  have hb0 : Below w.heap.size w (w.alloc (.cells #[.slice aL L.length cL, .slice aF F.length cF] 26)) := bAlloc (Below.refl _ _) _
  have bt0 : Bk (w.alloc (.cells #[.slice aL L.length cL, .slice aF F.length cF] 26)) w.heap.size #[.slice aL L.length cL, .slice aF F.length cF] 26 := Bk.new _ _ rfl
  obtain ⟨s0, s1, _, _⟩ := bt0.two
  have HM := (show Hid (Mkd 1 L L' L.length) from hm)
  have S0 := HS.out.keep hb0
  clear h hm
  have hA0 : ¬ ((1 : Int) + 5 * (L.flatten.length : Int) < 0) := by omega
  go_enter Tryz.func29, Tryz.ntmps29
  go_wp2_with fail
  refine (heldSS_any _ L L' 1 _ S0.1 HM.out hn hf (by omega) (by omega)).mono ?_
  rintro e w1 ⟨rfl, hb1⟩
  have hbw1 := bStep hb0 hb1
  obtain ⟨r0, r1, _, _⟩ := (bt0.keep hb1).two
  have T1 := (HS.out.keep hbw1).2
  clear s0 s1 bt0 hb1 hb0 S0
  generalize hA : (1 : Int) + 5 * (L.flatten.length : Int) = A at *
  have hA1 : ¬ (A + 2 * (F.length : Int) < 0) := by omega
  go_wp2_with fail
  refine (held_any _ F.length A _ T1 (by omega) (by omega)).mono ?_
  rintro e w2 ⟨rfl, hb2⟩
  have hbw2 := bStep hbw1 hb2
  go_wp2_with fail
  go_ret
  exact ⟨by rw [← hA]; rfl, hbw2⟩
end Go.Proofs.YtjkojbafifbdgaaGreat
