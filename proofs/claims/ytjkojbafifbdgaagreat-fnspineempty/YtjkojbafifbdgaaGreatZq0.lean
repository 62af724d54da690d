/- What SpineJoin, SpineSince and SpineIn tell: plain facts; spines of a call's own. -/
import Derived.Test.YtjkojbafifbdgaaGreatZk2
namespace Go.Proofs.YtjkojbafifbdgaaGreat
open Go.RowKit Go.Shelf

def joinB (L : List (List Rw)) (F : List (Int × Int)) (i : Int) : Bool := spokB L F && decide (0 ≤ i ∧ i + 2 ≤ (L.length : Int)) && spokB (joinO L F i.toNat) F
def joinL (L : List (List Rw)) (F : List (Int × Int)) (i : Int) : List (List Rw) := if joinB L F i then joinO L F i.toNat else []
def joinF (L : List (List Rw)) (F : List (Int × Int)) (i : Int) : List (Int × Int) := if joinB L F i then F else []
theorem joinB_no1 {L : List (List Rw)} {F : List (Int × Int)} {i : Int} (h : spokB L F = false) : joinB L F i = false ∧ joinL L F i = [] ∧ joinF L F i = [] := by simp [joinL, joinF, joinB, h]
theorem joinB_no2 {L : List (List Rw)} {F : List (Int × Int)} {i : Int} (h : ¬ (0 ≤ i ∧ i + 2 ≤ (L.length : Int))) : joinB L F i = false ∧ joinL L F i = [] ∧ joinF L F i = [] := by
  have : decide (0 ≤ i ∧ i + 2 ≤ (L.length : Int)) = false := by simpa using h
  simp [joinL, joinF, joinB, this]
theorem joinB_yes {L : List (List Rw)} {F : List (Int × Int)} {i : Int} {k : Nat} (h1 : spokB L F = true) (hk : i = (k : Int)) (h2 : k + 2 ≤ L.length) : joinB L F i = spokB (joinO L F k) F ∧ joinL L F i = okL (joinO L F k) F ∧ joinF L F i = okF (joinO L F k) F := by
  subst hk
  have e : joinB L F (k : Int) = spokB (joinO L F k) F := by
    unfold joinB
    rw [h1, show decide (0 ≤ (k : Int) ∧ (k : Int) + 2 ≤ (L.length : Int)) = true from decide_eq_true ⟨by omega, by omega⟩]
    rfl
  exact ⟨e, by unfold joinL okL; rw [e]; rfl, by unfold joinF okF; rw [e]⟩
def sinceB (L : List (List Rw)) (F f : List (Int × Int)) : Bool := spokB L F && fokB f && decide (f.length ≠ 0) && askedT F f
def sinceL (L : List (List Rw)) (F f : List (Int × Int)) : List (List Rw) := if sinceB L F f then L else []
def sinceF (L : List (List Rw)) (F f : List (Int × Int)) : List (Int × Int) := if sinceB L F f then f else []
theorem sinceB_no {L : List (List Rw)} {F f : List (Int × Int)} (h : sinceB L F f = false) : sinceB L F f = false ∧ sinceL L F f = [] ∧ sinceF L F f = [] := by simp [sinceL, sinceF, h]
theorem sinceB_yes {L : List (List Rw)} {F f : List (Int × Int)} (h : sinceB L F f = true) : sinceB L F f = true ∧ sinceL L F f = L ∧ sinceF L F f = f := by simp [sinceL, sinceF, h]
theorem spok_since {L : List (List Rw)} {F f : List (Int × Int)} (h : spokB L F = true) (hf : fokB f = true) : spokB L f = true := by
  obtain ⟨h1, _, h3, h4⟩ := spok_iff.1 h
  exact spok_iff.2 ⟨h1, hf, h3, h4⟩
def inLL (L : List (List Rw)) (F : List (Int × Int)) (b : List Rw) : List (List Rw) := if inB1 L F b then inL L F b else []
def inF (L : List (List Rw)) (F : List (Int × Int)) (b : List Rw) : List (Int × Int) := if inB1 L F b then F else []
theorem in_no {L : List (List Rw)} {F : List (Int × Int)} {b : List Rw} (h : inB1 L F b = false) : inB1 L F b = false ∧ inLL L F b = [] ∧ inF L F b = [] := by simp [inLL, inF, h]
theorem in_no1 {L : List (List Rw)} {F : List (Int × Int)} {b : List Rw} (h : spokB L F = false) : inB1 L F b = false := by simp [inB1, h]
theorem in_no2 {L : List (List Rw)} {F : List (Int × Int)} {b : List Rw} (h : bokB b = false) : inB1 L F b = false := by simp [inB1, h]
theorem in_no3 {L : List (List Rw)} {F : List (Int × Int)} {b : List Rw} (h : asked F b = false) : inB1 L F b = false := by simp [inB1, h]
theorem in_mid {L : List (List Rw)} {F : List (Int × Int)} {b : List Rw} (h1 : spokB L F = true) (h2 : bokB b = true) (h3 : asked F b = true) : inB1 L F b = spokB (inL L F b) F ∧ inLL L F b = okL (inL L F b) F ∧ inF L F b = okF (inL L F b) F := by
  simp [inLL, inF, inB1, h1, h2, h3, okL, okF]
theorem spok_few {L : List (List Rw)} {F : List (Int × Int)} (h : spokB L F = true) : ∀ l ∈ L, l.length ≤ 1000 := fun l hl => by
  have := rok_len (bok_rok ((spok_iff.1 h).2.2.1 l hl)); omega
theorem fok_len {F : List (Int × Int)} (h : fokB F = true) : F.length ≤ 8 := by
  have h1 : ∀ (l : List (Int × Int)) (n : Int), l.Pairwise (fun p q => p.1 < q.1) → (∀ p ∈ l, n ≤ p.1 ∧ p.1 ≤ 7) → n ≤ 8 → (l.length : Int) ≤ 8 - n := by
    intro l
    induction l with
    | nil => intro n _ _ hn; simp; omega
    | cons p l ih =>
      intro n hp hb hn
      have hp' := List.pairwise_cons.1 hp
      have hb0 := hb p (by simp)
      have := ih (p.1 + 1) hp'.2 (fun q hq => ⟨by have := hp'.1 q hq; omega, (hb q (by simp [hq])).2⟩) (by omega)
      simp only [List.length_cons]; omega
  have h2 := h1 F 0 (fok_up h) (fun p hp => by
    obtain ⟨i, hi, e⟩ := List.getElem_of_mem hp
    have h3 := fok_ok h hi
    rw [okB_iff] at h3
    have e2 : tA F i = p.1 := by simp [tA, List.getElem?_eq_getElem hi, e]
    omega) (by omega)
  omega
theorem EachO.mono2 {w w1 : World} {B : Nat} {vs : List Value} {L : List (List Rw)} (h : EachO w B vs L) (hk : ∀ q, B ≤ q → w1.heap[q]? = w.heap[q]?) : EachO w1 B vs L :=
  ⟨h.len, fun i u l h1 h2 => ownK_at (h.own i u l h1 h2) fun q e => hk q (ownK_base (h.own i u l h1 h2) q e), h.few, h.nd⟩
theorem SpO.mono {w w1 : World} {B : Nat} {lv fv : Value} {L : List (List Rw)} {F : List (Int × Int)} (h : SpO w B lv fv L F) (hk : ∀ q, B ≤ q → w1.heap[q]? = w.heap[q]?) : SpO w1 B lv fv L F := by
  obtain ⟨vs, h1, h2, h3⟩ := h
  exact ⟨vs, ownK_at h1 fun q e => hk q (ownK_base h1 q e), h2.mono2 hk, ownK_at h3 fun q e => hk q (ownK_base h3 q e)⟩
theorem SpO.set2 {w : World} {B r : Nat} {lv fv u v : Value} {L : List (List Rw)} {F : List (Int × Int)} (h : SpO w B lv fv L F) (hr : r < B) : SpO ((w.setCell ⟨r, 0, none⟩ u).setCell ⟨r, 1, none⟩ v) B lv fv L F :=
  h.mono fun q hq => by rw [Below.heap_setCell _ _ _ _ (show q ≠ r by omega), Below.heap_setCell _ _ _ _ (show q ≠ r by omega)]
theorem SpO.open {w : World} {B : Nat} {lv fv : Value} {L : List (List Rw)} {F : List (Int × Int)} (h : SpO w B lv fv L F) : ∃ a c a' c', lv = .slice a L.length c ∧ fv = .slice a' F.length c' := by
  obtain ⟨vs, h1, h2, h3⟩ := h
  obtain ⟨a, c, e⟩ := ownV_slice h1
  obtain ⟨a', c', e'⟩ := own_slice2 h3
  exact ⟨a, c, a', c', by rw [e, h2.len], e'⟩
theorem nxt_drop (gs : List Nat) (n : Nat) : nxt (gs.drop n) 0 = nxt gs n := by simp [nxt]
theorem behind_c (n : Nat) (p : Value) (gs : List Nat) (vs : List Value) (b : Nat) (w : World) (h : LLs w b p gs vs) (hn : n < gs.length) (hm : gs.length ≤ 1000) :
    Calls Tryz.prog 37 #[p, .int .i64 n] w fun e w' => e = .returned (nxt gs n) ∧ w' = w := by
  refine (behind_any n p gs vs b w h hn hm).mono ?_
  rintro e w' ⟨p', b', rfl, hl, rfl⟩
  have := hl.look.1
  rw [nxt_drop] at this
  exact ⟨by rw [this], rfl⟩
end Go.Proofs.YtjkojbafifbdgaaGreat
