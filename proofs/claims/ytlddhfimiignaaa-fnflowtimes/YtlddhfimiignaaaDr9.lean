/- Drawing of rows and a key for FlowTimes: the contract. -/
import Derived.Test.YtlddhfimiignaaaGd6
namespace Go.Proofs.Ytlddhfimiignaaa
open Go.RowKit

theorem FillK.key {c : Array Value} {L : List Rw} {n i : Nat} {K V D : Int} {T : Int × Int} (h : FillK rowC 5 c L n) (hi : L[i]? = some (((K, V), T), D)) (hin : i < n) (hs : i * 5 < c.size) (K' : Int) :
    FillK rowC 5 (c.setIfInBounds (i * 5) (.int .i64 K')) (L.set i (((K', V), T), D)) n := by
  intro j x hj hx q hq
  have hil := (List.getElem?_eq_some_iff.1 hi).1
  rw [List.getElem?_set] at hx
  rw [Array.getElem?_setIfInBounds]
  by_cases e : i = j
  · subst e
    rw [if_pos rfl, if_pos hil] at hx
    cases hx
    obtain rfl | hq4 : q = 0 ∨ 0 < q := by omega
    · rw [if_pos (by omega), if_pos (by omega)]; rfl
    · rw [if_neg (by omega), h i _ hin hi q hq]
      match q, hq4, hq with
      | 1, _, _ => rfl
      | 2, _, _ => rfl
      | 3, _, _ => rfl
      | 4, _, _ => rfl
  · rw [if_neg e] at hx
    rw [if_neg (by omega), h j x hj hx q hq]
theorem row_key {w : World} {B : Nat} {v : Value} {L : List Rw} (h : OwnR w B v L) {i : Nat} (hi : i < L.length) (K' : Int) :
    ∃ g cap u, v = .slice (some ⟨g, 0, none⟩) L.length cap ∧ B ≤ g ∧ g < w.heap.size ∧ w.frozen? ⟨g, i * 5, none⟩ = false ∧ w.cell? ⟨g, i * 5, none⟩ = some u ∧ ∃ L' : List Rw, L'.length = L.length ∧ OwnR (w.setCell ⟨g, i * 5, none⟩ (.int .i64 K')) B v L' := by
  rcases ownK_open h rowC_len with ⟨rfl, rfl⟩ | ⟨g, cap, c, rfl, hg, hb, hs, hc, hm, hf⟩
  · simp at hi
  · obtain ⟨⟨⟨⟨K, V⟩, T⟩, D⟩, hr⟩ : ∃ r, L[i]? = some r := ⟨_, List.getElem?_eq_getElem hi⟩
    have hsz : i * 5 < c.size := by rw [hs]; omega
    refine ⟨g, cap, _, rfl, hg, hb.lt, hb.free _, hb.cell (Array.getElem?_eq_getElem hsz), L.set i (((K', V), T), D), by simp, ?_⟩
    have := ownK_of_fill (B := B) (hb.set (i * 5) (.int .i64 K')) (l := L.set i (((K', V), T), D)) (by rw [List.length_set]; exact hf.key hr hi hsz K') rowC_len (by simpa using hs) (by simpa using hc) hm hg
    simpa using this
set_option maxRecDepth 100000 in
set_option maxHeartbeats 8000000 in
theorem drawFlowTimes_any (a : Option Addr) (len cap : Nat) (w : World) (h : Src w (.slice a len cap) len) :
    Calls Try.prog 34 #[.slice a len cap] w fun e w' => ∃ (o : Value) (l : List Rw) (key : Int), e = .returned (.tuple #[o, .int .i64 key]) ∧ l.length ≤ 11 ∧ Rs w' o l ∧ Below w.heap.size w w' := by
  go_enter Try.func34, Try.ntmps34
  go_wp2_with fail
  refine (l6Open_any _ _ _ _ h).mono ?_
  rintro e w1 ⟨rfl, ⟨v, n, hr1⟩, hb1⟩
  clear h
  have hs1 := hb1.size
  have hg := hr1.blk.lt
  go_wp2_with fail
  refine (l71Any_any hr1 (by omega) (by omega)).mono ?_
  rintro e w2 ⟨o, l, rfl, hd, hown, ⟨p1, hp1, hp2, hr2⟩, hx2⟩
  have hl := hd.1
  have hb2 := hx2.below hb1 hs1 (Nat.le_refl _)
  have HO : Hid (OwnR w2 w1.heap.size o l) := hown
  have HR : Hid (Rd w.heap.size w2 w.heap.size v n p1) := hr2
  obtain ⟨ado, capo, rfl⟩ : ∃ ad cp, o = .slice ad l.length cp := by
    rcases ownK_open hown rowC_len with ⟨rfl, rfl⟩ | ⟨g, cp, c, rfl, _⟩
    · exact ⟨_, _, rfl⟩
    · exact ⟨_, _, rfl⟩
  have hs2 := hx2.size
  clear hown hr2 hr1 hx2 hb1 hd
  go_wp2_with fail
  go_loopw [6] (fun b wr => ∃ (k : Nat) (L : List Rw) (p : Int), k ≤ l.length ∧ b = .int .i64 k ∧ 0 ≤ p ∧ p ≤ p1 + k ∧ L.length = l.length ∧ OwnR wr w1.heap.size (.slice ado l.length capo) L ∧ Rd w.heap.size wr w.heap.size v n p ∧ Below w.heap.size w wr ∧ w1.heap.size ≤ wr.heap.size) (fun b _ => l.length - (intOf b).toNat)
  case atStart => exact ⟨0, l, p1, by omega, rfl, by omega, by omega, rfl, HO.out, HR.out, hb2, hs2⟩
  case round =>
    clear HO HR hb2 hs2
    obtain ⟨k, L, p, hk, rfl, hp0, hpk, hL, hown, hrd, hb, hsw⟩ := hrel
    have HO : Hid (OwnR wr w1.heap.size (.slice ado l.length capo) L) := hown
    have HRD : Hid (Rd w.heap.size wr w.heap.size v n p) := hrd
    have hszw := hb.size
    clear hown hrd
    by_cases hlt : k < l.length
    case' pos =>
      have ii : ((k : Int) < (l.length : Int)) := by omega
      go_wp2_with fail
      refine (pick_any HRD.out (by omega) (by omega) _ (by omega) (by omega)).mono ?_
      rintro e w3 ⟨z, rfl, hz0, hz1, hr3, hx3⟩
      have HO3 : Hid (OwnR w3 w1.heap.size (.slice ado l.length capo) L) := own_keepx HO.out hx3 hg
      have hb3 := hx3.below hb hszw (Nat.le_refl _)
      have hs3 := hx3.size
      have HR3 : Hid (Rd w.heap.size w3 w.heap.size v n (p + 1)) := hr3
      clear hr3 HO HRD hx3 hb
      by_cases hz : z = 0
    · subst hz
      obtain ⟨g4, cap4, u4, e4, hg4, hlt4, f4, c4, L', hL', own4⟩ := row_key HO3.out (i := k) (by omega) 1
      rw [hL] at e4
      cases e4
      have HO4 : Hid (OwnR (w3.setCell ⟨g4, k * 5, none⟩ (.int .i64 1)) w1.heap.size (.slice (some ⟨g4, 0, none⟩) l.length capo) L') := own4
      have HR4 : Hid (Rd w.heap.size (w3.setCell ⟨g4, k * 5, none⟩ (.int .i64 1)) w.heap.size v n (p + 1)) := HR3.out.apart (q := ⟨g4, k * 5, none⟩) (show w.heap.size ≠ g4 by omega) (show w.heap.size ≤ g4 by omega) _
      have hb4 : Below w.heap.size w (w3.setCell ⟨g4, k * 5, none⟩ (.int .i64 1)) := hb3.setCell (show w.heap.size ≤ g4 by omega) _
      clear own4 HO3 HR3
      go_wp2_with fail
      go_roundw
      case rel => exact ⟨k + 1, L', p + 1, by omega, by go_num, by omega, by omega, by omega, HO4.out, HR4.out, hb4, by simp; omega⟩
      case measure => simp [intOf]; omega
    all_goals
      first
        | (have nz : (z == 0) = false := beq_eq_false_iff_ne.2 hz
           have HG : Hid (OwnR w3 w1.heap.size (.slice ado l.length capo) L) := HO3.out
           have HR5 : Hid (Rd w.heap.size w3 w.heap.size v n (p + 1)) := HR3.out
           have HB5 : Hid (Below w.heap.size w w3) := hb3
           have hq0 : 0 ≤ p + 1 := by omega
           have hq1 : p + 1 ≤ 1000000 := by omega)
        | (obtain rfl : k = l.length := by omega
           have HG : Hid (OwnR wr w1.heap.size (.slice ado l.length capo) L) := HO.out
           have HR5 : Hid (Rd w.heap.size wr w.heap.size v n p) := HRD.out
           have HB5 : Hid (Below w.heap.size w wr) := hb
           have hq0 : 0 ≤ p := by omega
           have hq1 : p ≤ 1000000 := by omega)
      go_wp2_with fail
      refine (pick_any HR5.out hq0 hq1 _ (by omega) (by omega)).mono ?_
      rintro e w7 ⟨y, rfl, hy0, hy1, hr7, hx7⟩
      have i7 : IntKind.i64.wrap (y - 1) = y - 1 := by rw [IntKind.wrap_i64]; omega
      have R7 : Hid (Rs w7 (.slice ado l.length capo) L) := OwnR.rs (own_keepx HG.out hx7 hg) (by omega)
      have B7 : Hid (Below w.heap.size w w7) := hx7.below HB5.out HB5.out.size (Nat.le_refl _)
      clear hr7 hx7
      go_wp2_with fail
      refine bodyPost_ret (by simp [results, Try.results34, go_sem]; try rfl) rfl ?_
      exact ⟨_, L, _, rfl, by omega, R7.out, B7.out⟩
end Go.Proofs.Ytlddhfimiignaaa
