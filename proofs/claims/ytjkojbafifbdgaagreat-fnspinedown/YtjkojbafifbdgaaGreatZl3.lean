/- Layers as a linked list: behind, pairSize, leastPair: the contracts. -/
import Derived.Test.YtjkojbafifbdgaaGreatZl2
import Derived.BigQuiet
namespace Go.Proofs.YtjkojbafifbdgaaGreat
open Go.RowKit Go.Shelf

theorem LLs.at {w : World} {b : Nat} {p : Value} {gs : List Nat} {vs : List Value} {k : Nat} (h : LLs w b p (gs.drop k) (vs.drop k)) (hk : k < gs.length) : ∃ g v q, p = .pointer (some ⟨g, 0, none⟩) ∧ b ≤ g ∧ gs[k]? = some g ∧ vs[k]? = some v ∧ Bk w g #[v, q] 108 ∧ LLs w (g + 1) q (gs.drop (k + 1)) (vs.drop (k + 1)) := by
  rw [List.drop_eq_getElem_cons hk] at h
  obtain ⟨v, r, q, hvs, rfl, hbg, hbk, hrest⟩ := h
  have h1 : vs[k]? = some v := by
    have := congrArg List.head? hvs
    rw [List.head?_drop] at this; simpa using this
  have h2 : vs.drop (k + 1) = r := by
    have := congrArg List.tail hvs
    rw [List.tail_drop] at this; simpa using this
  exact ⟨gs[k], v, q, rfl, hbg, List.getElem?_eq_getElem hk, h1, hbk, by rw [h2]; exact hrest⟩
set_option maxHeartbeats 4000000 in
theorem behind_any (n : Nat) (p : Value) (gs : List Nat) (vs : List Value) (b : Nat) (w : World) (h : LLs w b p gs vs) (hn : n < gs.length) (hm : gs.length ≤ 1000) :
    Calls Tryz.prog 37 #[p, .int .i64 n] w fun e w' => ∃ (p' : Value) (b' : Nat), e = .returned p' ∧ LLs w b' p' (gs.drop n) (vs.drop n) ∧ w' = w := by
  have HL := (show Hid (LLs w b p gs vs) from h)
  obtain ⟨ap, rfl⟩ := h.ptr
  clear h
  go_enter Tryz.func37, Tryz.ntmps37
  go_wp2_with fail
  go_loopw [0, 6] (fun p' i wr => ∃ k b' : Nat, k ≤ n ∧ i = .int .i64 k ∧ LLs w b' p' (gs.drop k) (vs.drop k) ∧ wr = w) (fun _ i _ => n - (intOf i).toNat)
  case atStart => exact ⟨0, b, by omega, rfl, by simpa using HL.out, rfl⟩
  case round =>
    obtain ⟨k, b', hk, rfl, hL, rfl⟩ := hrel
    by_cases hlt : k < n
    · obtain ⟨g, v, q, rfl, -, -, -, hbk, hrest⟩ := hL.at (by omega)
      have HR := (show Hid _ from hrest)
      obtain ⟨aq, rfl⟩ := hrest.ptr
      obtain ⟨c0, c1, _, _⟩ := hbk.two
      have ik : (k : Int) < (n : Int) := by omega
      clear hrest hL
      go_wp2_with fail
      go_roundw
      case rel => exact ⟨k + 1, g + 1, by omega, by go_num, HR.out, by trivial⟩
      case measure => simp [intOf]; omega
    · obtain rfl : k = n := by omega
      have HR := (show Hid _ from hL)
      obtain ⟨aq, rfl⟩ := hL.ptr
      clear hL
      go_wp2_with fail
      go_ret
      exact ⟨_, b', rfl, HR.out, by trivial⟩
end Go.Proofs.YtjkojbafifbdgaaGreat
