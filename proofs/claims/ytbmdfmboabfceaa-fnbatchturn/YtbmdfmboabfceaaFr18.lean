/- What SortFunc and FrontOf of the program answer. -/
import Derived.Test.YtbmdfmboabfceaaFr16
import Derived.Test.YtbmdfmboabfceaaFr17
namespace Go.Proofs.Ytbmdfmboabfceaa
open Go.RowKit

set_option maxHeartbeats 4000000 in
set_option maxRecDepth 100000 in
theorem len64_any (n : Nat) (hn : n ≤ 12) (w : World) : Calls Try.prog 198 #[.int .u64 n] w fun e w' => (∃ r : Int, e = .returned (.int .i64 r)) ∧ w' = w := by
  have h1 : ¬ (n : Int) ≥ 4294967296 := by omega
  have h2 : ¬ (n : Int) ≥ 65536 := by omega
  have h3 : ¬ (n : Int) ≥ 256 := by omega
  go_enter Try.func198, Try.ntmps198
  go_wp2_with fail
  go_ret
  exact ⟨⟨_, rfl⟩, rfl⟩
set_option maxHeartbeats 4000000 in
theorem len_any (n : Nat) (hn : n ≤ 12) (w : World) : Calls Try.prog 169 #[.int .u64 n] w fun e w' => (∃ r : Int, e = .returned (.int .i64 r)) ∧ w' = w := by
  go_enter Try.func169, Try.ntmps169
  go_wp2_with (go_at_call 198; refine (len64_any n hn _).mono ?_; rintro e w' ⟨⟨r, rfl⟩, rfl⟩)
  go_ret
  exact ⟨⟨_, rfl⟩, rfl⟩
set_option maxHeartbeats 4000000 in
theorem pdq_any (g cap : Nat) (c : Array Value) (l : List (Int × Int)) (r : Int) (w : World) (h : Bk w g c 31) (hs : c.size = cap * 2) (hc : l.length ≤ cap) (hn : l.length ≤ 12) (hfill : Fill c l l.length) :
    Calls Try.prog 168 #[.slice (some ⟨g, 0, none⟩) l.length cap, .int .i64 0, .int .i64 (l.length : Int), .int .i64 r, .func (.func 126) #[] #[]] w fun e w' =>
      ∃ (c' : Array Value) (l' : List (Int × Int)), e = .returned (.tuple #[]) ∧ l'.Perm l ∧ Sorted l' l.length ∧ Bk w' g c' 31 ∧ c'.size = cap * 2 ∧ Fill c' l' l.length ∧ Bx g w w' := by
  have H := insert_any g cap c l w h hs hc hn hfill
  clear h hfill
  have h12 : (l.length : Int) ≤ 12 := by omega
  generalize l.length = n at *
  go_enter Try.func168, Try.ntmps168
  go_wp2_with fail
  refine wp_loop_rounds 1 ?_
  rw [rounds_succ]
  go_wp2_with fail
  refine H.mono ?_
  rintro e w1 ⟨c', l', rfl, h1, h2, h3, h4, h5, h6⟩
  go_wp2_with fail
  (try simp only [Exit.inBlock, Exit.then])
  refine bodyPost_ret (results_none rfl _ _ _) rfl ?_
  exact ⟨c', l', rfl, h1, h2, h3, h4, h5, h6⟩
set_option maxHeartbeats 4000000 in
theorem sort_any (g cap : Nat) (c : Array Value) (l : List (Int × Int)) (w : World) (h : Bk w g c 31) (hs : c.size = cap * 2) (hc : l.length ≤ cap) (hn : l.length ≤ 12) (hfill : Fill c l l.length) :
    Calls Try.prog 122 #[.slice (some ⟨g, 0, none⟩) l.length cap, .func (.func 126) #[] #[]] w fun e w' =>
      ∃ (c' : Array Value) (l' : List (Int × Int)), e = .returned (.tuple #[]) ∧ l'.Perm l ∧ Sorted l' l.length ∧ Bk w' g c' 31 ∧ c'.size = cap * 2 ∧ Fill c' l' l.length ∧ Bx g w w' := by
  have H := fun r => pdq_any g cap c l r w h hs hc hn hfill
  clear h hfill
  generalize l.length = n at *
  go_enter Try.func122, Try.ntmps122
  go_wp2_with (first | (go_at_call 169; refine (len_any n hn _).mono ?_; rintro e w' ⟨⟨r, rfl⟩, rfl⟩) | (go_at_call 168; refine (H _).mono ?_; rintro e w1 ⟨c', l', rfl, h1, h2, h3, h4, h5, h6⟩))
  go_end0
  exact ⟨c', l', rfl, h1, h2, h3, h4, h5, h6⟩
end Go.Proofs.Ytbmdfmboabfceaa
