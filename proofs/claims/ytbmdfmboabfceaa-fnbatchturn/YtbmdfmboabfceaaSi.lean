/- The program's rows that are there at a time, one by one: the contracts. -/
import Derived.Test.YtbmdfmboabfceaaSh
import Derived.Test.YtbmdfmboabfceaaSg2
import Derived.Test.YtbmdfmboabfceaaSb
import Derived.RangeFuncNested
import Derived.RangeFuncBound
import Derived.RangeFuncCalls
import Derived.RangeFuncLeaves
import Derived.Shelf.Abstract
import Derived.Shelf.RegionOpen
import Derived.WalkKit
import Derived.OwnWalkIn
import Derived.TacticsInMore
import Derived.LoopNIn
import Derived.LoopIn
namespace Go.Proofs.Ytbmdfmboabfceaa
open Go.RowKit Go.Shelf
open Go.ChangeMaps (setBlock)
attribute [local go_sem] Oper.semAt_some

/-- Below N all blocks but mb lie as they lay. -/
structure Kx (N mb : Nat) (W W' : World) : Prop where
  size : W.heap.size ≤ W'.heap.size
  block : ∀ k, k < N → k ≠ mb → W'.heap[k]? = W.heap[k]?
theorem Kx.refl (N mb : Nat) (W : World) : Kx N mb W W := ⟨Nat.le_refl _, fun _ _ _ => rfl⟩
theorem Kx.trans {N mb : Nat} {A B C : World} (h : Kx N mb A B) (k : Kx N mb B C) : Kx N mb A C := ⟨Nat.le_trans h.size k.size, fun i hi hm => (k.block i hi hm).trans (h.block i hi hm)⟩
abbrev XI := { x : It // thOk x.1 ∧ -99999 ≤ x.2 ∧ x.2 ≤ 99999 }
theorem Kx.bk {N mb : Nat} {W W' : World} {k : Nat} {c : Array Value} {t : TypeId} (h : Kx N mb W W') (hb : Bk W k c t) (hk : k < N) (hm : k ≠ mb) : Bk W' k c t := by
  unfold Bk; rw [h.block k hk hm]; exact hb
set_option maxHeartbeats 1000000 in
theorem there_any (a : Option Addr) (n cap : Nat) (x y : Int) (w : World) :
    Calls Try.prog 113 #[.slice a n cap, tv x y] w fun e w' => e = .returned (.func (.func 159) #[] #[.pointer (some ⟨w.heap.size, 0, none⟩), .pointer (some ⟨w.heap.size + 1, 0, none⟩)]) ∧ w' = (w.alloc (.cells #[.slice a n cap] 23)).alloc (.cells #[.int .i64 x, .int .i64 y] 31) := by
  go_enter Try.func113, Try.ntmps113
  go_wp2_with fail
  go_ret
  exact ⟨rfl, rfl⟩
theorem implLess_is {a b c d : Int} {r : Bool} (h : leB a b c d = r) (w : World) : Calls Try.prog 68 #[tv a b, tv c d] w fun e w' => e = .returned (.bool r) ∧ Below w.heap.size w w' := by
  rw [← h]; exact implLess_any a b c d w
abbrev encX (z : XI) : Array Value := #[thV z.1.1, .int .i64 z.1.2]
set_option maxRecDepth 100000 in
set_option maxHeartbeats 2000000 in
theorem there1_in (lp b1 b2 N mb : Nat) (a : Option Addr) (cap : Nat) (l : List Rw) (x y : Int) (J Jx : List XI → World → Prop) (w W : World)
    (hJ : ∀ pre A B, J pre A → Below A.heap.size A B → J pre B)
    (hY : ∀ pre z W, J pre W → pre.length < l.length → YieldAt Fence.wide (3 - 1) Try.prog lp (encX z) W fun e W' =>
      (e = .returned (.bool true) ∧ J (pre ++ [z]) W' ∧ Kx N mb W W') ∨ (e = .returned (.bool false) ∧ Jx (pre ++ [z]) W'))
    (hk : rokB l = true) (hRs : Rs w (.slice a l.length cap) l) (hB : ∀ g, g < w.heap.size → g < N ∧ g ≠ mb) (hW : ∀ k, k < w.heap.size → W.heap[k]? = w.heap[k]?) (hWs : N ≤ W.heap.size)
    (hb1 : Bk W b1 #[.slice a l.length cap] 23) (hb2 : Bk W b2 #[.int .i64 x, .int .i64 y] 31) (h2N : b2 < N) (h2m : b2 ≠ mb) (h0 : J [] W) :
    CallsIn Fence.wide 3 Try.prog 159 #[.func (.yield lp) #[] #[], .pointer (some ⟨b1, 0, none⟩), .pointer (some ⟨b2, 0, none⟩)] W fun e W' => (∃ v, e = .returned v) ∧
      ((∃ ys : List XI, ys.map (·.1) = atL l x y ∧ J ys W') ∨ (∃ pre, True ∧ Jx pre W')) := by
  have d0 := hb1.cell (i := 0) (v := .slice a l.length cap) rfl
  have hl := rok_len hk
  obtain ⟨a', cap', e, hc, hm, hn, hcells⟩ := Rs.open hRs
  cases e
  unfold maxLen at hm
  have HC := (show Hid _ from hcells)
  clear hcells
  refine callsIn_of_wp Try.func159 rfl trivial ?_ rfl
  simp only [Try.ntmps159, List.size_toArray, List.length_cons, List.length_nil, Nat.reduceAdd, Nat.reduceSub, Array.replicate_succ, Array.replicate_zero, List.push_toArray, List.append_toArray, List.nil_append, List.cons_append]
  gi_wp2
  gi_loopw [8] (fun i wr => ∃ (k : Nat) (pre : List XI), k ≤ l.length ∧ i = .int .i64 k ∧ pre.map (·.1) = atL (l.take k) x y ∧ J pre wr ∧ (∀ k, k < w.heap.size → wr.heap[k]? = w.heap[k]?) ∧ N ≤ wr.heap.size ∧ Bk wr b2 #[.int .i64 x, .int .i64 y] 31) (fun i _ => l.length - (intOf i).toNat)
  case atStart => exact ⟨0, [], by omega, rfl, rfl, h0, hW, hWs, hb2⟩
  case round =>
    clear d0 h0 hW hWs hb2 hb1
    obtain ⟨k, pre, hkl, rfl, hpre, hJp, hW, hWs, hb2⟩ := hrel
    by_cases hlt : k < l.length
    · obtain ⟨g, off, K, V, A, B, D, rfl, hg, hr, c0, c1, c2, c3, c4⟩ := HC.out k hlt
      have HR := (show Hid _ from hr)
      have q0 : wr.cell? ⟨g, off + k * 5, none⟩ = some (.int .i64 K) := by rw [World.cell?_of_block (w := w) (hW g hg)]; exact c0
      have q1 : wr.cell? ⟨g, off + k * 5 + 1, none⟩ = some (.int .i64 V) := by rw [World.cell?_of_block (w := w) (hW g hg)]; exact c1
      have q2 : wr.cell? ⟨g, off + k * 5 + 2, none⟩ = some (.int .i64 A) := by rw [World.cell?_of_block (w := w) (hW g hg)]; exact c2
      have q3 : wr.cell? ⟨g, off + k * 5 + 3, none⟩ = some (.int .i64 B) := by rw [World.cell?_of_block (w := w) (hW g hg)]; exact c3
      have q4 : wr.cell? ⟨g, off + k * 5 + 4, none⟩ = some (.int .i64 D) := by rw [World.cell?_of_block (w := w) (hW g hg)]; exact c4
      clear c0 c1 c2 c3 c4 hr
      have ik : ((k : Int) < (l.length : Int)) := by omega
      have bt0 : Bk (wr.alloc (.cells #[.int .i64 K, .int .i64 V, .int .i64 A, .int .i64 B, .int .i64 D] 33)) wr.heap.size #[.int .i64 K, .int .i64 V, .int .i64 A, .int .i64 B, .int .i64 D] 33 := Bk.new _ _ rfl
      have hba : Below wr.heap.size wr (wr.alloc (.cells #[.int .i64 K, .int .i64 V, .int .i64 A, .int .i64 B, .int .i64 D] 33)) := bAlloc (Below.refl _ _) _
      have hb2' := hb2.keep hba
      obtain ⟨t0, t1, _, _⟩ := hb2'.two
      cases hp : leB A B x y
      · have HZ : Hid (atL (l.take (k + 1)) x y = atL (l.take k) x y) := atL_no HR.out hp
        gi_wp2
        refine ⟨trivial, ?_⟩
        refine CallsIn.mono (callsIn_wide.2 (implLess_is hp _)) ?_
        rintro e w3 ⟨rfl, hb3⟩
        have hbw := bStep hba hb3
        have hJ3 := hJ _ _ _ hJp hbw
        have hs3 := hbw.size
        have hb23 := hb2'.keep hb3
        have hW3 : ∀ k, k < w.heap.size → w3.heap[k]? = w.heap[k]? := fun k hk => by
          have := (hB k hk).1
          rw [hbw.block k (by omega)]; exact hW k hk
        clear hb2' hb3 hba t0 t1 bt0 q0 q1 q2 q3 q4
        gi_wp2
        refine ⟨fun _ h => (by cases h), ?_⟩
        gi_wp2
        go_roundw
        case rel => exact ⟨k + 1, pre, by omega, by go_num, by rw [HZ.out]; exact hpre, hJ3, hW3, by omega, hb23⟩
        case measure => simp [intOf]; omega
      · have HZ : Hid (atL (l.take (k + 1)) x y = atL (l.take k) x y ++ [((K, V), D)]) := atL_yes HR.out hp
        have hrk := rok_at hk (List.mem_of_getElem? HR.out)
        have hth : thOk (K, V) ∧ -99999 ≤ D ∧ D ≤ 99999 := by
          have h1 := rw_sp hrk
          have h2 := rw_diff hrk
          exact ⟨⟨h1.1, h1.2.1⟩, h2⟩
        have hpl : pre.length < l.length := by
          have h1 := congrArg List.length hpre
          have h2 := atL_len (l.take k) x y
          simp at h1 h2
          omega
        gi_wp2
        refine ⟨trivial, ?_⟩
        refine CallsIn.mono (callsIn_wide.2 (implLess_is hp _)) ?_
        rintro e w3 ⟨rfl, hb3⟩
        have hbw := bStep hba hb3
        have hJ3 := hJ _ _ _ hJp hbw
        have hs3 := hbw.size
        have hb23 := hb2'.keep hb3
        have hW3 : ∀ k, k < w.heap.size → w3.heap[k]? = w.heap[k]? := fun k hk => by
          have := (hB k hk).1
          rw [hbw.block k (by omega)]; exact hW k hk
        have bt3 := bt0.keep hb3
        obtain ⟨y0, y1, y2, y3, y4⟩ := bt3.five
        obtain ⟨fn, tmps, assign, body, hy, hR⟩ := hY pre ⟨((K, V), D), hth⟩ w3 hJ3 hpl
        clear hb2' hb3 hba t0 t1 bt0 q0 q1 q2 q3 q4 bt3
        gi_wp2
        refine hR.mono ?_
        rintro e W3 (⟨rfl, hJ4, hk4⟩ | ⟨rfl, hJx4⟩)
        · have hb24 := hk4.bk hb23 h2N h2m
          have hs4 := hk4.size
          have hW4 : ∀ k, k < w.heap.size → W3.heap[k]? = w.heap[k]? := fun k hk => by
            have := hB k hk
            rw [hk4.block k this.1 this.2]; exact hW3 k hk
          clear hR hy
          gi_wp2
          go_roundw
          case rel => exact ⟨k + 1, pre ++ [⟨((K, V), D), hth⟩], by omega, by go_num, by rw [HZ.out, List.map_append, hpre]; rfl, hJ4, hW4, by omega, hb24⟩
          case measure => simp [intOf]; omega
        · clear hR hy
          gi_wp2
          refine bodyPost_ret (results_none rfl _ _ _) rfl ?_
          exact ⟨⟨_, rfl⟩, .inr ⟨_, trivial, hJx4⟩⟩
    · obtain rfl : k = l.length := by omega
      gi_wp2
      go_end0
      exact ⟨⟨_, rfl⟩, .inl ⟨pre, by rw [hpre, List.take_length], hJp⟩⟩
theorem grown_below {A B : World} (h : Below A.heap.size A B) : A.grownBy B none := ⟨h.os, h.tape, h.output, h.size, fun k hk _ => h.block k hk⟩
/-- What the program's rows that are there hand on, one by one. -/
theorem there_stops (b1 b2 mb : Nat) (a : Option Addr) (cap : Nat) (l : List Rw) (x y : Int) (w w0 : World) (hk : rokB l = true) (hRs : Rs w (.slice a l.length cap) l) (hB : ∀ g, g < w.heap.size → g < w0.heap.size ∧ g ≠ mb) (hW : ∀ k, k < w.heap.size → w0.heap[k]? = w.heap[k]?)
    (hb1 : Bk w0 b1 #[.slice a l.length cap] 23) (hb2 : Bk w0 b2 #[.int .i64 x, .int .i64 y] 31) (h2m : b2 ≠ mb) :
    SeqStopsK Fence.wide 3 Try.prog 159 #[.pointer (some ⟨b1, 0, none⟩), .pointer (some ⟨b2, 0, none⟩)] encX (Kx w0.heap.size mb) (fun ys => ys.map (·.1) = atL l x y) (fun _ => True) l.length w0 :=
  fun lp J Jx W hWb hJ _ hY h0 =>
    there1_in lp b1 b2 w0.heap.size mb a cap l x y J Jx w W (fun pre A B h hb => hJ pre A B none h (grown_below hb) (fun r e => by cases e)) hY hk hRs hB
      (fun k hk => by rw [hWb.block k (hB k hk).1]; exact hW k hk) hWb.size (hb1.keep hWb) (hb2.keep hWb) hb2.lt h2m h0
end Go.Proofs.Ytbmdfmboabfceaa
