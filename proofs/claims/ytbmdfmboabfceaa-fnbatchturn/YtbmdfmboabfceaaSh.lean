/- What the program's items of a map answer: the contract. -/
import Derived.Test.YtbmdfmboabfceaaSu
import Derived.Test.YtbmdfmboabfceaaBi0
namespace Go.Proofs.Ytbmdfmboabfceaa
open Go.RowKit
open Go.ChangeMaps (setBlock)

set_option maxRecDepth 100000 in
set_option maxHeartbeats 8000000 in
theorem itemsOf_any (b : Nat) (M : List It) (w : World) (hmap : MapIs thV thOk w b M) (hMl : M.length ≤ 1000000) :
    Calls Try.prog 114 #[.map (some b)] w fun e w' => ∃ o : Value, e = .returned o ∧ OwnI w' w.heap.size o (sumL ltT M) ∧ Below w.heap.size w w' := by
  have hmt := hmap.lt
  go_enter Try.func114, Try.ntmps114
  go_wp2_with (at_range; refine wp_range _ rfl _ _ rfl _ _ Try.underlying85 _ M rfl hmap ?_; intro w0 hrg hb0 hs0)
  go_frame
  clear hmap
  go_loopw [3] (fun o wr => ∃ (done left L : List It), Ranging thV thOk wr b w.heap.size M left ∧ M.Perm (done ++ left) ∧ L.Perm (done.filter fun r => decide (r.2 ≠ 0)) ∧ OwnI wr (w.heap.size + 1) o L ∧ w.heap.size + 1 ≤ wr.heap.size ∧ Below w.heap.size w wr) (fun _ wr => leftN wr b w.heap.size)
  case atStart => exact ⟨[], M, [], hrg, by simp, by simp, ownK_nil _ _ _ _ _, by omega, hb0⟩
  case round =>
    clear hrg hb0 hs0
    obtain ⟨done, left, L, hrg, hpm, hpl, hown, hsz, hb⟩ := hrel
    have HPM := (show Hid _ from hpm)
    have HPL := (show Hid _ from hpl)
    have HO : Hid (OwnI wr (w.heap.size + 1) u3 L) := hown
    have hcnt := hrg.count
    have hLM : L.length ≤ M.length := by
      have h1 := hpl.length_eq
      have h2 := List.length_filter_le (fun r : It => decide (r.2 ≠ 0)) done
      have h3 := hpm.length_eq
      simp at h3
      omega
    have hM := (show Hid _ from hrg.nodup)
    clear hpm hpl hown
    go_wp2_with (at_next; refine wp_next _ rfl _ rfl _ _ M left rfl hrg ?_ ?_)
    · intro hz
      subst hz
      have O1 : OwnI wr (w.heap.size + 1) u3 L := HO.out
      have hdone : L.Perm (M.filter fun r => decide (r.2 ≠ 0)) := by
        have h1 := HPM.out
        rw [List.append_nil] at h1
        exact HPL.out.trans (h1.filter _).symm
      have HD := (show Hid _ from hdone)
      clear hdone HO HPM HPL hcnt
      have hll : L.length ≤ 2097152 := by omega
      go_wp2_with fail
      refine (sortI_any O1 hll hsz).mono ?_
      rintro e w2 ⟨rfl, l', hp, hsrt, own2, hb2⟩
      have hfin : l' = sumL ltT M := collected ltT_ord hM.out (fun _ => rfl) HD.out hp hsrt
      have hbw : Below w.heap.size w w2 := hb.trans (hb2.mono (by omega))
      have O2 : Hid (OwnI w2 (w.heap.size + 1) u3 l') := own2
      clear own2 hp hsrt O1
      go_wp2_with fail
      go_ret
      refine ⟨_, rfl, ?_, hbw⟩
      rw [← hfin]
      exact own_less O2.out (by omega)
    · intro K V D left' w1 hp hrg1 hen hx hs1 hl1
      have O1 : OwnI w1 (w.heap.size + 1) u3 L := ownK_beside HO.out hx (fun q e => by have := ownK_base HO.out q e; omega)
      have hb1 : Below w.heap.size w w1 := hx.below hb hb.size (by omega)
      have hsz1 : w.heap.size + 1 ≤ w1.heap.size := by omega
      have hcnt1 := hrg1.count
      clear hx hrg hb HO hs1
      by_cases hD : D = 0
      · subst hD
        have HZ := (show Hid _ from collect_no HPM.out hp HPL.out rfl)
        have hrg2 := hrg1.keep (bAlloc (Below.refl _ w1) (.cells #[.int .i64 K, .int .i64 V] 90))
        have O2 : Hid (OwnI (w1.alloc (.cells #[.int .i64 K, .int .i64 V] 90)) (w.heap.size + 1) u3 L) := O1.alloc _
        clear O1 HPM HPL hp
        go_wp2_with fail
        go_roundw
        case rel => exact ⟨_, left', L, hrg2, HZ.out.1, HZ.out.2, O2.out, by simp; omega, bAlloc hb1 _⟩
        case measure => rw [hrg2.count]; omega
      · have nD : (D == 0) = false := by simpa using hD
        have HZ := (show Hid _ from collect_yes HPM.out hp HPL.out hD)
        clear HPM HPL hp
        go_wp2_with (at_builtin; refine appI _ rfl _ _ rfl (w.heap.size + 1) _ _ rfl ((O1.alloc _).alloc _) _ _ _ _ rfl (Bk.new _ _ (by simp)) (by omega) (by simp; omega) ?_; intro g3 cap3 w3 own3 hgrow hlg)
        have hrg3 := (hrg1.keep (bAlloc (bAlloc (Below.refl _ w1) (.cells #[.int .i64 K, .int .i64 V] 90)) (.cells #[.int .i64 K, .int .i64 V, .int .i64 D] 64))).grew hgrow (fun q e => by have := ownK_base O1 q e; omega)
        have hb3 : Below w.heap.size w w3 := Below.grew (bAlloc (bAlloc hb1 _) _) hgrow (by simp; omega) (fun q e => by have := ownK_base O1 q e; omega)
        have hs3 : w.heap.size + 1 ≤ w3.heap.size := by have := hgrow.size; simp at this; omega
        go_roundw
        case rel => exact ⟨_, left', L ++ [((K, V), D)], hrg3, HZ.out.1, HZ.out.2, own3, hs3, hb3⟩
        case measure => rw [hrg3.count]; omega
end Go.Proofs.Ytbmdfmboabfceaa
