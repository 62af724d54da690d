import Derived.Test.YtldejkhemkjcgaaGreatDoorGj2
import Derived.Test.YtldejkhemkjcgaaGreatDoorGj1
import Derived.Test.YtldejkhemkjcgaaGreatDoorGtX
import Derived.Deep.RegionHeld3
namespace Go.Proofs.YtldejkhemkjcgaaGreatDoor
open Go.RowKit
open Go.ChangeMaps (setBlock)
theorem RangingW.okT {κ : Type} {ek : κ → Value} {ok : κ → Prop} {w : World} {b r : Nat} {M left : List (κ × Int)} (h : RangingW ek ok w b r M left) : ∀ p ∈ M, ok p.1 := by
  obtain ⟨_, _, _, _, _, _, _, ho, _⟩ := h; exact ho
theorem put_doneT {M done left : List It} {p : It} (hn : (M.map Prod.fst).Nodup) (hp : M.Perm (done ++ p :: left)) {C C' : List It} (hC : ∀ z, tot C z = tot done z) (hC' : ∀ z, tot C' z = if p.1 = z then p.2 else tot C z) (z : Int × Int) : tot C' z = tot (done ++ [p]) z := by
  rw [hC', tot_snoc, hC]
  by_cases e : p.1 = z
  · rw [if_pos e, if_pos e]
    have h1 : ((done ++ p :: left).map Prod.fst).Nodup := (hp.map Prod.fst).nodup_iff.1 hn
    rw [List.map_append, List.nodup_append] at h1
    have h2 : tot done z = 0 := tot_of_not fun r hr e2 => by
      exact h1.2.2 r.1 (List.mem_map_of_mem hr) p.1 (by simp) (by rw [e2, e])
    omega
  · rw [if_neg e, if_neg e]; omega
set_option maxRecDepth 100000 in
set_option maxHeartbeats 16000000 in
theorem toldItems_few (pb : Nat) (M P : List It) (w : World) (hm0 : MapWs thV thOk w pb M) (htotP : ∀ z, tot M z = tot P z) (hMl : M.length ≤ 1000000) (hA : absum P ≤ 4000000000000000000) :
    Calls Tryz.prog 148 #[.map (some pb)] w fun e w' => ∃ o : Value, e = .returned (.tuple #[o, .bool true]) ∧ OwnI w' w.heap.size o (sumL ltT P) ∧ Below w.heap.size w w' := by
  have HA : Hid (absum P ≤ 4000000000000000000) := hA
  have HTP : Hid (∀ z, tot M z = tot P z) := htotP
  have hmm := @run_makeMap Tryz.prog
  have m4 : MapIs thV thOk (w.alloc (.map #[] 0)) w.heap.size [] := MapIs.new w rfl
  have hbm : Below w.heap.size w (w.alloc (.map #[] 0)) := bAlloc (Below.refl _ _) _
  have hmapP := hm0.keep hbm
  have hlt0 := hm0.lt
  have hbwA : Below w.heap.size w (w.alloc (.map #[] 0)) := hbm
  have hsm : w.heap.size < (w.alloc (.map #[] 0)).heap.size := by simp
  clear htotP hA hm0 hbm
  go_enter Tryz.func148, Tryz.ntmps148
  go_upto_region 2 with fail
  clear hmm
  generalize (w.alloc (.map #[] 0)) = wA at *
  have hmp : pb < w.heap.size := hlt0
  go_wp2_with (at_range; refine wp_rangeW _ rfl _ _ rfl _ _ Tryz.underlying179 _ M rfl hmapP ?_; intro w5 hrg hb5 hs5)
  go_frame
  have m5 := m4.keep hb5
  have hbw5 := bStep hbwA hb5
  have hps := hmapP.lt
  clear m4 hmapP hb5 hbwA
  generalize hRB : wA.heap.size = rb at *
  clear hRB
  go_loopw [8] (fun _ wr => ∃ (done left C : List It), RangingW thV thOk wr pb rb M left ∧ M.Perm (done ++ left) ∧ MapIs thV thOk wr w.heap.size C ∧ (∀ z, tot C z = tot done z) ∧ C.length ≤ done.length ∧ rb < wr.heap.size ∧ Below w.heap.size w wr) (fun _ wr => leftN wr pb rb)
  case atStart => exact ⟨[], M, [], hrg, by simp, m5, fun z => rfl, by simp, by omega, hbw5⟩
  case round =>
    clear hrg hbw5 hs5 m5
    obtain ⟨done, left, C, hrg, hpm, hmap, htot, hCl, hsz, hb⟩ := hrel
    have HPM := (show Hid (M.Perm (done ++ left)) from hpm)
    have HN := (show Hid ((M.map Prod.fst).Nodup) from hrg.nodup)
    have HOK := (show Hid (∀ p ∈ M, thOk p.1) from hrg.okT)
    have HT := (show Hid (∀ z, tot C z = tot done z) from htot)
    have hcnt := hrg.count
    have hdl : done.length + left.length = M.length := by have := hpm.length_eq; simp at this; omega
    clear hpm htot
    go_wp2_with (at_next; refine wp_nextW _ rfl _ rfl _ _ M left rfl hrg ?_ ?_)
    · intro hz
      subst hz
      have HT2 : Hid (∀ z, tot C z = tot P z) := fun z => by
        have h1 := HPM.out
        rw [List.append_nil] at h1
        rw [HT.out, ← tot_perm h1, HTP.out]
      have hbs := hb.size
      clear HT HPM hcnt hrg
      go_wp2_with fail
      refine (itemsOf_k w.heap.size wr hmap (by simp at hdl; omega) HT2.out).mono ?_
      rintro e w8 ⟨o8, rfl, own8, hb8⟩
      have O8 : Hid (OwnI w8 wr.heap.size o8 (sumL ltT P)) := own8
      clear own8
      go_wp2_with fail
      refine bodyPost_ret (by simp [results, Tryz.results148, go_sem]; try rfl) rfl ?_
      exact ⟨_, rfl, own_less O8.out hbs, bStep hb hb8⟩
    · intro K V D left' w6 hp hrg6 hen hx6 hs6 hl6
      have hm6 : MapIs thV thOk w6 w.heap.size C := hmap.move (hx6.block w.heap.size hmap.lt (by omega))
      have hb6 : Below w.heap.size w w6 := hx6.below hb hb.size (by omega)
      have hP2 : M.Perm (done ++ ((K, V), D) :: left') := HPM.out.trans (hp.append_left done)
      have HP2 := (show Hid (M.Perm (done ++ ((K, V), D) :: left')) from hP2)
      have hmem : ((K, V), D) ∈ M := hP2.mem_iff.2 (by simp)
      have hok : thOk (K, V) := HOK.out _ hmem
      have hD : -4000000000000000000 ≤ D ∧ D ≤ 4000000000000000000 := by
        have h1 := tot_nodup HN.out hmem
        have h2 := tot_abs P (K, V)
        have h3 := HA.out
        rw [HTP.out] at h1
        simp only at h1
        omega
      clear hmem hP2 hx6 hmap hrg hb
      have hbt : Below w6.heap.size w6 ((w6.alloc (.cells #[.int .i64 K, .int .i64 V] 82)).alloc (.cells #[.int .u64 (wH D), .int .u64 (wL D)] 211)) := bAlloc (bAlloc (Below.refl _ _) _) _
      have bk := (Bk.new (w := w6) #[.int .i64 K, .int .i64 V] 82 rfl).alloc (.cells #[.int .u64 (wH D), .int .u64 (wL D)] 211)
      have bw := Bk.new (w := w6.alloc (.cells #[.int .i64 K, .int .i64 V] 82)) #[.int .u64 (wH D), .int .u64 (wL D)] 211 rfl
      simp only [World.size_alloc] at bw
      have hm7 := hm6.keep hbt
      have hrg7 := hrg6.keep hbt
      have hb7 := bStep hb6 hbt
      have hs7 : rb < ((w6.alloc (.cells #[.int .i64 K, .int .i64 V] 82)).alloc (.cells #[.int .u64 (wH D), .int .u64 (wL D)] 211)).heap.size := by simp; omega
      clear hs6
      go_upto_region 7 with fail
      clear hen hm6 hrg6 hb6 hbt
      generalize w6.heap.size = kb at *
      generalize World.alloc (World.alloc _ _) _ = w7 at *
      obtain ⟨q0, q1, -, -⟩ := bw.two
      go_wp2_with fail
      refine (number_mid hD _).mono ?_
      rintro e w8 ⟨rfl, hb8⟩
      have bk8 := bk.keep hb8
      have hm8 := hm7.keep hb8
      have hrg8 := hrg7.keep hb8
      have hbw8 := bStep hb7 hb8
      have hs8 := hb8.size
      obtain ⟨k0, k1, -, -⟩ := bk8.two
      obtain ⟨o2, C', e1, hC', ht', hl'⟩ := hm8.put encT Tryz.underlying77 hok D
      have HC' : Hid (∀ z, tot C' z = tot (done ++ [((K, V), D)]) z) := put_doneT HN.out HP2.out HT.out ht'
      have hrg9 : RangingW thV thOk (setBlock w8 w.heap.size o2) pb rb M left' := hrg8.move (setBlock_at (by omega)) (setBlock_at (by omega))
      have hb9 : Below w.heap.size w (setBlock w8 w.heap.size o2) := below_setBlock hbw8 (by omega)
      have hs9 : rb < (setBlock w8 w.heap.size o2).heap.size := by rw [size_setBlock]; omega
      clear q0 q1 bw bk hm7 hrg7 hb7 hb8 bk8 ht' hm8 hrg8
      go_wp2_with fail
      clear e1 k0 k1
      generalize setBlock w8 w.heap.size o2 = w9 at *
      go_roundw
      case rel => exact ⟨done ++ [((K, V), D)], left', C', hrg9, by simpa using HP2.out, hC', HC'.out, by simp; omega, hs9, hb9⟩
      case measure => rw [hrg9.count]; omega
end Go.Proofs.YtldejkhemkjcgaaGreatDoor
