import Derived.Test.YtldejkhemkjcgaaGreatDoorGb3
import Derived.Test.YtldejkhemkjcgaaGreatDoorGb1
import Derived.Test.YtldejkhemkjcgaaGreatDoorGa6
import Derived.Deep.RegionHeld3
import Derived.Test.YtldejkhemkjcgaaGreatDoorGs2
import Derived.RangeFuncNested
import Derived.RangeFuncBound
import Derived.RangeFuncCalls
import Derived.RangeFuncLeaves
import Derived.Shelf.Abstract
import Derived.Shelf.RegionOpen
import Derived.WalkKit
import Derived.OwnWalkIn
import Derived.TacticsInMore
import Derived.LoopNIn
import Derived.LoopIn
namespace Go.Proofs.YtldejkhemkjcgaaGreatDoor
open Go.RowKit
def upR (r : It) : Rw := ((r.1, (0, 0)), r.2)
def dnR (r : Rw) : It := (r.1.1, r.2)
theorem up_tot (l : List It) (s : Int × Int) : tot (l.map upR) (s, (0, 0)) = tot l s := by
  induction l with
  | nil => rfl
  | cons r l ih =>
    simp only [List.map_cons, tot, ih]
    congr 1
    simp [upR]
theorem dn_tot {l : List Rw} (h : ∀ r ∈ l, r.1.2 = (0, 0)) (s : Int × Int) : tot (l.map dnR) s = tot l (s, (0, 0)) := by
  induction l with
  | nil => rfl
  | cons r l ih =>
    simp only [List.map_cons, tot, ih (fun q hq => h q (by simp [hq]))]
    congr 1
    have h1 := h r (by simp)
    have : (r.1 = (s, ((0 : Int), (0 : Int)))) ↔ r.1.1 = s := by
      constructor
      · intro e; rw [e]
      · intro e; exact Prod.ext e h1
    by_cases e : r.1.1 = s
    · rw [if_pos (show (dnR r).1 = s from e), if_pos (this.2 e)]; rfl
    · rw [if_neg (show ¬ (dnR r).1 = s from e), if_neg (fun h => e (this.1 h))]
theorem sum_zero {l : List It} {r : Rw} (h : r ∈ sumL ltS (l.map upR)) : r.1.2 = (0, 0) := by
  obtain ⟨h1, h2⟩ := (srt_mem ltS_ord (sumL_srt ltS_ord _) (sumL_nz ltS _) r).1 h
  rw [sumL_tot ltS_ord] at h2
  refine Classical.byContradiction fun hn => h1 ?_
  rw [← h2]
  refine tot_of_not fun q hq e => hn ?_
  obtain ⟨x, _, rfl⟩ := List.mem_map.1 hq
  rw [← e]; rfl
theorem sum_items (l : List It) : (sumL ltS (l.map upR)).map dnR = sumL ltT l := by
  refine sumL_uniq ltT_ord ?_ ?_ ?_
  · unfold Srt
    rw [List.pairwise_map]
    have h0 := sumL_srt ltS_ord (l.map upR)
    unfold Srt at h0
    refine List.Pairwise.imp_of_mem ?_ h0
    intro p q hp hq h
    have e1 := sum_zero hp
    have e2 := sum_zero hq
    rw [ltS, e1, e2] at h
    show ltT p.1.1 q.1.1 = true
    simpa [ltT] using h
  · intro r hr
    obtain ⟨q, hq, rfl⟩ := List.mem_map.1 hr
    exact sumL_nz ltS _ q hq
  · intro s
    rw [dn_tot (fun r hr => sum_zero hr), sumL_tot ltS_ord, up_tot]
theorem up_abs (l : List It) : absum (l.map upR) = absum l := by
  induction l with
  | nil => rfl
  | cons r l ih => simp only [List.map_cons, absum, ih]; rfl
theorem up_snoc {l : List It} {k : Nat} {K V D : Int} (h : l[k]? = some ((K, V), D)) : (l.take (k + 1)).map upR = (l.take k).map upR ++ [(((K, V), (0, 0)), D)] := by
  rw [take_snoc h, List.map_append]; rfl
theorem dn_snoc {l : List Rw} {k : Nat} {K V A B D : Int} (h : l[k]? = some (((K, V), (A, B)), D)) : (l.take (k + 1)).map dnR = (l.take k).map dnR ++ [((K, V), D)] := by
  rw [take_snoc h, List.map_append]; rfl
section
variable {ops : Array Oper} {o : Oper} {a : Act} {Kk : Act → World → Prop} {Q : Exit → Act → World → Prop} {E : Prop}
theorem stepR (w : World) (hgd : o.guard = none) (s x : Operand) (ho : o.op = .call { callee := .builtin .append, args := #[s, x], argTypes := #[29, 29] })
    (base : Nat) (v : Value) (l : List Rw) (hs : a.eval s = v) (hown : OwnR w base v l) (g0 : Nat) (K V A B D : Int) (hx : a.eval x = .slice (some ⟨g0, 0, none⟩) 1 1)
    (hc : Bk w g0 #[.int .i64 K, .int .i64 V, .int .i64 A, .int .i64 B, .int .i64 D] 56) (hl : l.length ≤ 2000000) (hbase : base ≤ w.heap.size)
    (h : ∀ g cap w', OwnR w' base (.slice (some ⟨g, 0, none⟩) (l.length + 1) cap) (l ++ [(((K, V), (A, B)), D)]) → w.grownBy w' v.ownBlock → g < w'.heap.size → Kk (a.put o.dst (.slice (some ⟨g, 0, none⟩) (l.length + 1) cap)) w') :
    if Region.wanted o (yielded ops a.tmps) = true then Oper.wp Tryz.prog o a w Kk Q else E := by
  obtain ⟨i0, hi, hz0, hz1, hz2⟩ := info_parts infoR
  refine step_append_lies w hgd s x 29 ho base 56 i0 _ 5 40 Tryz.underlying29 hi hz0 hz1 hz2 rfl (by decide) v l.length (l.flatMap rowC) hs hown ⟨g0, 0, none⟩ 1 1 (rowC (((K, V), (A, B)), D)) hx rfl (newsL hc) (onesR _) (by omega) (by unfold maxLen; omega) (by omega) hbase w.heap.size rfl ?_
  intro g cap w' h1 h2 _ h4
  refine h g cap w' ?_ h2 h4
  show w'.ownsRow _ _ _ _ _ _
  rw [List.flatMap_append]; simpa using h1
theorem stepI (w : World) (hgd : o.guard = none) (s x : Operand) (ho : o.op = .call { callee := .builtin .append, args := #[s, x], argTypes := #[35, 35] })
    (base : Nat) (v : Value) (l : List It) (hs : a.eval s = v) (hown : OwnI w base v l) (g0 : Nat) (K V D : Int) (hx : a.eval x = .slice (some ⟨g0, 0, none⟩) 1 1)
    (hc : Bk w g0 #[.int .i64 K, .int .i64 V, .int .i64 D] 63) (hl : l.length ≤ 2000000) (hbase : base ≤ w.heap.size)
    (h : ∀ g cap w', OwnI w' base (.slice (some ⟨g, 0, none⟩) (l.length + 1) cap) (l ++ [((K, V), D)]) → w.grownBy w' v.ownBlock → g < w'.heap.size → Kk (a.put o.dst (.slice (some ⟨g, 0, none⟩) (l.length + 1) cap)) w') :
    if Region.wanted o (yielded ops a.tmps) = true then Oper.wp Tryz.prog o a w Kk Q else E := by
  obtain ⟨i0, hi, hz0, hz1, hz2⟩ := info_parts infoI
  refine step_append_lies w hgd s x 35 ho base 63 i0 _ 3 24 Tryz.underlying35 hi hz0 hz1 hz2 rfl (by decide) v l.length (l.flatMap itC) hs hown ⟨g0, 0, none⟩ 1 1 (itC ((K, V), D)) hx rfl (newsL hc) (onesI _) (by omega) (by unfold maxLen; omega) (by omega) hbase w.heap.size rfl ?_
  intro g cap w' h1 h2 _ h4
  refine h g cap w' ?_ h2 h4
  show w'.ownsRow _ _ _ _ _ _
  rw [List.flatMap_append]; simpa using h1
end
set_option maxRecDepth 100000 in
set_option maxHeartbeats 4000000 in
theorem l2Items_any (v : Value) (l : List It) (w : World) (h : Is w v l) (hl : l.length ≤ 1000000) (ha : absum l ≤ 2305843009213693952) :
    Calls Tryz.prog 156 #[v] w fun e w' => ∃ o : Value, e = .returned o ∧ OwnI w' w.heap.size o (sumL ltT l) ∧ Below w.heap.size w w' := by
  have o0 := ownR_empty w rfl
  have hb0 := bAlloc (Below.refl w.heap.size w) (.cells #[] 56)
  have HE : Hid ((sumL ltS (l.map upR)).map dnR = sumL ltT l) := sum_items l
  have hua := up_abs l
  have hul : (l.map upR).length = l.length := by simp
  have hsl := sumL_len ltS (l.map upR)
  obtain ⟨a, cap, rfl, hc, hm, hn, hcells⟩ := Is.open h
  unfold maxLen at hm
  have HC := (show Hid _ from hcells)
  clear hcells h
  go_enter Tryz.func156, Tryz.ntmps156
  go_wp2_with fail
  go_loopw [3, 4] (fun o i wr => ∃ k : Nat, k ≤ l.length ∧ i = .int .i64 k ∧ OwnR wr w.heap.size o ((l.take k).map upR) ∧ Below w.heap.size w wr) (fun _ i _ => l.length - (intOf i).toNat)
  case atStart => exact ⟨0, by omega, rfl, o0, hb0⟩
  case round =>
    clear o0 hb0
    obtain ⟨k, hkl, rfl, hown, hb⟩ := hrel
    have HO : Hid (OwnR wr w.heap.size u3 ((l.take k).map upR)) := hown
    clear hown
    by_cases hlt : k < l.length
    · obtain ⟨g, off, K, V, D, rfl, hg, hr, c0, c1, c2⟩ := HC.out k hlt
      have HZ := (show Hid _ from up_snoc hr)
      have d0 := cell_below hb c0
      have d1 := cell_below hb c1
      have d2 := cell_below hb c2
      have hL : ((l.take k).map upR).length ≤ 1000000 := by simp; omega
      have O1 : OwnR wr w.heap.size u3 ((l.take k).map upR) := HO.out
      have hs1 := hb.size
      have C0 := (show Hid _ from c0)
      have C1 := (show Hid _ from c1)
      have C2 := (show Hid _ from c2)
      clear c0 c1 c2 hr HO
      generalize (l.take k).map upR = L at *
      have HX : Hid (∀ W, Below w.heap.size w W → W.cell? ⟨g, off + k * 3, none⟩ = some (.int .i64 K) ∧ W.cell? ⟨g, off + k * 3 + 1, none⟩ = some (.int .i64 V) ∧ W.cell? ⟨g, off + k * 3 + 2, none⟩ = some (.int .i64 D)) :=
        fun W hW => ⟨cell_below hW C0.out, cell_below hW C1.out, cell_below hW C2.out⟩
      clear C0 C1 C2
      go_wp2_with fail
      go_region_held3 (fun w' => w'.cell? ⟨g, off + k * 3, none⟩ = some (.int .i64 K) ∧ w'.cell? ⟨g, off + k * 3 + 1, none⟩ = some (.int .i64 V) ∧ w'.cell? ⟨g, off + k * 3 + 2, none⟩ = some (.int .i64 D))
        (first | exact HX.out _ hb.drew | exact HX.out _ (bAlloc hb _).drew | exact HX.out _ (bAlloc hb.drew _) | exact HX.out _ hb7)
        (first
          | (refine stepR _ (by rfl) _ _ (by rfl) w.heap.size _ L (by rfl) ((O1.alloc _).drew) _ K V 0 0 D (by rfl) ((Bk.new _ _ rfl).drew) (by omega) (by simp; omega) ?_; intro g7 cap7 w7 own7 hgrow hlg; have hb7 : Below w.heap.size w w7 := Below.grew (bAlloc hb _).drew hgrow (by simp; omega) (ownK_base O1)))
      go_wp2_with fail
      go_roundw
      case rel =>
        refine ⟨k + 1, by omega, by go_num, ?_, hb7⟩
        rw [HZ.out]; exact own7
      case measure => simp [intOf]; omega
    · obtain rfl : k = l.length := by omega
      have O1 : Hid (OwnR wr w.heap.size u3 (l.map upR)) := by have := HO.out; rw [List.take_length] at this; exact this
      have R1 : Rs wr u3 (l.map upR) := OwnR.rs O1.out (by omega)
      have hs1 := hb.size
      clear HO HC
      go_wp2_with fail
      refine (l2Sum_any _ (l.map upR) _ R1 (by omega) (by omega)).mono ?_
      rintro e w2 ⟨o2, rfl, own2, hb2⟩
      have hs2 := hb2.size
      have hbw2 := bStep hb hb2
      have R2 := OwnR.rs own2 (by omega)
      clear own2 O1 R1 hb hb2
      obtain ⟨a2, cap2, rfl, hc2, hm2, hn2, hcells2⟩ := Rs.open R2
      unfold maxLen at hm2
      have HC2 := (show Hid _ from hcells2)
      have oI := ownI_empty w2 rfl
      have hbI := bAlloc hbw2 (.cells #[] 63)
      clear hcells2 R2
      generalize sumL ltS (l.map upR) = sm at *
      go_wp2_with fail
      go_loopw [6, 7] (fun o i wr => ∃ k : Nat, k ≤ sm.length ∧ i = .int .i64 k ∧ OwnI wr w2.heap.size o ((sm.take k).map dnR) ∧ Below w2.heap.size w2 wr) (fun _ i _ => sm.length - (intOf i).toNat)
      case atStart => exact ⟨0, by omega, rfl, oI, bAlloc (Below.refl _ _) _⟩
      case round =>
        clear oI hbI
        obtain ⟨k, hkl, rfl, hown, hb⟩ := hrel
        have HO : Hid (OwnI wr w2.heap.size u6 ((sm.take k).map dnR)) := hown
        clear hown
        by_cases hlt : k < sm.length
        · obtain ⟨g, off, K, V, A, B, D, rfl, hg, hr, c0, c1, c2, c3, c4⟩ := HC2.out k hlt
          have HZ := (show Hid _ from dn_snoc hr)
          have d0 := cell_below hb c0
          have d1 := cell_below hb c1
          have d4 := cell_below hb c4
          have hL : ((sm.take k).map dnR).length ≤ 1000000 := by simp; omega
          have O1 : OwnI wr w2.heap.size u6 ((sm.take k).map dnR) := HO.out
          have hs3 := hb.size
          have C0 := (show Hid _ from c0)
          have C1 := (show Hid _ from c1)
          have C4 := (show Hid _ from c4)
          clear c0 c1 c2 c3 c4 hr HO
          generalize (sm.take k).map dnR = L at *
          have HX : Hid (∀ W, Below w2.heap.size w2 W → W.cell? ⟨g, off + k * 5, none⟩ = some (.int .i64 K) ∧ W.cell? ⟨g, off + k * 5 + 1, none⟩ = some (.int .i64 V) ∧ W.cell? ⟨g, off + k * 5 + 4, none⟩ = some (.int .i64 D)) :=
            fun W hW => ⟨cell_below hW C0.out, cell_below hW C1.out, cell_below hW C4.out⟩
          clear C0 C1 C4
          go_wp2_with fail
          go_region_held3 (fun w' => w'.cell? ⟨g, off + k * 5, none⟩ = some (.int .i64 K) ∧ w'.cell? ⟨g, off + k * 5 + 1, none⟩ = some (.int .i64 V) ∧ w'.cell? ⟨g, off + k * 5 + 4, none⟩ = some (.int .i64 D))
            (first | exact HX.out _ hb.drew | exact HX.out _ (bAlloc hb _).drew | exact HX.out _ (bAlloc hb.drew _) | exact HX.out _ hb7)
            (first
              | (refine stepI _ (by rfl) _ _ (by rfl) w2.heap.size _ L (by rfl) ((O1.alloc _).drew) _ K V D (by rfl) ((Bk.new _ _ rfl).drew) (by omega) (by simp; omega) ?_; intro g7 cap7 w7 own7 hgrow hlg; have hb7 : Below w2.heap.size w2 w7 := Below.grew (bAlloc hb _).drew hgrow (by simp; omega) (ownK_base O1)))
          go_wp2_with fail
          go_roundw
          case rel =>
            refine ⟨k + 1, by omega, by go_num, ?_, hb7⟩
            rw [HZ.out]; exact own7
          case measure => simp [intOf]; omega
        · obtain rfl : k = sm.length := by omega
          have O1 : Hid (OwnI wr w2.heap.size u6 (sm.map dnR)) := by have := HO.out; rw [List.take_length] at this; exact this
          clear HO
          go_wp2_with fail
          go_ret
          refine ⟨_, rfl, ?_, bStep hbw2 hb⟩
          rw [← HE.out]
          exact own_less O1.out (by omega)
end Go.Proofs.YtldejkhemkjcgaaGreatDoor
namespace Go.Proofs.YtldejkhemkjcgaaGreatDoor
open Go.RowKit
theorem items_no1 {l : List Rw} {x y : Int} (h : rokB l = false) : itemsL l x y = [] := by simp [itemsL, h]
theorem items_no2 {l : List Rw} {x y : Int} (h : okB x y = false) : itemsL l x y = [] := by simp [itemsL, h]
theorem items_yes {l : List Rw} {x y : Int} (h : rokB l = true) (h' : okB x y = true) : itemsL l x y = sumL ltT (atL l x y) := by simp [itemsL, h, h']
theorem atL_len (l : List Rw) (x y : Int) : (atL l x y).length ≤ l.length := by
  unfold atL; rw [List.length_map]; exact List.length_filter_le _ _
theorem atL_yes {l : List Rw} {x y : Int} {k : Nat} {K V A B D : Int} (h : l[k]? = some (((K, V), (A, B)), D)) (hl : leB A B x y = true) : atL (l.take (k + 1)) x y = atL (l.take k) x y ++ [((K, V), D)] := by
  unfold atL; rw [take_snoc h, List.filter_append, List.map_append]; simp [hl]
theorem atL_no {l : List Rw} {x y : Int} {k : Nat} {K V A B D : Int} (h : l[k]? = some (((K, V), (A, B)), D)) (hl : leB A B x y = false) : atL (l.take (k + 1)) x y = atL (l.take k) x y := by
  unfold atL; rw [take_snoc h, List.filter_append, List.map_append]; simp [hl]
theorem atL_abs {l : List Rw} {x y : Int} : absum (atL l x y) ≤ absum l := by
  unfold atL
  induction l with
  | nil => simp [absum]
  | cons r l ih =>
    rw [List.filter_cons]
    split
    · simp only [List.map_cons, absum]; omega
    · simp only [absum]; omega
theorem specTimeOk_eq {a b : Int} {r : Bool} (h : okB a b = r) (w : World) : Calls Tryz.prog 29 #[tv a b] w fun e w' => e = .returned (.bool r) ∧ Below w.heap.size w w' := by
  rw [← h]; exact specOk_any a b w
theorem bAllocT {B : Nat} {a w : World} (h : Below B a w) (hB : B ≤ w.heap.size) (o : Obj) : Below B a (w.alloc o) :=
  h.trans ⟨rfl, rfl, rfl, by simp, fun k hk => Below.heap_alloc _ _ _ (by omega)⟩
set_option maxRecDepth 100000 in
set_option maxHeartbeats 4000000 in
theorem specAt_any (v : Value) (l : List Rw) (x y : Int) (w : World) (h : Rs w v l) :
    Calls Tryz.prog 114 #[v, tv x y] w fun e w' => ∃ o : Value, e = .returned o ∧ OwnI w' w.heap.size o (itemsL l x y) ∧ Below w.heap.size w w' := by
  have bt0 : Bk ((w.alloc (.cells #[.int .i64 x, .int .i64 y] 41)).alloc (.cells #[] 63)) w.heap.size #[.int .i64 x, .int .i64 y] 41 := (Bk.new _ _ rfl).alloc _
  have hb0 := bAlloc (bAlloc (Below.refl w.heap.size w) (.cells #[.int .i64 x, .int .i64 y] 41)) (.cells #[] 63)
  have o0 : OwnI ((w.alloc (.cells #[.int .i64 x, .int .i64 y] 41)).alloc (.cells #[] 63)) w.heap.size (.slice (some ⟨w.heap.size + 1, 0, none⟩) 0 0) [] := own_less (ownI_empty (w.alloc (.cells #[.int .i64 x, .int .i64 y] 41)) (B := w.heap.size + 1) (by simp)) (by omega)
  have h0 := h.keep hb0
  cases hk : rokB l
  · have HF : Hid (itemsL l x y = []) := items_no1 hk
    go_enter Tryz.func114, Tryz.ntmps114
    go_wp2_with fail
    refine (specRowsOk_eq hk h0).mono ?_
    rintro e w1 ⟨rfl, hb1⟩
    have O1 : Hid (OwnI w1 w.heap.size (.slice (some ⟨w.heap.size + 1, 0, none⟩) 0 0) []) := own_keep o0 hb1
    clear o0 bt0
    go_wp2_with fail
    go_ret
    refine ⟨_, rfl, ?_, bStep hb0 hb1⟩
    rw [HF.out]
    exact O1.out
  cases hk' : okB x y
  · have HF : Hid (itemsL l x y = []) := items_no2 hk'
    go_enter Tryz.func114, Tryz.ntmps114
    go_wp2_with fail
    refine (specRowsOk_eq hk h0).mono ?_
    rintro e w1 ⟨rfl, hb1⟩
    have hbw1 := bStep hb0 hb1
    have O1 : Hid (OwnI w1 w.heap.size (.slice (some ⟨w.heap.size + 1, 0, none⟩) 0 0) []) := own_keep o0 hb1
    obtain ⟨t0, t1, _, _⟩ := (bt0.keep hb1).two
    clear o0 bt0
    go_wp2_with fail
    refine (specTimeOk_eq hk' _).mono ?_
    rintro e w2 ⟨rfl, hb2⟩
    have O2 : Hid (OwnI w2 w.heap.size (.slice (some ⟨w.heap.size + 1, 0, none⟩) 0 0) []) := own_keep O1.out hb2
    go_wp2_with fail
    go_ret
    refine ⟨_, rfl, ?_, bStep hbw1 hb2⟩
    rw [HF.out]
    exact O2.out
  have HF : Hid (itemsL l x y = sumL ltT (atL l x y)) := items_yes hk hk'
  have ha := rok_abs hk
  have hna := atL_abs (l := l) (x := x) (y := y)
  have hl := rok_len hk
  have hal := atL_len l x y
  have o0 := ownI_empty (w.alloc (.cells #[.int .i64 x, .int .i64 y] 41)) (B := w.heap.size + 1) (by simp)
  have hsz0 : ((w.alloc (.cells #[.int .i64 x, .int .i64 y] 41)).alloc (.cells #[] 63)).heap.size = w.heap.size + 1 + 1 := by simp
  obtain ⟨a, cap, rfl, hc, hm, hn, hcells⟩ := Rs.open h
  unfold maxLen at hm
  have HC := (show Hid _ from hcells)
  clear h hcells
  go_enter Tryz.func114, Tryz.ntmps114
  go_wp2_with fail
  generalize ((w.alloc (.cells #[.int .i64 x, .int .i64 y] 41)).alloc (.cells #[] 63)) = w0 at *
  refine (specRowsOk_eq hk h0).mono ?_
  rintro e w1 ⟨rfl, hb1⟩
  have hbw1 := bStep hb0 hb1
  have o1 := own_keep o0 hb1
  have bt1 := bt0.keep hb1
  have hs1 := hb1.size
  obtain ⟨t0, t1, _, _⟩ := bt1.two
  clear o0 bt0 hb0 hb1 h0
  go_wp2_with fail
  refine (specTimeOk_eq hk' _).mono ?_
  rintro e w2 ⟨rfl, hb2⟩
  have hbw2 := bStep hbw1 hb2
  have o2 := own_keep o1 hb2
  have bt2 := bt1.keep hb2
  have hs2 := hb2.size
  clear o1 bt1 hbw1 hb2 t0 t1
  generalize htb : w.heap.size = tb at *
  go_wp2_with fail
  go_loopw [5, 6] (fun o i wr => ∃ k : Nat, k ≤ l.length ∧ i = .int .i64 k ∧ OwnI wr (tb + 1) o (atL (l.take k) x y) ∧ Bk wr tb #[.int .i64 x, .int .i64 y] 41 ∧ tb + 1 ≤ wr.heap.size ∧ Below tb w wr) (fun _ i _ => l.length - (intOf i).toNat)
  case atStart => exact ⟨0, by omega, rfl, o2, bt2, by omega, hbw2⟩
  case round =>
    clear o2 bt2 hbw2
    obtain ⟨k, hkl, rfl, hown, bt, hsz, hb⟩ := hrel
    have HO : Hid (OwnI wr (tb + 1) u5 (atL (l.take k) x y)) := hown
    clear hown
    by_cases hlt : k < l.length
    · obtain ⟨g, off, K, V, A, B, D, rfl, hg, hr, c0, c1, c2, c3, c4⟩ := HC.out k hlt
      have HR := (show Hid _ from hr)
      have hb' : Below w.heap.size w wr := by rw [htb]; exact hb
      have d2 : ∀ p : Bel wr, p.ww.cell? ⟨g, off + k * 5 + 2, none⟩ = some (.int .i64 A) := fun p => cell_below p.below (cell_below hb' c2)
      have d3 : ∀ p : Bel wr, p.ww.cell? ⟨g, off + k * 5 + 3, none⟩ = some (.int .i64 B) := fun p => cell_below p.below (cell_below hb' c3)
      have t0 := bt.bel0
      have t1 := bt.bel1
      have hne := bel_some wr
      have HX : Hid (∀ W, Below tb w W → W.cell? ⟨g, off + k * 5, none⟩ = some (.int .i64 K) ∧ W.cell? ⟨g, off + k * 5 + 1, none⟩ = some (.int .i64 V) ∧ W.cell? ⟨g, off + k * 5 + 4, none⟩ = some (.int .i64 D)) :=
        fun W hW => by rw [← htb] at hW; exact ⟨cell_below hW c0, cell_below hW c1, cell_below hW c4⟩
      have hL : (atL (l.take k) x y).length ≤ 400 := by have := atL_len (l.take k) x y; simp at this; omega
      have ik : ((k : Int) < (l.length : Int)) := by omega
      clear c0 c1 c2 c3 c4 hr hb'
      cases hp : leB A B x y
      · have HZ : Hid (atL (l.take (k + 1)) x y = atL (l.take k) x y) := atL_no HR.out hp
        go_wp2_with fail
        (refine wp_region_bel (by kernel_rfl) (by kernel_rfl) ?_; (repeat (go_big_quiet_step ((first | (go_at_call 108; exact calls_bel (specLess_eq (by with_reducible assumption) _)))))); refine wpQuiet_nil ?_)
        intro w3 hw3
        replace hw3 := bel_out hw3
        have hb3 := hb.trans (hw3.mono (by omega))
        have hs3 := hw3.size
        have bt3 := bt.keep hw3
        have O3 : Hid (OwnI w3 (tb + 1) u5 (atL (l.take k) x y)) := own_keep HO.out hw3
        clear HO bt d2 d3 t0 t1 hne
        go_wp2_with fail
        go_roundw
        case rel => exact ⟨k + 1, by omega, by go_num, by rw [HZ.out]; exact O3.out, bt3, by omega, hb3⟩
        case measure => simp [intOf]; omega
      · have HZ : Hid (atL (l.take (k + 1)) x y = atL (l.take k) x y ++ [((K, V), D)]) := atL_yes HR.out hp
        go_wp2_with fail
        (refine wp_region_bel (by kernel_rfl) (by kernel_rfl) ?_; (repeat (go_big_quiet_step ((first | (go_at_call 108; exact calls_bel (specLess_eq (by with_reducible assumption) _)))))); refine wpQuiet_nil ?_)
        intro w3 hw3
        replace hw3 := bel_out hw3
        have hb3 := hb.trans (hw3.mono (by omega))
        have hs3 := hw3.size
        have bt3 := bt.keep hw3
        have O3 : OwnI w3 (tb + 1) u5 (atL (l.take k) x y) := own_keep HO.out hw3
        obtain ⟨x0, x1, x4⟩ := HX.out w3 hb3
        have hB3 : tb ≤ w3.heap.size := by omega
        clear HO bt d2 d3 t0 t1 hne hb hw3
        generalize atL (l.take k) x y = L at *
        go_wp2_with fail
        go_region_held3 (fun w' => w'.cell? ⟨g, off + k * 5, none⟩ = some (.int .i64 K) ∧ w'.cell? ⟨g, off + k * 5 + 1, none⟩ = some (.int .i64 V) ∧ w'.cell? ⟨g, off + k * 5 + 4, none⟩ = some (.int .i64 D))
          (first | exact HX.out _ hb3.drew | exact HX.out _ (bAllocT hb3 hB3 _).drew | exact HX.out _ hb7)
          (first
            | (refine stepI _ (by rfl) _ _ (by rfl) (tb + 1) _ L (by rfl) ((O3.alloc _).drew) _ K V D (by rfl) ((Bk.new _ _ rfl).drew) (by omega) (by simp; omega) ?_; intro g7 cap7 w7 own7 hgrow hlg; have hb7 : Below tb w w7 := Below.grew (bAllocT hb3 hB3 _).drew hgrow (by simp; omega) (fun q e => Nat.le_of_succ_le (ownK_base O3 q e))))
        have bt7 := Bk.grew ((bt3.alloc _).drew) hgrow (fun q e => by have := ownK_base O3 q e; omega)
        have hs7 : tb + 1 ≤ w7.heap.size := by have := hgrow.size; simp at this; omega
        go_wp2_with fail
        go_roundw
        case rel =>
          refine ⟨k + 1, by omega, by go_num, ?_, bt7, hs7, hb7⟩
          rw [HZ.out]; exact own7
        case measure => simp [intOf]; omega
    · obtain rfl : k = l.length := by omega
      have O1 : Hid (OwnI wr (tb + 1) u5 (atL l x y)) := by have := HO.out; rw [List.take_length] at this; exact this
      have R1 : Is wr u5 (atL l x y) := OwnI.is O1.out (by omega)
      clear HO
      go_wp2_with fail
      refine (l2Items_any _ (atL l x y) _ R1 (by omega) (by omega)).mono ?_
      rintro e w3 ⟨o3, rfl, own3, hb3⟩
      have O3 : Hid (OwnI w3 wr.heap.size o3 (sumL ltT (atL l x y))) := own3
      clear own3
      go_wp2_with fail
      go_ret
      refine ⟨_, rfl, ?_, by rw [htb]; exact hb.trans (hb3.mono (by omega))⟩
      rw [HF.out]
      exact own_less O3.out (by omega)
end Go.Proofs.YtldejkhemkjcgaaGreatDoor
namespace Go.Proofs.YtldejkhemkjcgaaGreatDoor
open Go.RowKit
open Go.ChangeMaps (setBlock)
set_option maxRecDepth 100000 in
set_option maxHeartbeats 8000000 in
theorem itemsOf_any (b : Nat) (M : List It) (w : World) (hmap : MapIs thV thOk w b M) (hMl : M.length ≤ 1000000) :
    Calls Tryz.prog 54 #[.map (some b)] w fun e w' => ∃ o : Value, e = .returned o ∧ OwnI w' w.heap.size o (sumL ltT M) ∧ Below w.heap.size w w' := by
  have hmt := hmap.lt
  go_enter Tryz.func54, Tryz.ntmps54
  go_wp2_with (at_range; refine wp_range _ rfl _ _ rfl _ _ Tryz.underlying77 _ M rfl hmap ?_; intro w0 hrg hb0 hs0)
  go_frame
  clear hmap
  go_loopw [3] (fun o wr => ∃ (done left L : List It), Ranging thV thOk wr b w.heap.size M left ∧ M.Perm (done ++ left) ∧ L.Perm (done.filter fun r => decide (r.2 ≠ 0)) ∧ OwnI wr (w.heap.size + 1) o L ∧ w.heap.size + 1 ≤ wr.heap.size ∧ Below w.heap.size w wr) (fun _ wr => leftN wr b w.heap.size)
  case atStart => exact ⟨[], M, [], hrg, by simp, by simp, ownK_nil _ _ _ _ _, by omega, hb0⟩
  case round =>
    clear hrg hb0 hs0
    obtain ⟨done, left, L, hrg, hpm, hpl, hown, hsz, hb⟩ := hrel
    have HPM := (show Hid _ from hpm)
    have HPL := (show Hid _ from hpl)
    have HO : Hid (OwnI wr (w.heap.size + 1) u3 L) := hown
    have hcnt := hrg.count
    have hLM : L.length ≤ M.length := by
      have h1 := hpl.length_eq
      have h2 := List.length_filter_le (fun r : It => decide (r.2 ≠ 0)) done
      have h3 := hpm.length_eq
      simp at h3
      omega
    have hM := (show Hid _ from hrg.nodup)
    clear hpm hpl hown
    go_wp2_with (at_next; refine wp_next _ rfl _ rfl _ _ M left rfl hrg ?_ ?_)
    · intro hz
      subst hz
      have O1 : OwnI wr (w.heap.size + 1) u3 L := HO.out
      have hdone : L.Perm (M.filter fun r => decide (r.2 ≠ 0)) := by
        have h1 := HPM.out
        rw [List.append_nil] at h1
        exact HPL.out.trans (h1.filter _).symm
      have HD := (show Hid _ from hdone)
      clear hdone HO HPM HPL hcnt
      have hll : L.length ≤ 2097152 := by omega
      go_wp2_with fail
      refine (sortI_any O1 hll hsz).mono ?_
      rintro e w2 ⟨rfl, l', hp, hsrt, own2, hb2⟩
      have hfin : l' = sumL ltT M := collected ltT_ord hM.out (fun _ => rfl) HD.out hp hsrt
      have hbw : Below w.heap.size w w2 := hb.trans (hb2.mono (by omega))
      have O2 : Hid (OwnI w2 (w.heap.size + 1) u3 l') := own2
      clear own2 hp hsrt O1
      go_wp2_with fail
      go_ret
      refine ⟨_, rfl, ?_, hbw⟩
      rw [← hfin]
      exact own_less O2.out (by omega)
    · intro K V D left' w1 hp hrg1 hen hx hs1 hl1
      have O1 : OwnI w1 (w.heap.size + 1) u3 L := ownK_beside HO.out hx (fun q e => by have := ownK_base HO.out q e; omega)
      have hb1 : Below w.heap.size w w1 := hx.below hb hb.size (by omega)
      have hsz1 : w.heap.size + 1 ≤ w1.heap.size := by omega
      have hcnt1 := hrg1.count
      clear hx hrg hb HO hs1
      by_cases hD : D = 0
      · subst hD
        have HZ := (show Hid _ from collect_no HPM.out hp HPL.out rfl)
        have hrg2 := hrg1.keep (bAlloc (Below.refl _ w1) (.cells #[.int .i64 K, .int .i64 V] 82))
        have O2 : Hid (OwnI (w1.alloc (.cells #[.int .i64 K, .int .i64 V] 82)) (w.heap.size + 1) u3 L) := O1.alloc _
        clear O1 HPM HPL hp
        go_wp2_with fail
        go_roundw
        case rel => exact ⟨_, left', L, hrg2, HZ.out.1, HZ.out.2, O2.out, by simp; omega, bAlloc hb1 _⟩
        case measure => rw [hrg2.count]; omega
      · have nD : (D == 0) = false := by simpa using hD
        have HZ := (show Hid _ from collect_yes HPM.out hp HPL.out hD)
        clear HPM HPL hp
        go_wp2_with (at_builtin; refine appI _ rfl _ _ rfl (w.heap.size + 1) _ _ rfl ((O1.alloc _).alloc _) _ _ _ _ rfl (Bk.new _ _ (by simp)) (by omega) (by simp; omega) ?_; intro g3 cap3 w3 own3 hgrow hlg)
        have hrg3 := (hrg1.keep (bAlloc (bAlloc (Below.refl _ w1) (.cells #[.int .i64 K, .int .i64 V] 82)) (.cells #[.int .i64 K, .int .i64 V, .int .i64 D] 63))).grew hgrow (fun q e => by have := ownK_base O1 q e; omega)
        have hb3 : Below w.heap.size w w3 := Below.grew (bAlloc (bAlloc hb1 _) _) hgrow (by simp; omega) (fun q e => by have := ownK_base O1 q e; omega)
        have hs3 : w.heap.size + 1 ≤ w3.heap.size := by have := hgrow.size; simp at this; omega
        go_roundw
        case rel => exact ⟨_, left', L ++ [((K, V), D)], hrg3, HZ.out.1, HZ.out.2, own3, hs3, hb3⟩
        case measure => rw [hrg3.count]; omega
end Go.Proofs.YtldejkhemkjcgaaGreatDoor
namespace Go.Proofs.YtldejkhemkjcgaaGreatDoor
open Go.RowKit Go.Shelf
open Go.ChangeMaps (setBlock)
attribute [local go_sem] Oper.semAt_some
structure Kx (N mb : Nat) (W W' : World) : Prop where
  size : W.heap.size ≤ W'.heap.size
  block : ∀ k, k < N → k ≠ mb → W'.heap[k]? = W.heap[k]?
theorem Kx.refl (N mb : Nat) (W : World) : Kx N mb W W := ⟨Nat.le_refl _, fun _ _ _ => rfl⟩
theorem Kx.trans {N mb : Nat} {A B C : World} (h : Kx N mb A B) (k : Kx N mb B C) : Kx N mb A C := ⟨Nat.le_trans h.size k.size, fun i hi hm => (k.block i hi hm).trans (h.block i hi hm)⟩
theorem Kx.bk {N mb : Nat} {W W' : World} {k : Nat} {c : Array Value} {t : TypeId} (h : Kx N mb W W') (hb : Bk W k c t) (hk : k < N) (hm : k ≠ mb) : Bk W' k c t := by
  unfold Bk; rw [h.block k hk hm]; exact hb
end Go.Proofs.YtldejkhemkjcgaaGreatDoor
namespace Go.Proofs.YtldejkhemkjcgaaGreatDoor
open Go.RowKit Go.Shelf
open Go.ChangeMaps (setBlock)
attribute [local go_sem] Oper.semAt_some
theorem Kx.put {N mb : Nat} (W : World) (l : Nat) (o o' : Obj) (hN : N ≤ l) (h : W.heap[l]? = some o) : Kx N mb W (W.putObj l o') := by
  have hg := grownBy_putObj' W l o'
  exact ⟨hg.size, fun k hk _ => hg.block k (by have := (Array.getElem?_eq_some_iff.1 h).1; omega) (fun e => by cases e; omega)⟩
theorem MapIs.grown {κ : Type} {ek : κ → Value} {ok : κ → Prop} {w w1 : World} {b : Nat} {M : List (κ × Int)} {row : Option Nat} (h : MapIs ek ok w b M) (hg : w.grownBy w1 row) (hr : ∀ r, row = some r → b < r) : MapIs ek ok w1 b M :=
  h.move (hg.block b h.lt (fun e => by have := hr b e.symm; omega))
theorem setBlock_at {W : World} {b k : Nat} {o : Obj} (h : k ≠ b) : (setBlock W b o).heap[k]? = W.heap[k]? := by
  simp only [setBlock, Array.getElem?_setIfInBounds]; rw [if_neg (Ne.symm h)]
end Go.Proofs.YtldejkhemkjcgaaGreatDoor
namespace Go.Proofs.YtldejkhemkjcgaaGreatDoor
open Go.RowKit
end Go.Proofs.YtldejkhemkjcgaaGreatDoor
