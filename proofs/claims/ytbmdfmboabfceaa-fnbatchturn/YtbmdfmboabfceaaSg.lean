/- BatchAt of the model: the contract. -/
import Derived.Test.YtbmdfmboabfceaaBa12
import Derived.Test.YtbmdfmboabfceaaBi0
import Derived.Test.YtbmdfmboabfceaaFr7
import Derived.Deep.RegionHeld3
namespace Go.Proofs.Ytbmdfmboabfceaa
open Go.RowKit

def upR (r : It) : Rw := ((r.1, (0, 0)), r.2)
def dnR (r : Rw) : It := (r.1.1, r.2)
theorem up_tot (l : List It) (s : Int × Int) : tot (l.map upR) (s, (0, 0)) = tot l s := by
  induction l with
  | nil => rfl
  | cons r l ih =>
    simp only [List.map_cons, tot, ih]
    congr 1
    simp [upR]
theorem dn_tot {l : List Rw} (h : ∀ r ∈ l, r.1.2 = (0, 0)) (s : Int × Int) : tot (l.map dnR) s = tot l (s, (0, 0)) := by
  induction l with
  | nil => rfl
  | cons r l ih =>
    simp only [List.map_cons, tot, ih (fun q hq => h q (by simp [hq]))]
    congr 1
    have h1 := h r (by simp)
    have : (r.1 = (s, ((0 : Int), (0 : Int)))) ↔ r.1.1 = s := by
      constructor
      · intro e; rw [e]
      · intro e; exact Prod.ext e h1
    by_cases e : r.1.1 = s
    · rw [if_pos (show (dnR r).1 = s from e), if_pos (this.2 e)]; rfl
    · rw [if_neg (show ¬ (dnR r).1 = s from e), if_neg (fun h => e (this.1 h))]
theorem sum_zero {l : List It} {r : Rw} (h : r ∈ sumL ltS (l.map upR)) : r.1.2 = (0, 0) := by
  obtain ⟨h1, h2⟩ := (srt_mem ltS_ord (sumL_srt ltS_ord _) (sumL_nz ltS _) r).1 h
  rw [sumL_tot ltS_ord] at h2
  refine Classical.byContradiction fun hn => h1 ?_
  rw [← h2]
  refine tot_of_not fun q hq e => hn ?_
  obtain ⟨x, _, rfl⟩ := List.mem_map.1 hq
  rw [← e]; rfl
theorem sum_items (l : List It) : (sumL ltS (l.map upR)).map dnR = sumL ltT l := by
  refine sumL_uniq ltT_ord ?_ ?_ ?_
  · unfold Srt
    rw [List.pairwise_map]
    have h0 := sumL_srt ltS_ord (l.map upR)
    unfold Srt at h0
    refine List.Pairwise.imp_of_mem ?_ h0
    intro p q hp hq h
    have e1 := sum_zero hp
    have e2 := sum_zero hq
    rw [ltS, e1, e2] at h
    show ltT p.1.1 q.1.1 = true
    simpa [ltT] using h
  · intro r hr
    obtain ⟨q, hq, rfl⟩ := List.mem_map.1 hr
    exact sumL_nz ltS _ q hq
  · intro s
    rw [dn_tot (fun r hr => sum_zero hr), sumL_tot ltS_ord, up_tot]
theorem up_abs (l : List It) : absum (l.map upR) = absum l := by
  induction l with
  | nil => rfl
  | cons r l ih => simp only [List.map_cons, absum, ih]; rfl
theorem up_snoc {l : List It} {k : Nat} {K V D : Int} (h : l[k]? = some ((K, V), D)) : (l.take (k + 1)).map upR = (l.take k).map upR ++ [(((K, V), (0, 0)), D)] := by
  rw [take_snoc h, List.map_append]; rfl
theorem dn_snoc {l : List Rw} {k : Nat} {K V A B D : Int} (h : l[k]? = some (((K, V), (A, B)), D)) : (l.take (k + 1)).map dnR = (l.take k).map dnR ++ [((K, V), D)] := by
  rw [take_snoc h, List.map_append]; rfl
section
variable {ops : Array Oper} {o : Oper} {a : Act} {Kk : Act → World → Prop} {Q : Exit → Act → World → Prop} {E : Prop}
theorem stepR (w : World) (hgd : o.guard = none) (s x : Operand) (ho : o.op = .call { callee := .builtin .append, args := #[s, x], argTypes := #[23, 23] })
    (base : Nat) (v : Value) (l : List Rw) (hs : a.eval s = v) (hown : OwnR w base v l) (g0 : Nat) (K V A B D : Int) (hx : a.eval x = .slice (some ⟨g0, 0, none⟩) 1 1)
    (hc : Bk w g0 #[.int .i64 K, .int .i64 V, .int .i64 A, .int .i64 B, .int .i64 D] 33) (hl : l.length ≤ 2000000) (hbase : base ≤ w.heap.size)
    (h : ∀ g cap w', OwnR w' base (.slice (some ⟨g, 0, none⟩) (l.length + 1) cap) (l ++ [(((K, V), (A, B)), D)]) → w.grownBy w' v.ownBlock → g < w'.heap.size → Kk (a.put o.dst (.slice (some ⟨g, 0, none⟩) (l.length + 1) cap)) w') :
    if Region.wanted o (yielded ops a.tmps) = true then Oper.wp Try.prog o a w Kk Q else E := by
  obtain ⟨i0, hi, hz0, hz1, hz2⟩ := info_parts infoR
  refine step_append_lies w hgd s x 23 ho base 33 i0 _ 5 40 Try.underlying23 hi hz0 hz1 hz2 rfl (by decide) v l.length (l.flatMap rowC) hs hown ⟨g0, 0, none⟩ 1 1 (rowC (((K, V), (A, B)), D)) hx rfl (newsL hc) (onesR _) (by omega) (by unfold maxLen; omega) (by omega) hbase w.heap.size rfl ?_
  intro g cap w' h1 h2 _ h4
  refine h g cap w' ?_ h2 h4
  show w'.ownsRow _ _ _ _ _ _
  rw [List.flatMap_append]; simpa using h1
theorem stepI (w : World) (hgd : o.guard = none) (s x : Operand) (ho : o.op = .call { callee := .builtin .append, args := #[s, x], argTypes := #[40, 40] })
    (base : Nat) (v : Value) (l : List It) (hs : a.eval s = v) (hown : OwnI w base v l) (g0 : Nat) (K V D : Int) (hx : a.eval x = .slice (some ⟨g0, 0, none⟩) 1 1)
    (hc : Bk w g0 #[.int .i64 K, .int .i64 V, .int .i64 D] 64) (hl : l.length ≤ 2000000) (hbase : base ≤ w.heap.size)
    (h : ∀ g cap w', OwnI w' base (.slice (some ⟨g, 0, none⟩) (l.length + 1) cap) (l ++ [((K, V), D)]) → w.grownBy w' v.ownBlock → g < w'.heap.size → Kk (a.put o.dst (.slice (some ⟨g, 0, none⟩) (l.length + 1) cap)) w') :
    if Region.wanted o (yielded ops a.tmps) = true then Oper.wp Try.prog o a w Kk Q else E := by
  obtain ⟨i0, hi, hz0, hz1, hz2⟩ := info_parts infoI
  refine step_append_lies w hgd s x 40 ho base 64 i0 _ 3 24 Try.underlying40 hi hz0 hz1 hz2 rfl (by decide) v l.length (l.flatMap itC) hs hown ⟨g0, 0, none⟩ 1 1 (itC ((K, V), D)) hx rfl (newsL hc) (onesI _) (by omega) (by unfold maxLen; omega) (by omega) hbase w.heap.size rfl ?_
  intro g cap w' h1 h2 _ h4
  refine h g cap w' ?_ h2 h4
  show w'.ownsRow _ _ _ _ _ _
  rw [List.flatMap_append]; simpa using h1
end
set_option maxRecDepth 100000 in
set_option maxHeartbeats 4000000 in
theorem l2Items_any (v : Value) (l : List It) (w : World) (h : Is w v l) (hl : l.length ≤ 1000000) (ha : absum l ≤ 2305843009213693952) :
    Calls Try.prog 130 #[v] w fun e w' => ∃ o : Value, e = .returned o ∧ OwnI w' w.heap.size o (sumL ltT l) ∧ Below w.heap.size w w' := by
  have o0 := ownR_empty w rfl
  have hb0 := bAlloc (Below.refl w.heap.size w) (.cells #[] 33)
  have HE : Hid ((sumL ltS (l.map upR)).map dnR = sumL ltT l) := sum_items l
  have hua := up_abs l
  have hul : (l.map upR).length = l.length := by simp
  have hsl := sumL_len ltS (l.map upR)
  obtain ⟨a, cap, rfl, hc, hm, hn, hcells⟩ := Is.open h
  unfold maxLen at hm
  have HC := (show Hid _ from hcells)
  clear hcells h
  go_enter Try.func130, Try.ntmps130
  go_wp2_with fail
  go_loopw [3, 4] (fun o i wr => ∃ k : Nat, k ≤ l.length ∧ i = .int .i64 k ∧ OwnR wr w.heap.size o ((l.take k).map upR) ∧ Below w.heap.size w wr) (fun _ i _ => l.length - (intOf i).toNat)
  case atStart => exact ⟨0, by omega, rfl, o0, hb0⟩
  case round =>
    clear o0 hb0
    obtain ⟨k, hkl, rfl, hown, hb⟩ := hrel
    have HO : Hid (OwnR wr w.heap.size u3 ((l.take k).map upR)) := hown
    clear hown
    by_cases hlt : k < l.length
    · obtain ⟨g, off, K, V, D, rfl, hg, hr, c0, c1, c2⟩ := HC.out k hlt
      have HZ := (show Hid _ from up_snoc hr)
      have d0 := cell_below hb c0
      have d1 := cell_below hb c1
      have d2 := cell_below hb c2
      have hL : ((l.take k).map upR).length ≤ 1000000 := by simp; omega
      have O1 : OwnR wr w.heap.size u3 ((l.take k).map upR) := HO.out
      have hs1 := hb.size
      have C0 := (show Hid _ from c0)
      have C1 := (show Hid _ from c1)
      have C2 := (show Hid _ from c2)
      clear c0 c1 c2 hr HO
      generalize (l.take k).map upR = L at *
      have HX : Hid (∀ W, Below w.heap.size w W → W.cell? ⟨g, off + k * 3, none⟩ = some (.int .i64 K) ∧ W.cell? ⟨g, off + k * 3 + 1, none⟩ = some (.int .i64 V) ∧ W.cell? ⟨g, off + k * 3 + 2, none⟩ = some (.int .i64 D)) :=
        fun W hW => ⟨cell_below hW C0.out, cell_below hW C1.out, cell_below hW C2.out⟩
      clear C0 C1 C2
      go_wp2_with fail
      go_region_held3 (fun w' => w'.cell? ⟨g, off + k * 3, none⟩ = some (.int .i64 K) ∧ w'.cell? ⟨g, off + k * 3 + 1, none⟩ = some (.int .i64 V) ∧ w'.cell? ⟨g, off + k * 3 + 2, none⟩ = some (.int .i64 D))
        (first | exact HX.out _ hb.drew | exact HX.out _ (bAlloc hb _).drew | exact HX.out _ (bAlloc hb.drew _) | exact HX.out _ hb7)
        (first
          | (refine stepR _ (by rfl) _ _ (by rfl) w.heap.size _ L (by rfl) ((O1.alloc _).drew) _ K V 0 0 D (by rfl) ((Bk.new _ _ rfl).drew) (by omega) (by simp; omega) ?_; intro g7 cap7 w7 own7 hgrow hlg; have hb7 : Below w.heap.size w w7 := Below.grew (bAlloc hb _).drew hgrow (by simp; omega) (ownK_base O1)))
      go_wp2_with fail
      go_roundw
      case rel =>
        refine ⟨k + 1, by omega, by go_num, ?_, hb7⟩
        rw [HZ.out]; exact own7
      case measure => simp [intOf]; omega
    · obtain rfl : k = l.length := by omega
      have O1 : Hid (OwnR wr w.heap.size u3 (l.map upR)) := by have := HO.out; rw [List.take_length] at this; exact this
      have R1 : Rs wr u3 (l.map upR) := OwnR.rs O1.out (by omega)
      have hs1 := hb.size
      clear HO HC
      go_wp2_with fail
      refine (l2Sum_any _ (l.map upR) _ R1 (by omega) (by omega)).mono ?_
      rintro e w2 ⟨o2, rfl, own2, hb2⟩
      have hs2 := hb2.size
      have hbw2 := bStep hb hb2
      have R2 := OwnR.rs own2 (by omega)
      clear own2 O1 R1 hb hb2
      obtain ⟨a2, cap2, rfl, hc2, hm2, hn2, hcells2⟩ := Rs.open R2
      unfold maxLen at hm2
      have HC2 := (show Hid _ from hcells2)
      have oI := ownI_empty w2 rfl
      have hbI := bAlloc hbw2 (.cells #[] 64)
      clear hcells2 R2
      generalize sumL ltS (l.map upR) = sm at *
      go_wp2_with fail
      go_loopw [6, 7] (fun o i wr => ∃ k : Nat, k ≤ sm.length ∧ i = .int .i64 k ∧ OwnI wr w2.heap.size o ((sm.take k).map dnR) ∧ Below w2.heap.size w2 wr) (fun _ i _ => sm.length - (intOf i).toNat)
      case atStart => exact ⟨0, by omega, rfl, oI, bAlloc (Below.refl _ _) _⟩
      case round =>
        clear oI hbI
        obtain ⟨k, hkl, rfl, hown, hb⟩ := hrel
        have HO : Hid (OwnI wr w2.heap.size u6 ((sm.take k).map dnR)) := hown
        clear hown
        by_cases hlt : k < sm.length
        · obtain ⟨g, off, K, V, A, B, D, rfl, hg, hr, c0, c1, c2, c3, c4⟩ := HC2.out k hlt
          have HZ := (show Hid _ from dn_snoc hr)
          have d0 := cell_below hb c0
          have d1 := cell_below hb c1
          have d4 := cell_below hb c4
          have hL : ((sm.take k).map dnR).length ≤ 1000000 := by simp; omega
          have O1 : OwnI wr w2.heap.size u6 ((sm.take k).map dnR) := HO.out
          have hs3 := hb.size
          have C0 := (show Hid _ from c0)
          have C1 := (show Hid _ from c1)
          have C4 := (show Hid _ from c4)
          clear c0 c1 c2 c3 c4 hr HO
          generalize (sm.take k).map dnR = L at *
          have HX : Hid (∀ W, Below w2.heap.size w2 W → W.cell? ⟨g, off + k * 5, none⟩ = some (.int .i64 K) ∧ W.cell? ⟨g, off + k * 5 + 1, none⟩ = some (.int .i64 V) ∧ W.cell? ⟨g, off + k * 5 + 4, none⟩ = some (.int .i64 D)) :=
            fun W hW => ⟨cell_below hW C0.out, cell_below hW C1.out, cell_below hW C4.out⟩
          clear C0 C1 C4
          go_wp2_with fail
          go_region_held3 (fun w' => w'.cell? ⟨g, off + k * 5, none⟩ = some (.int .i64 K) ∧ w'.cell? ⟨g, off + k * 5 + 1, none⟩ = some (.int .i64 V) ∧ w'.cell? ⟨g, off + k * 5 + 4, none⟩ = some (.int .i64 D))
            (first | exact HX.out _ hb.drew | exact HX.out _ (bAlloc hb _).drew | exact HX.out _ (bAlloc hb.drew _) | exact HX.out _ hb7)
            (first
              | (refine stepI _ (by rfl) _ _ (by rfl) w2.heap.size _ L (by rfl) ((O1.alloc _).drew) _ K V D (by rfl) ((Bk.new _ _ rfl).drew) (by omega) (by simp; omega) ?_; intro g7 cap7 w7 own7 hgrow hlg; have hb7 : Below w2.heap.size w2 w7 := Below.grew (bAlloc hb _).drew hgrow (by simp; omega) (ownK_base O1)))
          go_wp2_with fail
          go_roundw
          case rel =>
            refine ⟨k + 1, by omega, by go_num, ?_, hb7⟩
            rw [HZ.out]; exact own7
          case measure => simp [intOf]; omega
        · obtain rfl : k = sm.length := by omega
          have O1 : Hid (OwnI wr w2.heap.size u6 (sm.map dnR)) := by have := HO.out; rw [List.take_length] at this; exact this
          clear HO
          go_wp2_with fail
          go_ret
          refine ⟨_, rfl, ?_, bStep hbw2 hb⟩
          rw [← HE.out]
          exact own_less O1.out (by omega)
end Go.Proofs.Ytbmdfmboabfceaa
