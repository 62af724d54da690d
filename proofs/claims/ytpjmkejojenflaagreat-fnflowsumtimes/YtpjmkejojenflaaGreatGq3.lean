/- All times of rows and their joins, one by one: the steps. -/
import Derived.Test.YtpjmkejojenflaaGreatLk0
import Derived.Test.YtpjmkejojenflaaGreatGq2
import Derived.Test.YtpjmkejojenflaaGreatGj5
import Derived.Sort.QuietIn
/-! All times of rows and their joins, one by one: the steps. -/
namespace Go.Proofs.YtpjmkejojenflaaGreat
open Go.RowKit Go.Shelf
attribute [local go_sem] Oper.semAt_some

theorem newsT {W : World} {g : Nat} {X Y : Int} (h : Bk W g #[.int .i64 X, .int .i64 Y] 35) : ∀ j u, [Value.int .i64 X, Value.int .i64 Y][j]? = some u → W.cell? ((⟨g, 0, none⟩ : Addr).add j) = some u := by
  intro j u hj
  match j, hj with
  | 0, hj => simp at hj; subst hj; simpa [Addr.add] using h.two.1
  | 1, hj => simp at hj; subst hj; simpa [Addr.add] using h.two.2.1
theorem appT_run {W : World} {base : Nat} {v : Value} {l : List (Int × Int)} (st ty : TypeId) (hst : Tryz.prog.underlying st = some (.slice 35)) (hown : Own W base v l) (g0 : Nat) (X Y : Int) (hc : Bk W g0 #[.int .i64 X, .int .i64 Y] 35) (hl : l.length ≤ 2000000) (hbase : base ≤ W.heap.size) :
    ∃ g cap w', (Builtin.append_ #[st, st] ty #[v, .slice (some ⟨g0, 0, none⟩) 1 1]).run Tryz.prog W = .ok (.slice (some ⟨g, 0, none⟩) (l.length + 1) cap) w' ∧ Own w' base (.slice (some ⟨g, 0, none⟩) (l.length + 1) cap) (l ++ [(X, Y)]) ∧
      W.grownBy w' v.ownBlock ∧ (v.ownBlock = some g ∨ g = W.heap.size) ∧ g < w'.heap.size := by
  obtain ⟨i0, hi, hz0, hz1, hz2⟩ := info_parts infoT
  obtain ⟨g, cap, w', h1, h2, h3, h4, h5⟩ := run_append_lies (P := Tryz.prog) (w := W) st ty base 35 i0 _ 2 16 hst hi hz0 hz1 hz2 rfl (by decide) v l.length (cellsL l) hown ⟨g0, 0, none⟩ 1 1 [.int .i64 X, .int .i64 Y] rfl (newsT hc) (ones2 _ _) (by omega) (by unfold maxLen; omega) (by omega) hbase W.heap.size rfl
  refine ⟨g, cap, w', h1, ?_, h3, h4, h5⟩
  show w'.ownsRow _ _ _ _ _ _
  rw [cellsL_snoc]; simpa using h2
theorem hPop_at {hb : Nat} {l : List (Int × Int)} {w : World} {X Y : Int} (h : Hp w hb l) (hL : HeapLow l l.length 0) (h0 : 0 < l.length) (hl : l.length ≤ 1000000) (hg : gt l 0 = (X, Y)) :
    Calls Tryz.prog 97 #[hIf hb] w fun e w' => e = .returned (.iface 35 (tv X Y)) ∧ ∃ c : List (Int × Int), Hp w' hb c ∧ c.length + 1 = l.length ∧ (∀ x, x ∈ l ↔ x = (X, Y) ∨ x ∈ c) ∧ HeapLow c c.length 0 ∧ HF hb w w' := by
  have := hPop_any h hL h0 hl
  rw [hg] at this; exact this
def slLen : Value → Nat
  | .slice _ n _ => n
  | _ => 0
theorem own_slice {w : World} {B : Nat} {v : Value} {l : List (Int × Int)} (h : Own w B v l) : ∃ ad cap, v = .slice ad l.length cap := by
  rcases own_open h with ⟨rfl, rfl⟩ | ⟨g, cap, c, rfl, _⟩
  · exact ⟨_, _, rfl⟩
  · exact ⟨_, _, rfl⟩
/-- How the rounds of the iterator stand. -/
structure JtS (l : List Rw) (m hb : Nat) (J : List (Int × Int) → World → Prop) (p : Value) (n : Nat) (next : List (Int × Int)) (wr : World) : Prop where
  own : Own wr hb p ((jtimes l).take n)
  hp : Hp wr hb next
  low : HeapLow next next.length 0
  pt : PtI l n next
  le : next.length ≤ 400 + 64 * n
  dj : Dj hb m hb p.ownBlock wr
  jj : J ((jtimes l).take n) wr
theorem hf_cell {B hb : Nat} {w W wr : World} (hw : Below B w W) (hB : w.heap.size ≤ B) (hf : HF hb W wr) (hh : w.heap.size ≤ hb) (ha : arrOf W hb = none) {g i : Nat} {v : Value} (hc : w.cell? ⟨g, i, none⟩ = some v) : wr.cell? ⟨g, i, none⟩ = some v := by
  have hlt := lt_of_cell hc
  rw [World.cell?_of_block (w := w) ((hf.keep g (by have := hw.size; omega) (by omega) (by rw [ha]; simp)).trans (hw.block g (by omega)))]; exact hc
theorem own_cellsAt {w : World} {B : Nat} {v : Value} {l : List (Int × Int)} (h : Own w B v l) {i : Nat} (hi : i < l.length) : ∃ g cap, v = .slice (some ⟨g, 0, none⟩) l.length cap ∧ w.cell? ⟨g, i * 2, none⟩ = some (.int .i64 (gt l i).1) ∧ w.cell? ⟨g, i * 2 + 1, none⟩ = some (.int .i64 (gt l i).2) := by
  rcases own_open h with ⟨rfl, rfl⟩ | ⟨g, cap, c, rfl, _, hb, _, _, _, hf⟩
  · simp at hi
  · exact ⟨g, cap, rfl, hb.cell (hf i hi).1, hb.cell (hf i hi).2⟩
theorem JtS.meas {l : List Rw} {m hb : Nat} {J : List (Int × Int) → World → Prop} {p : Value} {n : Nat} {next : List (Int × Int)} {wr : World} (h : JtS l m hb J p n next wr) : (64 - slLen p) * 64 + slLen ((wr.cell? ⟨hb, 0, none⟩).getD (.int .i64 0)) = (64 - n) * 64 + next.length := by
  obtain ⟨ad, cp, e⟩ := own_slice h.own
  have hle := h.pt.le
  have htk : ((jtimes l).take n).length = n := by rw [List.length_take]; omega
  obtain ⟨v, hv1, hv2, _⟩ := h.hp
  obtain ⟨ad', cp', e'⟩ := own_slice hv2
  rw [e, hv1.cell (i := 0) (v := v) rfl, e', htk]; rfl
/-- One more time is told. -/
theorem jts_told {l : List Rw} {m hb n : Nat} {J : List (Int × Int) → World → Prop} {v u : Value} {next c c' : List (Int × Int)} {X Y : Int} {w w1 : World} (hP : PtI l n next) (hmm : (X, Y) ∈ next) (hmin : ∀ x ∈ next, leT (X, Y) x) (hn : n < (jtimes l).length) (he : gt (jtimes l) n = (X, Y)) (hle : next.length ≤ 400 + 64 * n) (hc : c.length + 1 = next.length ∧ (∀ x, x ∈ next ↔ x = (X, Y) ∨ x ∈ c))
    (hc' : c'.length = c.length + n) (hm' : ∀ x, x ∈ c' ↔ x ∈ c ∨ ∃ j, j < n ∧ x = jnT (gt (jtimes l) j) (X, Y)) (hlow : HeapLow c' c'.length 0) (hp : Hp w hb c') (hD : Dj hb m hb v.ownBlock w)
    (hJ : ∀ s A A', J s A → ItS hb m A A' → J s A') (hj : J ((jtimes l).take (n + 1)) w) (hg : w.grownBy w1 v.ownBlock) (hu : u.ownBlock = v.ownBlock ∨ (u.ownBlock = some w.heap.size ∧ w.heap.size < w1.heap.size)) (ho : Own w1 hb u ((jtimes l).take n ++ [(X, Y)])) : JtS l m hb J u (n + 1) c' w1 := by
  obtain ⟨k1, k2, k3, k4⟩ := hD.app hg hu
  have hT : (jtimes l).take (n + 1) = (jtimes l).take n ++ [(X, Y)] := by
    rw [List.take_add_one]
    congr 1
    rw [← he]; unfold gt
    simp [List.getD_eq_getElem?_getD, List.getElem?_eq_getElem hn]
  have hjl := jtimes_len l
  exact ⟨by rw [hT]; exact ho, hp.app k3 k4, hlow, hP.told hmm hmin hn he hc.2 hm', by omega, k2, hJ _ _ _ hj k1⟩
/-- How the pushes of a round stand. -/
structure JiS (l : List Rw) (m hb bt : Nat) (J : List (Int × Int) → World → Prop) (pv : Value) (n : Nat) (c : List (Int × Int)) (X Y : Int) (k : Nat) (c' : List (Int × Int)) (wr : World) : Prop where
  own : Own wr hb pv ((jtimes l).take n)
  hp : Hp wr hb c'
  low : HeapLow c' c'.length 0
  len : c'.length = c.length + k
  mem : ∀ x, x ∈ c' ↔ x ∈ c ∨ ∃ j, j < k ∧ x = jnT (gt (jtimes l) j) (X, Y)
  dj : Dj hb m hb pv.ownBlock wr
  jj : J ((jtimes l).take (n + 1)) wr
  bx : Bk wr bt #[.int .i64 X, .int .i64 Y] 35
  ba : arrOf wr hb ≠ some bt
  bh : bt ≠ hb
theorem JiS.step {l : List Rw} {m hb bt : Nat} {J : List (Int × Int) → World → Prop} {pv : Value} {n : Nat} {c : List (Int × Int)} {X Y : Int} {k : Nat} {c' c'' : List (Int × Int)} {wr w1 w2 : World} (h : JiS l m hb bt J pv n c X Y k c' wr) (hJ : ∀ s A A', J s A → ItS hb m A A' → J s A')
    (hb1 : Below wr.heap.size wr w1) (hF : HF hb w1 w2) (hp2 : Hp w2 hb c'') (hl : c''.length = c'.length + 1) (hm : ∀ x, x ∈ c'' ↔ x ∈ c' ∨ x = jnT (gt (jtimes l) k) (X, Y)) (hlow : HeapLow c'' c''.length 0) : JiS l m hb bt J pv n c X Y (k + 1) c'' w2 := by
  have D1 := h.dj.below hb1
  have ha : arrOf w1 hb ≠ some bt := by rw [arrOf_block (hb1.block hb h.dj.hw)]; exact h.ba
  have hbt := (h.bx.keep hb1).lt
  refine ⟨D1.ownHF hF (own_keep h.own hb1), hp2, hlow, by rw [hl, h.len]; omega, fun x => ?_, D1.hf hF, hJ _ _ _ (hJ _ _ _ h.jj (h.dj.itBelow hb1)) (D1.itHF hF), hF.bk (h.bx.keep hb1) h.bh ha, ?_, h.bh⟩
  · rw [hm, h.mem]
    constructor
    · rintro ((e | ⟨j, hj, e⟩) | e)
      · exact .inl e
      · exact .inr ⟨j, by omega, e⟩
      · exact .inr ⟨k, by omega, e⟩
    · rintro (e | ⟨j, hj, e⟩)
      · exact .inl (.inl e)
      · by_cases hq : j = k
        · subst hq; exact .inr e
        · exact .inl (.inr ⟨j, by omega, e⟩)
  · rcases hF.arr with e | ⟨q, e, h1, h2⟩
    · rw [e]; exact ha
    · rw [e]; intro e'; cases e'; omega
theorem own_name {w : World} {B m hb : Nat} {v : Value} {l : List (Int × Int)} (h : Own w B v l) (hD : Dj hb m hb v.ownBlock w) : ∃ pv, v = pv ∧ Own w B pv l ∧ Dj hb m hb pv.ownBlock w := ⟨v, rfl, h, hD⟩
theorem eq_pair {P : Int × Int} {X Y : Int} (h : P ≠ (X, Y)) : (P.1 == X) = false ∨ (P.1 = X ∧ (P.2 == Y) = false) := by
  by_cases h1 : P.1 = X
  · refine .inr ⟨h1, beq_eq_false_iff_ne.2 fun e => h (Prod.ext h1 e)⟩
  · exact .inl (beq_eq_false_iff_ne.2 h1)
/-- All told so far, and the next. -/
def PfJ (l : List Rw) (pre : List (Int × Int)) (t : Int × Int) : Prop := ∃ n, n < (jtimes l).length ∧ pre = (jtimes l).take n ∧ gt (jtimes l) n = t
set_option maxRecDepth 100000 in
set_option maxHeartbeats 8000000 in
theorem joined1_in (lp b1 m : Nat) (a : Option Addr) (cap : Nat) (l : List Rw) (J : List (Int × Int) → World → Prop) (W : World)
    (hJ : ∀ s A A', J s A → ItS W.heap.size m A A' → J s A')
    (hY : ∀ pre t W1, J pre W1 → pre.length < 64 → PfJ l pre t → YieldAt Fence.wide (3 - 1) Tryz.prog lp #[tv t.1 t.2] W1 fun e W' => e = .returned (.bool true) ∧ J (pre ++ [t]) W' ∧ KpA m W1 W')
    (hk : rokB l = true) (hRs : Rs W (.slice a l.length cap) l) (hb1 : Bk W b1 #[.slice a l.length cap] 23) (hm : m < W.heap.size) (ha : ∀ q, arrOf W m = some q → q < W.heap.size) (h0 : J [] W) :
    CallsIn Fence.wide 3 Tryz.prog 95 #[.func (.yield lp) #[] #[], .pointer (some ⟨b1, 0, none⟩)] W fun e W' => (∃ v, e = .returned v) ∧ ∃ xs, xs = jtimes l ∧ J xs W' := by
  have hll := rok_len hk
  have HK := (show Hid (rokB l = true) from hk)
  obtain ⟨a', c', e, hc, hm0, hn, hcells⟩ := Rs.open hRs
  cases e
  unfold maxLen at hm0
  have HC := (show Hid _ from hcells)
  have hbA : Below W.heap.size W (W.alloc (.cells #[.slice none 0 0] 113)) := bAlloc (Below.refl _ _) _
  have bh0 : Bk (W.alloc (.cells #[.slice none 0 0] 113)) W.heap.size #[.slice none 0 0] 113 := Bk.new _ _ rfl
  have d0 := (hb1.keep hbA).cell (i := 0) (v := .slice a l.length cap) rfl
  have HP0 : Hid (Hp (W.alloc (.cells #[.slice none 0 0] 113)) W.heap.size ((l.take 0).map fun r => r.1.2)) := ⟨_, bh0, ⟨rfl, .inl ⟨rfl, rfl⟩⟩, by simp [Value.ownBlock]⟩
  have hA0 : arrOf (W.alloc (.cells #[.slice none 0 0] 113)) W.heap.size = none := by rw [arrOf_bk bh0]; rfl
  have hszA : (W.alloc (.cells #[.slice none 0 0] 113)).heap.size = W.heap.size + 1 := by simp
  have DJ0 : Hid (Dj W.heap.size m W.heap.size none (W.alloc (.cells #[.slice none 0 0] 113))) := by
    have e : arrOf (W.alloc (.cells #[.slice none 0 0] 113)) m = arrOf W m := arrOf_block (hbA.block m hm)
    refine ⟨hm, Nat.le_refl _, by omega, by omega, (fun q e => by rw [hA0] at e; cases e), (fun q e => by cases e), fun q e' => ?_⟩
    rw [e] at e'; have := ha q e'; exact ⟨by omega, by omega⟩
  have HJ0 : Hid (J [] (W.alloc (.cells #[.slice none 0 0] 113))) := hJ _ _ _ h0 (ItS.below hbA (Nat.le_refl _) ha)
  have HSZ := (show Hid _ from hszA)
  clear hcells hRs hk h0 bh0 hb1 ha hszA
  refine callsIn_of_wp Tryz.func95 rfl trivial ?_ rfl
  simp only [Tryz.ntmps95, List.size_toArray, List.length_cons, List.length_nil, Nat.reduceAdd, Nat.reduceSub, Array.replicate_succ, Array.replicate_zero, List.push_toArray, List.append_toArray, List.nil_append, List.cons_append]
  gi_wp2
  generalize hW1 : World.alloc W _ = W1 at *
  generalize hHB : W.heap.size = hb at *
  gi_loopw [12] (fun i wr => ∃ k : Nat, k ≤ l.length ∧ i = .int .i64 k ∧ Hp wr hb ((l.take k).map fun r => r.1.2) ∧ HF hb W1 wr) (fun i _ => l.length - (intOf i).toNat)
  case atStart => exact ⟨0, by omega, rfl, HP0.out, HF.refl _ _⟩
  case round =>
    obtain ⟨k, hkl, rfl, hH, hF⟩ := hrel
    by_cases hlt : k < l.length
    · obtain ⟨g, off, K, V, A, B, D, rfl, hg, hr, c0, c1, c2, c3, c4⟩ := HC.out k hlt
      have q0 := hf_cell hbA (by omega) hF (by omega) hA0 c0
      have q1 := hf_cell hbA (by omega) hF (by omega) hA0 c1
      have q2 := hf_cell hbA (by omega) hF (by omega) hA0 c2
      have q3 := hf_cell hbA (by omega) hF (by omega) hA0 c3
      have q4 := hf_cell hbA (by omega) hF (by omega) hA0 c4
      have ii : ((k : Int) < (l.length : Int)) := by omega
      have HR := (show Hid _ from hr)
      obtain ⟨v, hv1, hv2, hv3⟩ := hH
      have s0 := hv1.cell (i := 0) (v := v) rfl
      have hlb := hv1.lt
      have HV := (show Hid (Bk wr hb #[v] 113 ∧ Own wr 0 v ((l.take k).map fun r => r.1.2) ∧ v.ownBlock ≠ some hb) from ⟨hv1, hv2, hv3⟩)
      have hlk : ((l.take k).map fun r => r.1.2).length = k := by rw [List.length_map, List.length_take]; omega
      have HZ : Hid ((l.take (k + 1)).map (fun r => r.1.2) = ((l.take k).map fun r => r.1.2) ++ [(A, B)]) := by
        show _ = _; rw [take_snoc HR.out, List.map_append]; rfl
      have hb2 : Below wr.heap.size wr ((wr.alloc (.cells #[.int .i64 K, .int .i64 V, .int .i64 A, .int .i64 B, .int .i64 D] 41)).alloc (.cells #[.int .i64 A, .int .i64 B] 35)) := bAlloc (bAlloc (Below.refl _ _) _) _
      have bt : Bk ((wr.alloc (.cells #[.int .i64 K, .int .i64 V, .int .i64 A, .int .i64 B, .int .i64 D] 41)).alloc (.cells #[.int .i64 A, .int .i64 B] 35)) (wr.heap.size + 1) #[.int .i64 A, .int .i64 B] 35 := Bk.new _ _ (by simp)
      obtain ⟨g4, cap4, w4, hrun, o1, o2, o3, o4⟩ := appT_run 113 113 Tryz.underlying113 (own_keep hv2 hb2) (wr.heap.size + 1) A B bt (by omega) (Nat.zero_le _)
      obtain ⟨fz, cz, FIN⟩ := push_fin hv1 hv3 hb2 o1 o2 o3 o4
      rw [← HZ.out] at FIN
      clear c0 c1 c2 c3 c4 hr hv1 hv2 hv3 o1 o2 o3 o4 hb2 bt
      rw [hlk] at hrun FIN
      clear hlk
      gi_wp2_with (gi_at_builtin; refine wpListIn_app0 rfl _ _ _ rfl rfl rfl hrun ?_)
      go_roundw
      case rel => exact ⟨k + 1, by omega, by go_num, FIN.out.1, hF.trans FIN.out.2⟩
      case measure => simp [intOf]; omega
    · obtain rfl : k = l.length := by omega
      rw [List.take_length] at hH
      have HD2 : Hid (Dj hb m hb none wr) := DJ0.out.hf hF
      have HJ2 : Hid (J [] wr) := hJ _ _ _ HJ0.out (DJ0.out.itHF hF)
      clear d0
      gi_wp2
      refine ⟨trivial, ?_⟩
      refine CallsIn.mono (callsIn_wide.2 (hInit_any hH (by rw [List.length_map]; omega))) ?_
      rintro e w2 ⟨rfl, c, hHc, hlc, hmc, hlowc, hF2⟩
      have ST : Hid (JtS l m hb J (.slice none 0 0) 0 c w2) := ⟨⟨rfl, .inl ⟨rfl, rfl⟩⟩, hHc, hlowc, PtI.start HK.out hmc, by rw [hlc, List.length_map]; omega, HD2.out.hf hF2, hJ _ _ _ HJ2.out (HD2.out.itHF hF2)⟩
      clear hHc hlc hmc hlowc hF2 hH hF HD2 HJ2 HP0 DJ0 HJ0 HSZ hbA hA0 HC
      gi_wp2
      gi_loopw [6] (fun p wr => ∃ n next, JtS l m hb J p n next wr) (fun p wr => (64 - slLen p) * 64 + slLen ((wr.cell? ⟨hb, 0, none⟩).getD (.int .i64 0)))
      case atStart => exact ⟨0, c, ST.out⟩
      case round =>
        clear ST
        obtain ⟨n, next, hS⟩ := hrel
        have HS := (show Hid (JtS l m hb J u6 n next wr) from hS)
        obtain ⟨hown, hH, hlow, hP, hle, hD, hJn⟩ := hS
        have hnl := hP.le
        have hjl := jtimes_len l
        have htk : ((jtimes l).take n).length = n := by rw [List.length_take]; omega
        obtain ⟨adp, capp, hp6⟩ := own_slice hown
        rw [htk] at hp6
        obtain ⟨v, hv1, hv2, hv3⟩ := hH
        obtain ⟨adh, caph, hvh⟩ := own_slice hv2
        have s0 : wr.cell? ⟨hb, 0, none⟩ = some (.slice adh next.length caph) := by rw [← hvh]; exact hv1.cell (i := 0) (v := v) rfl
        have HM : Hid ((64 - slLen u6) * 64 + slLen ((wr.cell? ⟨hb, 0, none⟩).getD (.int .i64 0)) = (64 - n) * 64 + next.length) := by
          show _ = _; rw [s0, hp6]; rfl
        clear hv1 hv2 hv3 hvh hown hlow hD hJn
        by_cases hz : next.length = 0
        · have hnil : next = [] := List.eq_nil_of_length_eq_zero hz
          have HE : Hid (n = (jtimes l).length) := by
            have := HS.out.pt; rw [hnil] at this; exact this.stop
          rw [hz] at s0
          clear hP
          gi_wp2
          go_end0
          refine ⟨⟨_, rfl⟩, _, rfl, ?_⟩
          have := HS.out.jj
          rw [HE.out, List.take_length] at this; exact this
        · have gpos : (0 : Int) < (next.length : Int) := by omega
          have hpos : 0 < next.length := by omega
          obtain ⟨X, Y, hXY⟩ : ∃ X Y, gt next 0 = (X, Y) := ⟨_, _, rfl⟩
          have HG := (show Hid (gt next 0 = (X, Y)) from hXY)
          have HP := (show Hid (PtI l n next) from hP)
          clear hP hXY
          gi_wp2
          refine ⟨trivial, ?_⟩
          refine CallsIn.mono (callsIn_wide.2 (hPop_at HS.out.hp HS.out.low hpos (by omega) HG.out)) ?_
          rintro e w1 ⟨rfl, c, hHc, hlc, hmc, hlowc, hF1⟩
          have ta := ta_time X Y w1
          have hba : Below w1.heap.size w1 (w1.alloc (.cells #[.int .i64 X, .int .i64 Y] 35)) := bAlloc (Below.refl _ _) _
          have bx : Bk (w1.alloc (.cells #[.int .i64 X, .int .i64 Y] 35)) w1.heap.size #[.int .i64 X, .int .i64 Y] 35 := Bk.new _ _ rfl
          have D1 := HS.out.dj.hf hF1
          have HD : Hid (Dj hb m hb u6.ownBlock (w1.alloc (.cells #[.int .i64 X, .int .i64 Y] 35))) := D1.below hba
          have HO : Hid (Own (w1.alloc (.cells #[.int .i64 X, .int .i64 Y] 35)) hb u6 ((jtimes l).take n)) := own_keep (HS.out.dj.ownHF hF1 HS.out.own) hba
          have HJ1 : Hid (J ((jtimes l).take n) (w1.alloc (.cells #[.int .i64 X, .int .i64 Y] 35))) := hJ _ _ _ (hJ _ _ _ HS.out.jj (HS.out.dj.itHF hF1)) (D1.itBelow hba)
          have HH : Hid (Hp (w1.alloc (.cells #[.int .i64 X, .int .i64 Y] 35)) hb c) := hHc.keep hba
          have HC : Hid (c.length + 1 = next.length ∧ (∀ x, x ∈ next ↔ x = (X, Y) ∨ x ∈ c) ∧ HeapLow c c.length 0) := ⟨hlc, hmc, hlowc⟩
          have HX : Hid (w1.heap.size < (w1.alloc (.cells #[.int .i64 X, .int .i64 Y] 35)).heap.size ∧ u6.ownBlock ≠ some w1.heap.size ∧ arrOf (w1.alloc (.cells #[.int .i64 X, .int .i64 Y] 35)) m ≠ some w1.heap.size ∧ arrOf (w1.alloc (.cells #[.int .i64 X, .int .i64 Y] 35)) hb ≠ some w1.heap.size ∧ w1.heap.size ≠ hb) := by
            have k1 := D1.mB; have k2 := D1.wB; have k3 := D1.hw
            refine ⟨by simp, fun e => ?_, fun e => ?_, fun e => ?_, by omega⟩
            · have := (D1.pp _ e).2.1; omega
            · rw [arrOf_block (hba.block m (by omega))] at e; have := (D1.am _ e).1; omega
            · rw [arrOf_block (hba.block hb (by omega))] at e; have := (D1.ah _ e).2.1; omega
          clear hHc hlc hmc hlowc hF1 D1 hba s0
          subst hp6
          obtain ⟨x0, x1, _, _⟩ := bx.two
          have HN : Hid ((n = 0 ∧ (X, Y) ∉ (jtimes l).take n) ∨ 0 < n ∧ ((gt (jtimes l) (n - 1) = (X, Y) ∧ (X, Y) ∈ (jtimes l).take n) ∨ (gt (jtimes l) (n - 1) ≠ (X, Y) ∧ (X, Y) ∉ (jtimes l).take n))) := by
            have hmm : (X, Y) ∈ next := (HC.out.2.1 _).2 (.inl rfl)
            by_cases hn0 : n = 0
            · exact .inl ⟨hn0, by rw [hn0]; simp⟩
            · refine .inr ⟨by omega, ?_⟩
              by_cases ht : (X, Y) ∈ (jtimes l).take n
              · exact .inl ⟨(HP.out.last hmm ht).2, ht⟩
              · exact .inr ⟨fun e => ht ((take_mem_gt hnl).2 ⟨n - 1, by omega, e⟩), ht⟩
          have HBX : Hid (Bk (w1.alloc (.cells #[.int .i64 X, .int .i64 Y] 35)) w1.heap.size #[.int .i64 X, .int .i64 Y] 35) := bx
          clear bx
          rcases HN.out with ⟨hn0, hnew⟩ | ⟨hn0, ⟨hlast, hold⟩ | ⟨hlast, hnew⟩⟩
          case' inr.inr =>
            obtain ⟨gp, cp, ep, pc0, pc1⟩ := own_cellsAt HO.out (i := n - 1) (by omega)
            rw [htk] at ep
            cases ep
            rw [gt_take (by omega)] at pc0 pc1
            have hne := eq_pair hlast
            generalize (gt (jtimes l) (n - 1)).1 = PA at *
            generalize (gt (jtimes l) (n - 1)).2 = PB at *
            have i1 : IntKind.i64.wrap ((n : Int) - 1) = ((n - 1 : Nat) : Int) := by rw [IntKind.wrap_i64]; omega
            have g0 : decide ((0 : Int) < (n : Int)) = true := by simp; omega
            have g1 : ((n - 1 : Nat) : Int) < (n : Int) := by omega
            rcases hne with hne | ⟨hxe, hne⟩
            case' inr => rw [hxe] at pc0; clear hxe
          case' inl =>
            have g0 : decide ((0 : Int) < (n : Int)) = false := by simp; omega
            have g0n : decide (0 < n) = false := by simp; omega
            clear hn0
          case inr.inl =>
            obtain ⟨gp, cp, ep, pc0, pc1⟩ := own_cellsAt HO.out (i := n - 1) (by omega)
            rw [htk] at ep
            cases ep
            rw [gt_take (by omega), hlast] at pc0 pc1
            have i1 : IntKind.i64.wrap ((n : Int) - 1) = ((n - 1 : Nat) : Int) := by rw [IntKind.wrap_i64]; omega
            have g0 : decide ((0 : Int) < (n : Int)) = true := by simp; omega
            have g1 : ((n - 1 : Nat) : Int) < (n : Int) := by omega
            have HOld := (show Hid ((X, Y) ∈ (jtimes l).take n) from hold)
            clear hold hlast
            gi_wp2
            gi_quiet (fail)
            have hbq : Below (w1.alloc (.cells #[.int .i64 X, .int .i64 Y] 35)).heap.size (w1.alloc (.cells #[.int .i64 X, .int .i64 Y] 35)) ((w1.alloc (.cells #[.int .i64 X, .int .i64 Y] 35)).drewN nq) := ⟨rfl, rfl, rfl, Nat.le_refl _, fun _ _ => rfl⟩
            have ST : Hid (JtS l m hb J (.slice (some ⟨gp, 0, none⟩) n capp) n c ((w1.alloc (.cells #[.int .i64 X, .int .i64 Y] 35)).drewN nq)) := ⟨own_keep HO.out hbq, HH.out.keep hbq, HC.out.2.2, HP.out.skip HOld.out HC.out.2.1, by have := HC.out.1; omega, HD.out.below hbq, hJ _ _ _ HJ1.out (HD.out.itBelow hbq)⟩
            have HMM : Hid ((64 - n) * 64 + c.length < (64 - n) * 64 + next.length) := by show _ < _; have := HC.out.1; omega
            clear hbq
            gi_wp2
            go_roundw
            case rel => exact ⟨n, c, ST.out⟩
            case measure => rw [ST.out.meas, HM.out]; exact HMM.out
          all_goals
            have hmm : (X, Y) ∈ next := (HC.out.2.1 _).2 (.inl rfl)
            have hmin : ∀ x ∈ next, leT (X, Y) x := fun x hx => by rw [← HG.out]; exact heap_min HS.out.low hx
            obtain ⟨hnn, hgn⟩ := HP.out.next hmm hmin hnew
            have HMN := (show Hid (((X, Y) ∈ next ∧ ∀ x ∈ next, leT (X, Y) x) ∧ n < (jtimes l).length ∧ gt (jtimes l) n = (X, Y)) from ⟨⟨hmm, hmin⟩, hnn, hgn⟩)
            have HT : Hid ((jtimes l).take (n + 1) = (jtimes l).take n ++ [(X, Y)]) := by
              show _ = _
              rw [List.take_add_one, ← hgn]
              unfold gt
              simp [List.getD_eq_getElem?_getD, List.getElem?_eq_getElem hnn]
            clear hmm hmin hgn hnew
            gi_wp2
            gi_quiet (fail)
            have hbq : Below (w1.alloc (.cells #[.int .i64 X, .int .i64 Y] 35)).heap.size (w1.alloc (.cells #[.int .i64 X, .int .i64 Y] 35)) ((w1.alloc (.cells #[.int .i64 X, .int .i64 Y] 35)).drewN nq) := ⟨rfl, rfl, rfl, Nat.le_refl _, fun _ _ => rfl⟩
            have HDq : Hid (Dj _ _ _ _ _) := HD.out.below hbq
            have HOq : Hid (Own _ _ _ _) := own_keep HO.out hbq
            have HHq : Hid (Hp _ _ _) := HH.out.keep hbq
            have hJq := hJ _ _ _ HJ1.out (HD.out.itBelow hbq)
            have HBXq : Hid (Bk ((w1.alloc (.cells #[.int .i64 X, .int .i64 Y] 35)).drewN nq) w1.heap.size #[.int .i64 X, .int .i64 Y] 35) := HBX.out.keep hbq
            have x0q := HBXq.out.two.1
            have x1q := HBXq.out.two.2.1
            have HXq : Hid (arrOf ((w1.alloc (.cells #[.int .i64 X, .int .i64 Y] 35)).drewN nq) m ≠ some w1.heap.size ∧ arrOf ((w1.alloc (.cells #[.int .i64 X, .int .i64 Y] 35)).drewN nq) hb ≠ some w1.heap.size ∧ w1.heap.size ≠ hb ∧ w1.heap.size ≠ m ∧ w1.heap.size < ((w1.alloc (.cells #[.int .i64 X, .int .i64 Y] 35)).drewN nq).heap.size) := by
              have k1 := HD.out.mB; have k2 := HD.out.wB; have k3 := HD.out.hw; have k4 := HX.out
              refine ⟨?_, ?_, k4.2.2.2.2, ?_, Nat.lt_of_lt_of_le k4.1 hbq.size⟩
              · rw [arrOf_block (hbq.block m (by omega))]; exact k4.2.2.1
              · rw [arrOf_block (hbq.block hb (by omega))]; exact k4.2.2.2.1
              · have k5 : (w1.alloc (.cells #[.int .i64 X, .int .i64 Y] 35)).heap.size = w1.heap.size + 1 := by simp
                have := k4.2.2.2.2
                omega
            obtain ⟨fn, tmps, assign, body, hy, hR⟩ := hY ((jtimes l).take n) (X, Y) _ hJq (by rw [htk]; omega) ⟨n, HMN.out.2.1, rfl, HMN.out.2.2⟩
            clear hbq hJq HX HBX HH HO HD HJ1 x0 x1 g0
            try clear g0n
            gi_wp2
            refine hR.mono ?_
            rintro e W3 ⟨rfl, hJ3, hk3⟩
            obtain ⟨hH3, hD3⟩ := HDq.out.hpKpA hk3 HHq.out
            have hO3 : Own W3 hb _ _ := HDq.out.ownKpA hk3 HOq.out
            have hb3 := hk3.bk HBXq.out HXq.out.2.2.2.1 HXq.out.1
            have ha3 : arrOf W3 hb ≠ some w1.heap.size := by
              have e1 := hk3
              obtain ⟨v, q1, q2, q3⟩ := HHq.out
              have q4 := (HDq.out.kpa hk3 q1).1
              rw [arrOf_bk q4, ← arrOf_bk q1]; exact HXq.out.2.1
            have hbh : w1.heap.size ≠ hb := HXq.out.2.2.1
            rw [← HT.out] at hJ3
            clear hR hy x0q x1q HDq HOq HHq HBXq HXq hk3
            obtain ⟨pv, hpv, hO4, hD4⟩ := own_name hO3 hD3
            have HPV := (show Hid (_ = pv) from hpv)
            have hST : JiS l m hb w1.heap.size J pv n c X Y 0 c W3 := ⟨hO4, hH3, HC.out.2.2, rfl, fun x => by simp, hD4, hJ3, hb3, ha3, hbh⟩
            have HST := (show Hid (JiS l m hb w1.heap.size J pv n c X Y 0 c W3) from hST)
            clear hpv hO3 hD3 hO4 hD4 hH3 hJ3 hb3 ha3 hbh hST
            generalize w1.heap.size = bt at *
            gi_wp2
            gi_loopw [49] (fun i wr => ∃ (k : Nat) (c' : List (Int × Int)), k ≤ n ∧ i = .int .i64 k ∧ JiS l m hb bt J pv n c X Y k c' wr) (fun i _ => n - (intOf i).toNat)
            case atStart => exact ⟨0, c, by omega, rfl, HST.out⟩
            case round =>
              clear HST
              obtain ⟨k, c', hkn, rfl, hI⟩ := hrel
              have HI := (show Hid (JiS l m hb bt J pv n c X Y k c' wr) from hI)
              by_cases hlt : k < n
              · obtain ⟨g2, cp2, e2, pc0, pc1⟩ := own_cellsAt hI.own (i := k) (by omega)
                rw [htk] at e2
                rw [gt_take hlt] at pc0 pc1
                have e3 := HPV.out.trans e2
                cases e3
                have HJN : Hid ((jnA (gt (jtimes l) k).1 (gt (jtimes l) k).2 X Y, jnB (gt (jtimes l) k).1 (gt (jtimes l) k).2 X Y) = jnT (gt (jtimes l) k) (X, Y)) := by
                  have h1 := HMN.out.2
                  exact jnT_prog (gt_mem (by omega)) (show (X, Y) ∈ jtimes l by rw [← h1.2]; exact gt_mem h1.1)
                have ik : (k : Int) < (n : Int) := by omega
                generalize hA : (gt (jtimes l) k).1 = A at *
                generalize hB : (gt (jtimes l) k).2 = B at *
                have hba : Below wr.heap.size wr (wr.alloc (.cells #[.int .i64 A, .int .i64 B] 35)) := bAlloc (Below.refl _ _) _
                obtain ⟨y0, y1, _, _⟩ := (hI.bx.keep hba).two
                have hlen := hI.len
                have HLN : Hid (c'.length + 1 ≤ 1000000) := by show _ ≤ _; have := HC.out.1; omega
                clear hI hA hB hlen e2
                gi_wp2
                refine ⟨trivial, ?_⟩
                refine CallsIn.mono (callsIn_wide.2 (implJoin_any A B X Y _)) ?_
                rintro e w5 ⟨rfl, hb5⟩
                have hb6 := bStep hba hb5
                have HB6 := (show Hid (Below wr.heap.size wr w5) from hb6)
                clear hba hb5 hb6 y0 y1 pc0 pc1
                gi_wp2
                refine ⟨trivial, ?_⟩
                refine CallsIn.mono (callsIn_wide.2 (hPush_any (X := jnA A B X Y) (Y := jnB A B X Y) (HI.out.hp.keep HB6.out) HI.out.low HLN.out)) ?_
                rintro e w7 ⟨rfl, c7, p1, p2, p3, p4, p5⟩
                have HST7 : Hid (JiS l m hb bt J _ n c X Y (k + 1) c7 w7) := HI.out.step hJ HB6.out p5 p1 p2 (fun x => by rw [p3, HJN.out]) p4
                clear p1 p2 p3 p4 p5
                gi_wp2
                go_roundw
                case rel => exact ⟨k + 1, c7, by omega, by go_num, HST7.out⟩
                case measure => simp [intOf]; omega
              · obtain rfl : k = n := by omega
                have hba : Below wr.heap.size wr (wr.alloc (.cells #[.int .i64 X, .int .i64 Y] 35)) := bAlloc (Below.refl _ _) _
                have bt2 : Bk (wr.alloc (.cells #[.int .i64 X, .int .i64 Y] 35)) wr.heap.size #[.int .i64 X, .int .i64 Y] 35 := Bk.new _ _ rfl
                obtain ⟨y0, y1, _, _⟩ := hI.bx.two
                obtain ⟨g4, cap4, w4, hrun, o1, o2, o3, o4⟩ := appT_run 29 29 Tryz.underlying29 (own_keep hI.own hba) wr.heap.size X Y bt2 (by omega) (by have := hI.dj.wB; have := hba.size; omega)
                have HST8 : Hid (JtS l m hb J (.slice (some ⟨g4, 0, none⟩) (((jtimes l).take k).length + 1) cap4) (k + 1) c' w4) :=
                  jts_told HP.out HMN.out.1.1 HMN.out.1.2 HMN.out.2.1 HMN.out.2.2 HS.out.le ⟨HC.out.1, HC.out.2.1⟩ hI.len hI.mem hI.low (hI.hp.keep hba) (hI.dj.below hba) hJ (hJ _ _ _ hI.jj (hI.dj.itBelow hba)) o2 (by
                    rcases o3 with o3 | o3
                    · exact .inl (by rw [o3]; rfl)
                    · exact .inr ⟨by rw [← o3]; rfl, by omega⟩) o1
                have HMM : Hid ((64 - (k + 1)) * 64 + c'.length < (64 - k) * 64 + next.length) := by show _ < _; have := HC.out.1; have := hI.len; have := HMN.out.2.1; omega
                have e3 := HPV.out
                subst e3
                clear o1 o2 o3 o4 hba bt2 hI
                rw [htk] at hrun HST8
                gi_wp2_with (gi_at_builtin; refine wpListIn_app0 rfl _ _ _ rfl rfl rfl hrun ?_)
                go_roundw
                case rel => exact ⟨k + 1, c', HST8.out⟩
                case measure => rw [HST8.out.meas, HM.out]; exact HMM.out
end Go.Proofs.YtpjmkejojenflaaGreat

/-! The rows of a key; all times of rows and their joins as a slice: the contracts. -/
namespace Go.Proofs.YtpjmkejojenflaaGreat
open Go.RowKit Go.Shelf
attribute [local go_sem] Oper.semAt_some

set_option maxHeartbeats 1000000 in
theorem joinedTimes_any (a : Option Addr) (n cap : Nat) (w : World) :
    Calls Tryz.prog 58 #[.slice a n cap] w fun e w' => e = .returned (.func (.func 95) #[] #[.pointer (some ⟨w.heap.size, 0, none⟩)]) ∧ w' = w.alloc (.cells #[.slice a n cap] 23) := by
  go_enter Tryz.func58, Tryz.ntmps58
  go_wp2_with fail
  go_ret
  exact ⟨rfl, rfl⟩
theorem rowsK_yes {l : List Rw} {k : Nat} {r : Rw} {key : Int} (h : l[k]? = some r) (e : r.1.1.1 = key) : rowsK (l.take (k + 1)) key = rowsK (l.take k) key ++ [r] := by
  unfold rowsK; rw [take_snoc h, List.filter_append]; simp [e]
theorem rowsK_no {l : List Rw} {k : Nat} {r : Rw} {key : Int} (h : l[k]? = some r) (e : r.1.1.1 ≠ key) : rowsK (l.take (k + 1)) key = rowsK (l.take k) key := by
  unfold rowsK; rw [take_snoc h, List.filter_append]; simp [e]
theorem rowsK_len (l : List Rw) (key : Int) : (rowsK l key).length ≤ l.length := List.length_filter_le _ _
theorem rowsK_ok {l : List Rw} (h : rokB l = true) (key : Int) : rokB (rowsK l key) = true :=
  rok_mk (Nat.le_trans (rowsK_len l key) (rok_len h)) fun _ hr => rok_at h (List.mem_filter.1 hr).1
set_option maxRecDepth 100000 in
set_option maxHeartbeats 8000000 in
theorem rowsOf_any (v : Value) (l : List Rw) (key : Int) (w : World) (h : Rs w v l) (hl : l.length ≤ 400) :
    Calls Tryz.prog 59 #[v, .int .i64 key] w fun e w' => ∃ o : Value, e = .returned o ∧ OwnR w' w.heap.size o (rowsK l key) ∧ Below w.heap.size w w' := by
  obtain ⟨a, cap, rfl, hc, hm, hn, hcells⟩ := Rs.open h
  unfold maxLen at hm
  have HC := (show Hid _ from hcells)
  clear hcells h
  go_enter Tryz.func59, Tryz.ntmps59
  go_wp2_with fail
  go_loopw [5, 10] (fun o b wr => ∃ k : Nat, k ≤ l.length ∧ b = .int .i64 k ∧ OwnR wr w.heap.size o (rowsK (l.take k) key) ∧ Below w.heap.size w wr) (fun _ b _ => l.length - (intOf b).toNat)
  case atStart => exact ⟨0, by omega, rfl, by simpa [rowsK] using ownK_nil _ _ _ _ _, Below.refl _ _⟩
  case round =>
    obtain ⟨k, hk, rfl, hown, hb⟩ := hrel
    have O1 : Hid (OwnR wr w.heap.size u5 (rowsK (l.take k) key)) := hown
    have hlen : (rowsK (l.take k) key).length ≤ 400 := Nat.le_trans (rowsK_len _ _) (by rw [List.length_take]; omega)
    have hszr := hb.size
    by_cases hlt : k < l.length
    · obtain ⟨g, off, K, V, A, B, D, rfl, hg, hr, c0, c1, c2, c3, c4⟩ := HC.out k hlt
      have HR := (show Hid _ from hr)
      have q0 := cell_below hb c0
      have q1 := cell_below hb c1
      have q2 := cell_below hb c2
      have q3 := cell_below hb c3
      have q4 := cell_below hb c4
      have ii : ((k : Int) < (l.length : Int)) := by omega
      have hba : Below wr.heap.size wr (wr.alloc (.cells #[.int .i64 K, .int .i64 V, .int .i64 A, .int .i64 B, .int .i64 D] 41)) := bAlloc (Below.refl _ _) _
      clear c0 c1 c2 c3 c4 hr hown
      by_cases hK : K = key
      · have HZ : Hid (rowsK (l.take (k + 1)) key = rowsK (l.take k) key ++ [(((K, V), (A, B)), D)]) := rowsK_yes HR.out hK
        subst hK
        have O2 : OwnR (wr.alloc (.cells #[.int .i64 K, .int .i64 V, .int .i64 A, .int .i64 B, .int .i64 D] 41)) w.heap.size u5 (rowsK (l.take k) K) := own_keep O1.out hba
        have hb2 := bStep hb hba
        generalize rowsK (l.take k) K = l1 at *
        go_wp2_with (at_builtin; refine appR _ rfl _ _ rfl w.heap.size _ _ rfl (O2.alloc _) _ _ _ _ _ _ rfl (Bk.new _ _ (by simp)) (by omega) (by simp; omega) ?_; intro g3 cap3 w3 own3 hgrow hlg)
        have hb6 : Below w.heap.size w w3 := Below.grew (bAlloc hb2 _) hgrow (by simp; omega) (own_base O1.out)
        go_roundw
        case rel => exact ⟨k + 1, by omega, by go_num, by rw [HZ.out]; exact own3, hb6⟩
        case measure => simp [intOf]; omega
      · have HZ : Hid (rowsK (l.take (k + 1)) key = rowsK (l.take k) key) := rowsK_no HR.out hK
        have nx : (K == key) = false := beq_eq_false_iff_ne.2 hK
        go_wp2_with fail
        go_roundw
        case rel => exact ⟨k + 1, by omega, by go_num, by rw [HZ.out]; exact own_keep O1.out hba, bStep hb hba⟩
        case measure => simp [intOf]; omega
    · obtain rfl : k = l.length := by omega
      rw [List.take_length] at O1
      clear hown
      go_wp2_with fail
      go_ret
      exact ⟨_, rfl, O1.out, hb⟩
/-- What the iterator of all times hands on, one by one. -/
theorem joined_seq (b1 m : Nat) (a : Option Addr) (cap : Nat) (l : List Rw) (w0 : World) (hk : rokB l = true) (hRs : Rs w0 (.slice a l.length cap) l) (hb1 : Bk w0 b1 #[.slice a l.length cap] 23) (hm : m < w0.heap.size) (ha : ∀ q, arrOf w0 m = some q → q < w0.heap.size) :
    SeqIt m Fence.wide 3 Tryz.prog 95 #[.pointer (some ⟨b1, 0, none⟩)] (fun t : Int × Int => #[tv t.1 t.2]) (fun xs => xs = jtimes l) (PfJ l) 64 w0 :=
  fun lp J W hWb hJ hY h0 => joined1_in lp b1 m a cap l J W hJ hY hk (hRs.keep hWb) (hb1.keep hWb) (by have := hWb.size; omega)
    (fun q e => by rw [arrOf_block (hWb.block m hm)] at e; have := ha q e; have := hWb.size; omega) h0
end Go.Proofs.YtpjmkejojenflaaGreat

/-! All times of rows and their joins as a slice; FlowTimes of the program: the contracts. -/
namespace Go.Proofs.YtpjmkejojenflaaGreat
open Go.RowKit Go.Shelf
attribute [local go_sem] Oper.semAt_some

theorem wpListIn_app1 {lq n : Nat} {P : Program} {ops : Array Oper} {rest : List Oper} {o : Oper} {a : Act} {W W' : World} {Q : Exit → Act → World → Prop} (hgd : o.guard = none) (s x : Operand) (t : TypeId) (ho : o.op = .call { callee := .builtin .append, args := #[s, x], argTypes := #[t, t] })
    {v xx u : Value} (hs : a.eval s = v) (hx : a.eval x = xx) (hr : (Builtin.append_ #[t, t] o.type #[v, xx]).run P W = .ok u W') (h : wpListIn (Fence.wide.inRound lq) n P ops Q rest (a.put o.dst u) W') : wpListIn (Fence.wide.inRound lq) n P ops Q (o :: rest) a W :=
  wpListIn_plain hgd fun _ hK => wpIn_append s x t ho hs hx hr (hK _ _ h)
/-- What a round that appends a time to its slice, and stores that, leaves. -/
theorem round_finT {B N0 m : Nat} {w Wb W1 W : World} {v u : Value} {l l' : List (Int × Int)} (hm : Bk Wb m #[v] 29) (hmN : m < N0) (hBm : B ≤ m) (hown : Own Wb N0 v l) (hb1 : Below Wb.heap.size Wb W1) (hg : W1.grownBy W v.ownBlock) (hu : Own W N0 u l')
    (hq : u.ownBlock = v.ownBlock ∨ ∃ q, u.ownBlock = some q ∧ W1.heap.size ≤ q ∧ q < W.heap.size) (hw : Below B w Wb) (hN : N0 ≤ Wb.heap.size) :
    W.frozen? ⟨m, 0, none⟩ = false ∧ W.cell? ⟨m, 0, none⟩ = some v ∧ Hid (KeepsFrom N0 Wb (W.setCell ⟨m, 0, none⟩ u) ∧ KpA m Wb (W.setCell ⟨m, 0, none⟩ u) ∧ (∃ v, Bk (W.setCell ⟨m, 0, none⟩ u) m #[v] 29 ∧ Own (W.setCell ⟨m, 0, none⟩ u) N0 v l') ∧ Below B w (W.setCell ⟨m, 0, none⟩ u) ∧ N0 ≤ (W.setCell ⟨m, 0, none⟩ u).heap.size) := by
  have hv : v.ownBlock ≠ some m := fun e => by have := own_base hown m e; omega
  have hm1 := hm.keep hb1
  have hm2 : Bk W m #[v] 29 := by unfold Bk; rw [hg.block m hm1.lt (fun e => hv e.symm)]; exact hm1
  have hz : (W.setCell ⟨m, 0, none⟩ u).heap.size = W.heap.size := by simp
  have hs1 := hb1.size
  have hs2 := hg.size
  have hmlt := hm.lt
  refine ⟨hm2.free 0, hm2.cell (i := 0) (v := v) rfl, ⟨by omega, fun k o hk ho hc => ?_⟩, (KpA.below hb1 hm.lt).trans (KpA.grow hm1 hg hv hq), ⟨u, by simpa using hm2.set 0 u, ?_⟩, ?_, by omega⟩
  · have hlt := (Array.getElem?_eq_some_iff.1 ho).1
    rw [Below.heap_setCell _ _ _ _ (show k ≠ (⟨m, 0, none⟩ : Addr).block from by show k ≠ m; omega), hg.block k (by omega) (fun e => ?_), hb1.block k hlt]
    · exact ho
    · obtain ⟨c, hbc⟩ := own_cells hown e.symm
      unfold Bk at hbc
      rw [hbc] at ho
      cases ho
      cases hc
  · refine ownK_at hu fun q e => Below.heap_setCell _ _ _ _ (show q ≠ m from ?_)
    have := own_base hu q e
    omega
  · refine Below.setCell ?_ hBm _
    exact Below.grew (hw.trans (hb1.mono (by omega))) hg (by omega) (fun q e => by have := own_base hown q e; omega)
set_option maxRecDepth 100000 in
set_option maxHeartbeats 8000000 in
theorem appendSeq_in (b1 : Nat) (a : Option Addr) (cap : Nat) (l : List Rw) (w : World) (hk : rokB l = true) (hRs : Rs w (.slice a l.length cap) l) (hb1 : Bk w b1 #[.slice a l.length cap] 23) :
    CallsIn Fence.wide 4 Tryz.prog 94 #[.slice none 0 0, .func (.func 95) #[] #[.pointer (some ⟨b1, 0, none⟩)]] w fun e w' => ∃ o : Value, e = .returned o ∧ Own w' w.heap.size o (jtimes l) ∧ Below w.heap.size w w' := by
  have hjl := jtimes_len l
  refine callsIn_of_wp_marks Tryz.func94 rfl trivial ?_ rfl
  simp only [Tryz.ntmps94, List.size_toArray, List.length_cons, List.length_nil, Nat.reduceAdd, Nat.reduceSub, Array.replicate_succ, Array.replicate_zero, List.push_toArray, List.append_toArray, List.nil_append, List.cons_append]
  have hbA : Below w.heap.size w (w.alloc (.cells #[.slice none 0 0] 29)) := bAlloc (Below.refl _ _) _
  have bm0 : Bk (w.alloc (.cells #[.slice none 0 0] 29)) w.heap.size #[.slice none 0 0] 29 := Bk.new _ _ rfl
  have HSZ : Hid ((w.alloc (.cells #[.slice none 0 0] 29)).heap.size = w.heap.size + 1) := by show _ = _; simp
  have HR : Hid (Rs (w.alloc (.cells #[.slice none 0 0] 29)) (.slice a l.length cap) l ∧ Bk (w.alloc (.cells #[.slice none 0 0] 29)) b1 #[.slice a l.length cap] 23) := ⟨hRs.keep hbA, hb1.keep hbA⟩
  have ha0 : arrOf (w.alloc (.cells #[.slice none 0 0] 29)) w.heap.size = none := by rw [arrOf_bk bm0]; rfl
  clear hRs hb1
  gi_wp2
  generalize w.alloc (.cells #[.slice none 0 0] 29) = W0 at *
  have hsz : w.heap.size < W0.heap.size := by have := HSZ.out; omega
  refine wpIn_rangeFunc_it (n := 4) (m := w.heap.size) (w0 := W0) rfl (by omega) (gf := 95) (lb := #[.pointer (some ⟨b1, 0, none⟩)]) rfl trivial (enters_of Tryz.func95 (by kernel_rfl) rfl)
    (joined_seq b1 w.heap.size a cap l W0 hk HR.out.1 HR.out.2 hsz (fun q e => by rw [ha0] at e; cases e)) hsz (Below.refl _ _) (fun _ => rfl)
    (fun pre W => (∃ v : Value, Bk W w.heap.size #[v] 29 ∧ Own W W0.heap.size v pre) ∧ Below w.heap.size w W ∧ W0.heap.size ≤ W.heap.size)
    (fun pre A B row hs hg hr => by
      obtain ⟨⟨v, h1, h2⟩, h5, h6⟩ := hs
      refine ⟨⟨v, Bk.grew h1 hg (fun r e => by have := (hr r e).1; omega), ownK_at h2 fun q e => hg.block q (own_lt h2 q e) (fun e' => ?_)⟩, Below.grew h5 hg (by omega) (fun r e => by have := (hr r e).1; omega), Nat.le_trans h6 hg.size⟩
      obtain ⟨_, o, h7, h8⟩ := hr q e'.symm
      obtain ⟨c, hbc⟩ := own_cells h2 e
      unfold Bk at hbc
      rw [hbc] at h7
      cases h7
      cases h8)
    (fun pre A B hs hi => by
      obtain ⟨⟨v, h1, h2⟩, h5, h6⟩ := hs
      refine ⟨⟨v, ?_, ownK_at h2 fun q e => hi.arr q (by rw [arrOf_bk h1]; exact e)⟩, ⟨hi.os.trans h5.os, hi.tape.trans h5.tape, hi.output.trans h5.output, Nat.le_trans h5.size hi.size, fun k hk => (hi.low k (by omega)).trans (h5.block k hk)⟩, Nat.le_trans h6 hi.size⟩
      unfold Bk; rw [hi.low _ hsz]; exact h1)
    ⟨⟨_, bm0, ⟨rfl, .inl ⟨rfl, rfl⟩⟩⟩, hbA, Nat.le_refl _⟩
    (fun t a' W => ∃ c1 : Nat, W0.heap.size ≤ c1 ∧ Bk W c1 #[.int .i64 t.1, .int .i64 t.2] 35 ∧ arrOf W w.heap.size ≠ some c1 ∧
      a' = { tmps := #[.slice none 0 0, .func (.func 95) #[] #[.pointer (some ⟨b1, 0, none⟩)], .pointer (some ⟨w.heap.size, 0, none⟩), undef, .slice none 0 0, .pointer (some ⟨c1, 0, none⟩), .func (.func 95) #[] #[.pointer (some ⟨b1, 0, none⟩)], tv t.1 t.2, undef, undef, undef, undef, undef], defers := [] })
    (fun t a' _ A B row hs hg hr => by
      obtain ⟨c1, h1, h3, h5, h7⟩ := hs
      have hne : ∀ {k : Nat} {c : Array Value} {t : TypeId}, Bk A k c t → ∀ r, row = some r → k ≠ r := fun hb r e e' => by
        obtain ⟨_, o, h8, h9⟩ := hr r e
        subst e'
        unfold Bk at hb
        rw [hb] at h8
        cases h8
        cases h9
      have harr : arrOf B w.heap.size = arrOf A w.heap.size :=
        arrOf_block (hg.block _ (by have := h3.lt; omega) (fun e => by have := (hr _ e.symm).1; omega))
      exact ⟨c1, h1, Bk.grew h3 hg (hne h3), by rw [harr]; exact h5, h7⟩)
    ?assign ?body ?done
  case assign =>
    rintro lq pre t W K ⟨⟨v, h1, h2⟩, h5, h6⟩ hK
    have hlt2 := h1.lt
    have hbW : Below W.heap.size W (W.alloc (.cells #[.int .i64 t.1, .int .i64 t.2] 35)) := bAlloc (Below.refl _ _) _
    have harr : arrOf W w.heap.size = v.ownBlock := arrOf_bk h1
    have hq : ∀ q, v.ownBlock = some q → q < W.heap.size := fun q e => own_lt h2 q e
    gi_wp2
    refine hK _ _ ((KeepsOthers.alloc _ _).from _) (KpA.below hbW hlt2) ⟨⟨v, h1.keep hbW, own_keep h2 hbW⟩, h5.trans (hbW.mono (by omega)), by simp; omega⟩ ⟨W.heap.size, h6, Bk.new _ _ rfl, ?_, rfl⟩
    rw [arrOf_block (hbW.block _ hlt2), harr]; intro e; have := hq _ e; omega
  case body =>
    rintro lq pre ⟨X, Y⟩ a' W hlq - ⟨⟨v, h1, h2⟩, h5, h6⟩ ⟨c1, hc1, k1, hn1, rfl⟩ hlt -
    simp only at k1
    obtain ⟨y0, y1, _, _⟩ := k1.two
    have hbW : Below W.heap.size W (W.alloc (.cells #[.int .i64 X, .int .i64 Y] 35)) := bAlloc (Below.refl _ _) _
    have bt2 : Bk (W.alloc (.cells #[.int .i64 X, .int .i64 Y] 35)) W.heap.size #[.int .i64 X, .int .i64 Y] 35 := Bk.new _ _ rfl
    obtain ⟨g4, cap4, w4, hrun, o1, o2, o3, o4⟩ := appT_run 29 29 Tryz.underlying29 (own_keep h2 hbW) W.heap.size X Y bt2 (by omega) (by have := hbW.size; omega)
    obtain ⟨fz, cz, FIN⟩ := round_finT (B := w.heap.size) (w := w) h1 hsz (Nat.le_refl _) h2 hbW o2 o1 (by
      rcases o3 with o3 | o3
      · exact .inl (by rw [o3]; rfl)
      · exact .inr ⟨g4, rfl, by omega, o4⟩) h5 h6
    have c0 := h1.cell (i := 0) (v := v) rfl
    clear o1 o2 o3 o4 hbW bt2 h1 h2 h5 k1
    gi_wp2_with (gi_at_builtin; refine wpListIn_app1 rfl _ _ _ rfl rfl rfl hrun ?_)
    exact ⟨FIN.out.1, FIN.out.2.1, FIN.out.2.2⟩
  case done =>
    rintro D xs W hD hS ⟨⟨v, h1, h2⟩, h5, h6⟩ hK
    have c0 := h1.cell (i := 0) (v := v) rfl
    obtain ⟨adv, cpv, rfl⟩ := own_slice h2
    subst hS
    have O3 : Hid (Own W W0.heap.size (.slice adv (jtimes l).length cpv) (jtimes l)) := h2
    clear h1 h2
    gi_wp2
    refine ⟨by simp, .inl ⟨_, _, rfl, run_takeDeferred hK, ?_⟩⟩
    refine ⟨_, results_tmp rfl _ _ _, _, rfl, ?_, ?_⟩
    · refine own_less (B := W0.heap.size) ?_ (by omega)
      refine ownK_at O3.out fun q e => ?_
      have hbc := own_cells O3.out e
      obtain ⟨c, hbc⟩ := hbc
      exact (grownBy_putObj' W D (.deferred none)).block q (own_lt O3.out q e) (fun e => by cases e; unfold Bk at hbc; rw [hbc] at hK; cases hK)
    · exact h5.trans (belowK_b (w := W0) (by omega) W D _ _ hD hK rfl rfl)
set_option maxHeartbeats 2000000 in
theorem collect_any (b1 : Nat) (a : Option Addr) (cap : Nat) (l : List Rw) (w : World) (hk : rokB l = true) (hRs : Rs w (.slice a l.length cap) l) (hb1 : Bk w b1 #[.slice a l.length cap] 23) :
    Calls Tryz.prog 57 #[.func (.func 95) #[] #[.pointer (some ⟨b1, 0, none⟩)]] w fun e w' => ∃ o : Value, e = .returned o ∧ Own w' w.heap.size o (jtimes l) ∧ Below w.heap.size w w' := by
  go_enter Tryz.func57, Tryz.ntmps57
  go_wp2_with fail
  refine (callsIn_wide.1 (appendSeq_in b1 a cap l w hk hRs hb1)).mono ?_
  rintro e w1 ⟨o, rfl, h1, h2⟩
  obtain ⟨adv, cpv, rfl⟩ := own_slice h1
  go_wp2_with fail
  go_ret
  exact ⟨_, rfl, h1, h2⟩
set_option maxHeartbeats 4000000 in
theorem implFlowTimes_any (v : Value) (l : List Rw) (key : Int) (w : World) (h : Rs w v l) :
    Calls Tryz.prog 21 #[v, .int .i64 key] w fun e w' => ∃ o : Value, e = .returned o ∧ Own w' w.heap.size o (ftimesL l key) ∧ Below w.heap.size w w' := by
  have HH := (show Hid (Rs w v l) from h)
  obtain ⟨a, cap, rfl, -⟩ := Rs.open h
  clear h
  cases hk : rokB l
  · have HF : Hid (ftimesL l key = []) := by show _ = _; simp [ftimesL, hk]
    go_enter Tryz.func21, Tryz.ntmps21
    go_wp2_with fail
    refine (implRowsOk_eq hk HH.out).mono ?_
    rintro e w1 ⟨rfl, hb1⟩
    go_wp2_with fail
    go_ret
    exact ⟨_, rfl, by rw [HF.out]; exact ⟨rfl, .inl ⟨rfl, rfl⟩⟩, hb1⟩
  · have HF : Hid (ftimesL l key = jtimes (rowsK l key)) := by show _ = _; simp [ftimesL, hk]
    have hkk := rowsK_ok hk key
    have hll := rok_len hk
    have hlr := rok_len hkk
    go_enter Tryz.func21, Tryz.ntmps21
    go_wp2_with fail
    refine (implRowsOk_eq hk HH.out).mono ?_
    rintro e w1 ⟨rfl, hb1⟩
    go_wp2_with fail
    refine (rowsOf_any _ l key w1 (HH.out.keep hb1) hll).mono ?_
    rintro e w2 ⟨o2, rfl, own2, hb2⟩
    have R2 : Rs w2 o2 (rowsK l key) := OwnR.rs own2 (by omega)
    obtain ⟨a2, c2, rfl, -⟩ := Rs.open R2
    have hb12 := bStep hb1 hb2
    clear hb1 hb2 own2
    go_wp2_with fail
    refine (joinedTimes_any _ _ _ w2).mono ?_
    rintro e w3 ⟨rfl, hw3⟩
    have hb3 : Below w2.heap.size w2 w3 := by rw [hw3]; exact bAlloc (Below.refl _ _) _
    have bx3 : Bk w3 w2.heap.size #[.slice a2 (rowsK l key).length c2] 23 := by rw [hw3]; exact Bk.new _ _ rfl
    have R3 := R2.keep hb3
    have hb13 := bStep hb12 hb3
    clear hw3 hb3 R2 hb12
    go_wp2_with fail
    refine (collect_any w2.heap.size a2 c2 (rowsK l key) w3 hkk R3 bx3).mono ?_
    rintro e w4 ⟨o4, rfl, own4, hb4⟩
    obtain ⟨a4, c4, rfl⟩ := own_slice own4
    have O4 := (show Hid (Own w4 w3.heap.size (.slice a4 (jtimes (rowsK l key)).length c4) (jtimes (rowsK l key))) from own4)
    clear own4
    go_wp2_with fail
    go_ret
    exact ⟨_, rfl, by rw [HF.out]; exact own_less O4.out hb13.size, bStep hb13 hb4⟩
end Go.Proofs.YtpjmkejojenflaaGreat
