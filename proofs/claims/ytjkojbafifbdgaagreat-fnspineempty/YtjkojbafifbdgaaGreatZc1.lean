/- A spine anew, of the model: the contract. -/
import Derived.Test.YtjkojbafifbdgaaGreatZq0
import Derived.Test.YtjkojbafifbdgaaGreatGd1
import Derived.Deep.RegionLaw
import Derived.Deep.DrawnRows
namespace Go.Proofs.YtjkojbafifbdgaaGreat
open Go.RowKit Go.Shelf

attribute [local go_sem ↓] Go.wp_at_zero Go.wp_at_succ
theorem Kg.grew {gs : List Nat} {a w w' : World} {row : Option Nat} (h : Kg gs a w) (hg : w.grownBy w' row) (hr : ∀ q, row = some q → a.heap.size ≤ q) : Kg gs a w' :=
  ⟨hg.os.trans h.os, hg.tape.trans h.tape, hg.output.trans h.output, Nat.le_trans h.size hg.size, fun k hk hn => (hg.block k (Nat.lt_of_lt_of_le hk h.size) (fun e => by have := hr k e.symm; omega)).trans (h.block k hk hn)⟩
theorem rows_block {w : World} {B : Nat} {v : Value} {l : List Value} (h : OwnV w B v l) {q : Nat} (e : v.ownBlock = some q) : ∃ c : Array Value, Bk w q c 33 := by
  rcases ownK_open h valC_len with ⟨rfl, _⟩ | ⟨g, cap, c, rfl, _, hb, _⟩
  · simp [Value.ownBlock] at e
  · simp [Value.ownBlock] at e; subst e; exact ⟨c, hb⟩
theorem EachO.grewV {w w' : World} {B B' : Nat} {v : Value} {vs l : List Value} {L : List (List Rw)} (h : EachO w B vs L) (hv : OwnV w B' v l) (hg : w.grownBy w' v.ownBlock) : EachO w' B vs L :=
  h.mono fun q c hq => hg.block q hq.lt fun e => by obtain ⟨d, hd⟩ := rows_block hv e.symm; exact row_not_rows hq hd
set_option maxRecDepth 100000 in
set_option maxHeartbeats 16000000 in
theorem l12Copy_any (lv fv : Value) (L : List (List Rw)) (F : List (Int × Int)) (w : World) (h : Spn w lv fv L F) (hn : L.length ≤ 1000) (hfew : ∀ l ∈ L, l.length ≤ 1000) (hf : F.length ≤ 1000000) :
    Calls Tryz.prog 59 #[spv lv fv] w fun e w' => ∃ lv' fv' : Value, e = .returned (spv lv' fv') ∧ SpO w' w.heap.size lv' fv' L F ∧ Below w.heap.size w w' := by
  have HS := (show Hid (Spn w lv fv L F) from h)
  obtain ⟨aL, cL, rfl, hc, hm, hn2, hcells⟩ := Ly.open h.1
  unfold maxLen at hm
  have HC := (show Hid _ from hcells)
  have HW := (show Hid (∀ l ∈ L, l.length ≤ 1000) from hfew)
  obtain ⟨aF, cF, rfl, -⟩ := h.2
  have bs0 : Bk (((w.alloc (.cells #[.slice aL L.length cL, .slice aF F.length cF] 26)).alloc (.cells #[.slice none 0 0, .slice none 0 0] 26)).alloc (.cells #[] 71)) w.heap.size #[.slice aL L.length cL, .slice aF F.length cF] 26 := ((Bk.new _ _ rfl).alloc _).alloc _
  have br0 : Bk (((w.alloc (.cells #[.slice aL L.length cL, .slice aF F.length cF] 26)).alloc (.cells #[.slice none 0 0, .slice none 0 0] 26)).alloc (.cells #[] 71)) (w.heap.size + 1) #[.slice none 0 0, .slice none 0 0] 26 := (Bk.new (w := w.alloc _) _ _ (by simp)).alloc _
  have hb0 : Below w.heap.size w (((w.alloc (.cells #[.slice aL L.length cL, .slice aF F.length cF] 26)).alloc (.cells #[.slice none 0 0, .slice none 0 0] 26)).alloc (.cells #[] 71)) := bAlloc (bAlloc (bAlloc (Below.refl _ _) _) _) _
  have o0 : Own (((w.alloc (.cells #[.slice aL L.length cL, .slice aF F.length cF] 26)).alloc (.cells #[.slice none 0 0, .slice none 0 0] 26)).alloc (.cells #[] 71)) (w.heap.size + 2) (.slice (some ⟨w.heap.size + 1 + 1, 0, none⟩) 0 0) [] := by
    have := own_empty ((w.alloc (.cells #[.slice aL L.length cL, .slice aF F.length cF] 26)).alloc (.cells #[.slice none 0 0, .slice none 0 0] 26)) 71 2
    rw [show ((w.alloc (.cells #[.slice aL L.length cL, .slice aF F.length cF] 26)).alloc (.cells #[.slice none 0 0, .slice none 0 0] 26)).heap.size = w.heap.size + 1 + 1 by simp] at this
    exact this
  have T0 := (HS.out.keep hb0).2
  have hz0 : w.heap.size + 2 ≤ (((w.alloc (.cells #[.slice aL L.length cL, .slice aF F.length cF] 26)).alloc (.cells #[.slice none 0 0, .slice none 0 0] 26)).alloc (.cells #[] 71)).heap.size := by simp
  obtain ⟨s0, s1, _, _⟩ := bs0.two
  clear h hcells hfew
  go_enter Tryz.func59, Tryz.ntmps59
  go_wp2_with (at_builtin; refine appTs _ rfl _ _ rfl (w.heap.size + 2) _ [] rfl o0 _ F rfl T0 (by simp; omega) hz0 ?_; intro v5 w5 own5 hg5; obtain ⟨a5, c5, rfl⟩ : ∃ a c, v5 = .slice a F.length c := own_slice2 (l := F) own5)
  have own6 : Own w5 (w.heap.size + 2) (.slice a5 F.length c5) F := own5
  have hgx : ∀ q, (Value.slice (some ⟨w.heap.size + 1 + 1, 0, none⟩) 0 0).ownBlock = some q → w.heap.size + 2 ≤ q := fun q e => ownK_base o0 q e
  have bs5 := Bk.grew bs0 hg5 (fun q e => by have := hgx q e; omega)
  have br5 := Bk.grew br0 hg5 (fun q e => by have := hgx q e; omega)
  have hb5 : Below w.heap.size w w5 := Below.grew hb0 hg5 (by omega) (fun q e => by have := hgx q e; omega)
  have hz5 : w.heap.size + 2 ≤ w5.heap.size := Nat.le_trans hz0 hg5.size
  have bs6 := bs5.alloc (.cells #[.slice none 0 0, .slice a5 F.length c5] 26)
  have br6 := br5.alloc (.cells #[.slice none 0 0, .slice a5 F.length c5] 26)
  have bo6 : Bk (w5.alloc (.cells #[.slice none 0 0, .slice a5 F.length c5] 26)) w5.heap.size #[.slice none 0 0, .slice a5 F.length c5] 26 := Bk.new _ _ rfl
  have hb6 : Below w.heap.size w (w5.alloc (.cells #[.slice none 0 0, .slice a5 F.length c5] 26)) := bAlloc hb5 _
  have HT6 : Hid (Own (w5.alloc (.cells #[.slice none 0 0, .slice a5 F.length c5] 26)) (w.heap.size + 2) (.slice a5 F.length c5) F) := own6.alloc _
  have HTL : Hid (∀ q, (Value.slice a5 F.length c5).ownBlock = some q → q < w5.heap.size) := fun q e => ownK_lt own6 q e
  have hz6 : (w5.alloc (.cells #[.slice none 0 0, .slice a5 F.length c5] 26)).heap.size = w5.heap.size + 1 := by simp
  have HZ6 := (show Hid _ from hz6)
  clear own5 own6 hg5 bs5 br5 hb5 bs0 br0 hb0 o0 T0 s0 s1 hgx hz0 hz6
  generalize w5.heap.size = o at *
  generalize (w5.alloc (.cells #[.slice none 0 0, .slice a5 F.length c5] 26)) = w6 at *
  have HBS := (show Hid (Bk w6 w.heap.size #[.slice aL L.length cL, .slice aF F.length cF] 26) from bs6)
  have HBR := (show Hid (Bk w6 (w.heap.size + 1) #[.slice none 0 0, .slice none 0 0] 26) from br6)
  have HB6 := (show Hid (Below w.heap.size w w6) from hb6)
  have HX : Hid (∀ W, Kg [o] w6 W → Bk W w.heap.size #[.slice aL L.length cL, .slice aF F.length cF] 26 ∧ Below w.heap.size w W) := fun W hW => by
    have hz := HZ6.out
    refine ⟨?_, hW.below HB6.out (by omega) (by simp; omega)⟩
    unfold Bk; rw [hW.block _ bs6.lt (by simp; omega)]; exact bs6
  clear bs6 br6 hb6
  go_loopw [4] (fun i wr => ∃ (k : Nat) (lvk : Value) (vsk : List Value), k ≤ L.length ∧ i = .int .i64 k ∧ OwnV wr (o + 1) lvk vsk ∧ EachO wr (o + 1) vsk (L.take k) ∧ Bk wr o #[lvk, .slice a5 F.length c5] 26 ∧ Kg [o] w6 wr) (fun i _ => L.length - (intOf i).toNat)
  case atStart => exact ⟨0, _, [], by omega, rfl, ownK_nil _ _ _ _ _, EachO.nil _ _, bo6, Kg.refl _ _⟩
  case round =>
    clear bo6
    obtain ⟨k, lvk, vsk, hk, rfl, hown, heach, bo, hkg⟩ := hrel
    obtain ⟨bs, hb⟩ := HX.out _ hkg
    obtain ⟨s0, s1, _, _⟩ := bs.two
    have hzr : o + 1 ≤ wr.heap.size := by have := HZ6.out; have := hkg.size; omega
    by_cases hlt : k < L.length
    · obtain ⟨gL, off, ad, cp, rfl, hgL, c0, hR⟩ := HC.out k hlt
      have hlk := HW.out _ (gl_mem hlt)
      have HZ : Hid (L.take (k + 1) = L.take k ++ [gl L k]) := take_snoc (gl_at hlt)
      have ik : (k : Int) < (L.length : Int) := by omega
      have hvl : vsk.length ≤ 1000 := by rw [heach.len, List.length_take]; omega
      obtain ⟨av, cv, rfl⟩ := ownV_slice hown
      have HS2 : Hid (∀ W, Kg [o] w6 W → W.cell? ⟨w.heap.size, 0, none⟩ = some (.slice (some ⟨gL, off, none⟩) L.length cL) ∧ W.cell? ⟨gL, off + k, none⟩ = some (.slice ad (gl L k).length cp)) := fun W hW => ⟨(HX.out W hW).1.two.1, cell_below (HX.out W hW).2 c0⟩
      have HR2 : Hid (∀ W, Kg [o] w6 W → Rs W (.slice ad (gl L k).length cp) (gl L k)) := fun W hW => hR.keep (HX.out W hW).2
      obtain ⟨_, d0⟩ := HS2.out _ hkg
      have k0 : Kg [o] w6 wr.drew := hkg.trans (Kg.of_below (Below.refl _ _).drew)
      have k1 : Kg [o] w6 ((wr.alloc (.cells #[] 74)).drew) := hkg.trans (Kg.of_below (bAlloc (Below.refl _ _) _).drew)
      have OE : OwnR ((wr.alloc (.cells #[] 74)).drew) wr.heap.size (.slice (some ⟨wr.heap.size, 0, none⟩) 0 0) [] := ownR_empty wr rfl
      have zE : wr.heap.size ≤ ((wr.alloc (.cells #[] 74)).drew).heap.size := by simp
      have HO := (show Hid (OwnV wr (o + 1) (.slice av vsk.length cv) vsk) from hown)
      have HE := (show Hid (EachO wr (o + 1) vsk (L.take k)) from heach)
      have HBO := (show Hid (Bk wr o #[.slice av vsk.length cv, .slice a5 F.length c5] 26) from bo)
      have hbE : Below wr.heap.size wr ((wr.alloc (.cells #[] 74)).drew) := (bAlloc (Below.refl _ _) _).drew
      obtain ⟨x0, x1, _, _⟩ := bo.two
      obtain ⟨x2, x3, _, _⟩ := (bo.keep hbE).two
      obtain ⟨x4, x5, _, _⟩ := bo.drew.two
      have holt := bo.lt
      clear hown heach hR c0 bs hb
      generalize hGL : gl L k = G at *
      have RE := HR2.out _ k1
      go_wp2_with fail
      obtain ⟨i0, j0⟩ := HS2.out _ k0
      obtain ⟨i1, j1⟩ := HS2.out _ k1
      obtain ⟨i2, j2⟩ := HS2.out _ (hkg.trans (Kg.of_below (bAlloc (Below.refl _ _) (.cells #[] 74))))
      obtain ⟨x9, _, _, _⟩ := (bo.alloc (.cells #[] 74)).two
      clear bo
      go_region_law (first
          | (refine stepRs _ rfl _ _ rfl wr.heap.size _ [] rfl OE _ G rfl RE (by simp; omega) zE ?_; intro v7 w7 own7 hg7; obtain ⟨a7, c7, rfl⟩ : ∃ a c, v7 = .slice a G.length c := (by obtain ⟨a, c, e, _⟩ := Rs.open (OwnR.rs own7 (by simp; omega)); exact ⟨a, c, by simpa using e⟩); have own7' : OwnR w7 wr.heap.size (.slice a7 G.length c7) G := own7; have hb7 : Below wr.heap.size wr w7 := Below.grew hbE hg7 zE (ownK_base OE); have k5 : Kg [o] w6 w7 := hkg.trans (Kg.of_below hb7); have hb8 : Below wr.heap.size wr (w7.alloc (.cells #[.slice a7 G.length c7] 33)) := bAlloc hb7 _; have k6 : Kg [o] w6 (w7.alloc (.cells #[.slice a7 G.length c7] 33)) := hkg.trans (Kg.of_below hb8); have O8 : OwnV (w7.alloc (.cells #[.slice a7 G.length c7] 33)) (o + 1) (.slice av vsk.length cv) vsk := own_keep HO.out hb8; have B8 : Bk (w7.alloc (.cells #[.slice a7 G.length c7] 33)) w7.heap.size #[.slice a7 G.length c7] 33 := Bk.new _ _ rfl; have hz8 : o + 1 ≤ (w7.alloc (.cells #[.slice a7 G.length c7] 33)).heap.size := Nat.le_trans hzr hb8.size; obtain ⟨x6, _, _, _⟩ := (HBO.out.keep hb7).two; obtain ⟨x8, _, _, _⟩ := (HBO.out.keep hb8).two; obtain ⟨i5, j5⟩ := HS2.out _ k5; obtain ⟨i6, j6⟩ := HS2.out _ k6)
          | (refine stepV _ rfl _ _ rfl (o + 1) (.slice av vsk.length cv) vsk rfl O8 w7.heap.size a7 G.length c7 rfl B8 (Nat.le_trans hvl (by omega)) hz8 ?_; intro g9 cap9 w9 own9 hg9 hl9; have bo9 := Bk.grew (HBO.out.keep hb8) hg9 (fun q e => by have := ownK_base O8 q e; omega); have k7 : Kg [o] w6 w9 := k6.grew hg9 (fun q e => by have := ownK_base O8 q e; have := HZ6.out; omega); have k8 : Kg [o] w6 (w9.setCell ⟨o, 0, none⟩ (.slice (some ⟨g9, 0, none⟩) (vsk.length + 1) cap9)) := k7.trans (Kg.set 0 _); obtain ⟨y0, y1, f0, f1⟩ := bo9.two))
      all_goals
        have bo10 : Bk (w9.setCell ⟨o, 0, none⟩ (.slice (some ⟨g9, 0, none⟩) (vsk.length + 1) cap9)) o #[.slice (some ⟨g9, 0, none⟩) (vsk.length + 1) cap9, .slice a5 F.length c5] 26 := by simpa using bo9.set 0 (.slice (some ⟨g9, 0, none⟩) (vsk.length + 1) cap9)
        have HF : Hid (OwnV (w9.setCell ⟨o, 0, none⟩ (.slice (some ⟨g9, 0, none⟩) (vsk.length + 1) cap9)) (o + 1) (.slice (some ⟨g9, 0, none⟩) (vsk.length + 1) cap9) (vsk ++ [.slice a7 G.length c7]) ∧ EachO (w9.setCell ⟨o, 0, none⟩ (.slice (some ⟨g9, 0, none⟩) (vsk.length + 1) cap9)) (o + 1) (vsk ++ [.slice a7 G.length c7]) (L.take (k + 1)) ∧ Bk (w9.setCell ⟨o, 0, none⟩ (.slice (some ⟨g9, 0, none⟩) (vsk.length + 1) cap9)) o #[.slice (some ⟨g9, 0, none⟩) (vsk.length + 1) cap9, .slice a5 F.length c5] 26 ∧ Kg [o] w6 (w9.setCell ⟨o, 0, none⟩ (.slice (some ⟨g9, 0, none⟩) (vsk.length + 1) cap9))) := by
          have hset : ∀ q, o + 1 ≤ q → (w9.setCell ⟨o, 0, none⟩ (.slice (some ⟨g9, 0, none⟩) (vsk.length + 1) cap9)).heap[q]? = w9.heap[q]? := fun q hq => Below.heap_setCell _ _ _ _ (show q ≠ o by omega)
          refine ⟨ownK_at own9 fun q e => hset q (ownK_base own9 q e), ?_, bo10, k8⟩
          have e1 : EachO (w7.alloc (.cells #[.slice a7 G.length c7] 33)) (o + 1) (vsk ++ [.slice a7 G.length c7]) (L.take (k + 1)) := by
            rw [HZ.out]
            refine (HE.out.keep hb8).snoc (own_less (own7'.alloc _) hzr) hlk fun q e hq => ?_
            have h1 := ownK_base own7' q e
            obtain ⟨c, hc, _⟩ := HE.out.blk hq
            have := hc.lt
            omega
          exact (e1.grewV O8 hg9).mono2 hset
        obtain ⟨z0, z1, _, _⟩ := bo10.two
        clear own9 bo9 bo10 k5 k6 k7 k8 O8 B8 own7 own7' hb7 hb8 hg7 hg9 y0 y1 f0 f1 x0 x1 x2 x3 x4 x5 x6 x8 x9 s0 s1 d0 OE RE hbE k0 k1 i0 i1 i2 i5 i6 j0 j1 j2 j5 j6
        generalize w9.setCell ⟨o, 0, none⟩ (.slice (some ⟨g9, 0, none⟩) (vsk.length + 1) cap9) = wN at *
        go_wp2_with fail
        go_roundw
        case rel => exact ⟨k + 1, _, _, by omega, by go_num, HF.out.1, HF.out.2.1, HF.out.2.2.1, HF.out.2.2.2⟩
        case measure => simp [intOf]; omega
    · obtain rfl : k = L.length := by omega
      rw [List.take_length] at heach
      have hvl := heach.len
      obtain ⟨av, cv, rfl⟩ := ownV_slice hown
      rw [hvl] at hown bo
      have br : Bk wr (w.heap.size + 1) #[.slice none 0 0, .slice none 0 0] 26 := by unfold Bk; rw [hkg.block _ HBR.out.lt (by simp; omega)]; exact HBR.out
      obtain ⟨z0, z1, _, _⟩ := bo.two
      obtain ⟨y0, y1, f0, f1⟩ := br.two
      have q9 := br.set 0 (.slice av L.length cv)
      have q8 := q9.set 1 (.slice a5 F.length c5)
      obtain ⟨t0, t1, _, f2⟩ := q9.two
      obtain ⟨u0, u1, _, _⟩ := q8.two
      have HF : Hid (SpO ((wr.setCell ⟨w.heap.size + 1, 0, none⟩ (.slice av L.length cv)).setCell ⟨w.heap.size + 1, 1, none⟩ (.slice a5 F.length c5)) w.heap.size (.slice av L.length cv) (.slice a5 F.length c5) L F ∧ Below w.heap.size w ((wr.setCell ⟨w.heap.size + 1, 0, none⟩ (.slice av L.length cv)).setCell ⟨w.heap.size + 1, 1, none⟩ (.slice a5 F.length c5))) := by
        refine ⟨SpO.less (B := w.heap.size + 2) (SpO.set2 (B := w.heap.size + 2) ⟨vsk, own_less hown (by omega), heach.less (by omega), ownK_at HT6.out fun q e => hkg.block q (by have := HTL.out q e; have := HZ6.out; omega) (by have := HTL.out q e; simp; omega)⟩ (by omega)) (by omega), (hb.setCell (show w.heap.size ≤ w.heap.size + 1 by omega) _).setCell (show w.heap.size ≤ w.heap.size + 1 by omega) _⟩
      clear q8 q9 br bo hown heach hkg bs hb
      go_wp2_with fail
      refine bodyPost_ret (v := spv (.slice av L.length cv) (.slice a5 F.length c5)) (by simp [results, Tryz.results59, go_sem, u0, u1]) rfl ?_
      exact ⟨_, _, rfl, HF.out.1, HF.out.2⟩
end Go.Proofs.YtjkojbafifbdgaaGreat
