import Derived.Test.YtldejkhemkjcgaaGreatDoorGj2
import Derived.Test.YtldejkhemkjcgaaGreatDoorGj1
import Derived.Test.YtldejkhemkjcgaaGreatDoorGtX
import Derived.Deep.RegionHeld3
import Derived.Test.YtldejkhemkjcgaaGreatDoorTo1
import Derived.Test.YtldejkhemkjcgaaGreatDoorGk2
namespace Go.Proofs.YtldejkhemkjcgaaGreatDoor
open Go.RowKit
open Go.ChangeMaps (setBlock)
attribute [local go_sem ↓] Go.wp_at_zero Go.wp_at_succ
theorem zeroW : ∀ w : World, (zeroValue 211).run Tryz.prog w = .ok (wz 0) w := Tryz.zeroValue211
theorem plus_z (a b : Int) (w : World) : Calls Tryz.prog 169 #[wz a, wz b] w fun e w' => e = .returned (wz (a + b)) ∧ Below w.heap.size w w' := by
  have b1 : ∀ z, wL z < 18446744073709551616 := fun z => by unfold wL; omega
  have h := plus_any (wH a) (wL a) (wH b) (wL b) (b1 a) (b1 b) w
  rw [(w_plus (a := a) (b := b)).1, (w_plus (a := a) (b := b)).2] at h
  exact h
theorem cell_setBlock {W : World} {b g i : Nat} {o : Obj} (h : g ≠ b) : (setBlock W b o).cell? ⟨g, i, none⟩ = W.cell? ⟨g, i, none⟩ := World.cell?_of_block (w := W) (setBlock_at h)
theorem tot_row {M s t : List It} {i k : Nat} {x y : It} (hM : ∀ z, tot M z = tot (pairT (s.take i) t ++ rowT x (t.take k)) z) (hy : t[k]? = some y) (e : x.1.1 = y.1.1) {M' : List It} (hM' : ∀ z, tot M' z = if (x.1.1, pv x.1.2 y.1.2) = z then tot M (x.1.1, pv x.1.2 y.1.2) + x.2 * y.2 else tot M z) (z : Int × Int) :
    tot M' z = tot (pairT (s.take i) t ++ rowT x (t.take (k + 1))) z := by
  rw [hM', row_yes hy e, ← List.append_assoc, tot_snoc]
  by_cases h : (x.1.1, pv x.1.2 y.1.2) = z
  · rw [if_pos h, if_pos h, h, hM]
  · rw [if_neg h, if_neg h, hM]; omega
theorem pr_ok {K V V2 : Int} (h0 : 0 ≤ K) (h3 : K ≤ 3) : thOk (K, pv V V2) := ⟨by unfold fit63; omega, by unfold fit63 pv; omega⟩
set_option maxRecDepth 100000 in
set_option maxHeartbeats 16000000 in
theorem pairsOf_few (v u : Value) (s t : List It) (w : World) (h : Is w v s) (h' : Is w u t) (hk : sokB s = true) (hk' : sokB t = true) (as' : absum s ≤ 1200000) (at' : absum t ≤ 1200000) :
    Calls Tryz.prog 149 #[v, u] w fun e w' => ∃ (b : Nat) (M : List It), e = .returned (.map (some b)) ∧ w.heap.size ≤ b ∧ MapWs thV thOk w' b M ∧ (∀ z, tot M z = tot (pairT s t) z) ∧ M.length ≤ 200000 ∧ Below w.heap.size w w' := by
  have hls := sok_len hk
  have hlt' := sok_len hk'
  have HKS : Hid (∀ (k : Nat) (x : Int × Int) (d : Int), s[k]? = some (x, d) → itK x) := fun k x d hr => sok_k hk _ (List.mem_of_getElem? hr)
  have HKT : Hid (∀ (k : Nat) (x : Int × Int) (d : Int), t[k]? = some (x, d) → itK x) := fun k x d hr => sok_k hk' _ (List.mem_of_getElem? hr)
  have HAS : Hid (∀ (k : Nat) (r : It), s[k]? = some r → -1200000 ≤ r.2 ∧ r.2 ≤ 1200000) := fun k r hr => by have := abs_mem hr; omega
  have HAT : Hid (∀ (k : Nat) (r : It), t[k]? = some r → -1200000 ≤ r.2 ∧ r.2 ≤ 1200000) := fun k r hr => by have := abs_mem hr; omega
  have hmm := @run_makeMap Tryz.prog
  have m0 : MapWs thV thOk (w.alloc (.map #[] 0)) w.heap.size [] := MapWs.new w rfl
  have hbm : Below w.heap.size w (w.alloc (.map #[] 0)) := bAlloc (Below.refl _ _) _
  have hsm : w.heap.size < (w.alloc (.map #[] 0)).heap.size := by simp
  obtain ⟨aS, cS, rfl, hcS, hmS, hnS, hcellS⟩ := Is.open (h.keep hbm)
  obtain ⟨aT, cT, rfl, hcT, hmT, hnT, hcellT⟩ := Is.open (h'.keep hbm)
  unfold maxLen at hmS hmT
  have HSLT : Hid (∀ i, i < s.length → ∀ g off, aS = some ⟨g, off, none⟩ → g < w.heap.size) := fun i hi g off e => by
    obtain ⟨a1, c1, e1, _, _, _, hc⟩ := Is.open h
    obtain ⟨g', off', _, _, _, e2, hg, _⟩ := hc i hi
    simp only [Value.slice.injEq] at e1
    rw [← e1.1, e] at e2; cases e2; exact hg
  have HTLT : Hid (∀ i, i < t.length → ∀ g off, aT = some ⟨g, off, none⟩ → g < w.heap.size) := fun i hi g off e => by
    obtain ⟨a1, c1, e1, _, _, _, hc⟩ := Is.open h'
    obtain ⟨g', off', _, _, _, e2, hg, _⟩ := hc i hi
    simp only [Value.slice.injEq] at e1
    rw [← e1.1, e] at e2; cases e2; exact hg
  have HCS := (show Hid _ from hcellS)
  have HCT := (show Hid _ from hcellT)
  clear hcellS hcellT h h' hk hk'
  go_enter Tryz.func149, Tryz.ntmps149
  go_upto_region 2 with fail
  clear hmm
  generalize hMB : w.heap.size = mb at *
  generalize (w.alloc (.map #[] 0)) = w0 at *
  have HMB : Hid (w.heap.size = mb) := hMB
  clear hMB
  go_wp2_with fail
  go_loopw [14] (fun i wr => ∃ (k : Nat) (M : List It), k ≤ s.length ∧ i = .int .i64 k ∧ MapWs thV thOk wr mb M ∧ (∀ z, tot M z = tot (pairT (s.take k) t) z) ∧ M.length ≤ k * 400 ∧ Bx mb w0 wr) (fun i _ => s.length - (intOf i).toNat)
  case atStart => exact ⟨0, [], by omega, rfl, m0, fun z => by simp [pairT], by simp, Bx.refl _ _⟩
  case round =>
    clear m0
    obtain ⟨i, M, his, rfl, hmap, htot, hML, hx⟩ := hrel
    by_cases hlt : i < s.length
    · obtain ⟨g, off, K, V, D, rfl, hg, hr, c0, c1, c2⟩ := HCS.out i hlt
      have hgm : g ≠ mb := by have := HSLT.out i hlt _ _ rfl; omega
      have d0 : wr.cell? ⟨g, off + i * 3, none⟩ = some (.int .i64 K) := by rw [World.cell?_of_block (w := w0) (hx.block g hg hgm)]; exact c0
      have d1 : wr.cell? ⟨g, off + i * 3 + 1, none⟩ = some (.int .i64 V) := by rw [World.cell?_of_block (w := w0) (hx.block g hg hgm)]; exact c1
      have d2 : wr.cell? ⟨g, off + i * 3 + 2, none⟩ = some (.int .i64 D) := by rw [World.cell?_of_block (w := w0) (hx.block g hg hgm)]; exact c2
      have ii : ((i : Int) < (s.length : Int)) := by omega
      have HZ := (show Hid _ from pair_snoc t hr)
      obtain ⟨i1, i2, i3, i4⟩ := HKS.out i _ _ hr
      simp only at i1 i2 i3 i4
      obtain ⟨hD1, hD2⟩ := HAS.out i _ hr
      simp only at hD1 hD2
      clear hr c0 c1 c2
      have hbt : Below wr.heap.size wr (wr.alloc (.cells #[.int .i64 K, .int .i64 V, .int .i64 D] 63)) := bAlloc (Below.refl _ _) _
      have bx0 := Bk.new (w := wr) #[.int .i64 K, .int .i64 V, .int .i64 D] 63 rfl
      have hmap1 := hmap.keep hbt
      have hx1 := hx.trans (Bx.of_below hbt)
      have hmlt := hmap.lt
      have HT : Hid (∀ z, tot M z = tot (pairT (s.take i) t) z) := htot
      have hxb : wr.heap.size ≠ mb := by omega
      go_upto_region 5 with fail
      clear d0 d1 d2 hmap hx hbt htot
      generalize hXB : wr.heap.size = xb at *
      generalize World.alloc _ _ = wx at *
      clear hXB
      go_wp2_with fail
      go_loopw [20] (fun j wr => ∃ (k : Nat) (M : List It), k ≤ t.length ∧ j = .int .i64 k ∧ MapWs thV thOk wr mb M ∧ (∀ z, tot M z = tot (pairT (s.take i) t ++ rowT ((K, V), D) (t.take k)) z) ∧ M.length ≤ i * 400 + k ∧ Bx mb wx wr) (fun j _ => t.length - (intOf j).toNat)
      case atStart => exact ⟨0, M, by omega, rfl, hmap1, fun z => by rw [HT.out]; simp [rowT], by omega, Bx.refl _ _⟩
      case round =>
        clear hmap1 HT hML
        obtain ⟨k, M, hkt, rfl, hmap, htot, hML, hx⟩ := hrel
        by_cases hlt2 : k < t.length
        · obtain ⟨g2, off2, K2, V2, D2, rfl, hg2, hr2, c0, c1, c2⟩ := HCT.out k hlt2
          have hgm2 : g2 ≠ mb := by have := HTLT.out k hlt2 _ _ rfl; omega
          have hx2 := hx1.trans hx
          have d0 : wr.cell? ⟨g2, off2 + k * 3, none⟩ = some (.int .i64 K2) := by rw [World.cell?_of_block (w := w0) (hx2.block g2 hg2 hgm2)]; exact c0
          have d1 : wr.cell? ⟨g2, off2 + k * 3 + 1, none⟩ = some (.int .i64 V2) := by rw [World.cell?_of_block (w := w0) (hx2.block g2 hg2 hgm2)]; exact c1
          have d2 : wr.cell? ⟨g2, off2 + k * 3 + 2, none⟩ = some (.int .i64 D2) := by rw [World.cell?_of_block (w := w0) (hx2.block g2 hg2 hgm2)]; exact c2
          have ik : ((k : Int) < (t.length : Int)) := by omega
          obtain ⟨j1, j2, j3, j4⟩ := HKT.out k _ _ hr2
          simp only at j1 j2 j3 j4
          obtain ⟨hE1, hE2⟩ := HAT.out k _ hr2
          simp only at hE1 hE2
          have HR2 := (show Hid (t[k]? = some ((K2, V2), D2)) from hr2)
          have HT : Hid (∀ z, tot M z = tot (pairT (s.take i) t ++ rowT ((K, V), D) (t.take k)) z) := htot
          have hbt : Below wr.heap.size wr (wr.alloc (.cells #[.int .i64 K2, .int .i64 V2, .int .i64 D2] 63)) := bAlloc (Below.refl _ _) _
          have by0 := Bk.new (w := wr) #[.int .i64 K2, .int .i64 V2, .int .i64 D2] 63 rfl
          have hmap2 := hmap.keep hbt
          have hx3 := hx.trans (Bx.of_below hbt)
          have hmlt2 := hmap.lt
          have bx1 : Bk (wr.alloc (.cells #[.int .i64 K2, .int .i64 V2, .int .i64 D2] 63)) xb #[.int .i64 K, .int .i64 V, .int .i64 D] 63 := by
            unfold Bk; rw [hx3.block xb bx0.lt hxb]; exact bx0
          have hyb : wr.heap.size ≠ mb := by omega
          clear hr2 c0 c1 c2 htot
          go_upto_region 8 with fail
          clear d0 d1 d2 hmap hx hbt hx2
          generalize hYB : wr.heap.size = yb at *
          generalize World.alloc _ _ = wy at *
          clear hYB
          obtain ⟨x0, x1, x2⟩ := bx1.three
          obtain ⟨y0, y1, y2⟩ := by0.three
          by_cases hK : K = K2
          · subst hK
            have HX : Hid (∀ W, Below wy.heap.size wy W → W.cell? ⟨xb, 0, none⟩ = some (.int .i64 K) ∧ W.cell? ⟨xb, 1, none⟩ = some (.int .i64 V) ∧ W.cell? ⟨yb, 1, none⟩ = some (.int .i64 V2)) :=
              fun W hW => ⟨cell_below hW x0, cell_below hW x1, cell_below hW y1⟩
            have hbD : Below wy.heap.size wy wy.drew := (Below.refl _ _).drew
            have hbA : Below wy.heap.size wy (wy.alloc (.cells #[.int .i64 0, .int .i64 0] 82)).drew := (bAlloc (Below.refl _ wy) _).drew
            have HC1 : Hid (∀ W wc, Below wy.heap.size wy W → Below W.heap.size W wc → Below wy.heap.size wy wc) := fun W wc hW hbc => bStep hW hbc
            go_wp2_with fail
            have HST : Hid (∀ wc u v, Below wy.heap.size wy wc → Below wy.heap.size wy ((wc.setCell ⟨wy.heap.size, 0, none⟩ u).setCell ⟨wy.heap.size, 1, none⟩ v)) := fun wc u v hW =>
              (hW.setCell (Nat.le_refl _) _).setCell (Nat.le_refl _) _
            go_region_held3 (fun W => W.cell? ⟨xb, 0, none⟩ = some (.int .i64 K) ∧ W.cell? ⟨xb, 1, none⟩ = some (.int .i64 V) ∧ W.cell? ⟨yb, 1, none⟩ = some (.int .i64 V2))
              (first | exact HX.out _ (HST.out _ _ _ hbc2) | exact HX.out _ hbc2 | exact HX.out _ (bAlloc hbc2 _) | exact HX.out _ hbD | exact HX.out _ (bAlloc hbD _) | exact HX.out _ hbA)
              (first
                | (go_at_call 141; with_reducible refine (pairVal_any i3 i4 j3 j4 _).mono ?_; rintro e wc ⟨rfl, hbc⟩; with_reducible refine newfd_k hbc ?_; intro n0 n1 n2 n3 n4; have hbc2 := HC1.out _ _ hbA hbc)
                | (go_at_call 141; with_reducible refine (pairVal_any i3 i4 j3 j4 _).mono ?_; rintro e wc ⟨rfl, hbc⟩; have hbc2 := HC1.out _ _ hbD hbc))
            · have bp := Bk.new (w := wc) #[.int .i64 K, .int .i64 (pv V V2)] 82 rfl
              have hbp := bAlloc hbc2 (.cells #[.int .i64 K, .int .i64 (pv V V2)] 82)
              have hpm : wc.heap.size ≠ mb := by have h1 := hbc2.size; have h2 := hmap2.lt; omega
              clear hbc hbc2
              generalize wc.heap.size = pb at *
              generalize World.alloc wc _ = wp at *
              have hmap3 := hmap2.keep hbp
              have hx4 := hx3.trans (Bx.of_below hbp)
              obtain ⟨p0, p1, -, -⟩ := bp.two
              have x2' := cell_below hbp x2
              have y2' := cell_below hbp y2
              have hok : thOk (K, pv V V2) := pr_ok i1 i2
              have hmlt3 := hmap3.lt
              have HXP : Hid (∀ W, Below wp.heap.size wp W → (W.cell? ⟨pb, 0, none⟩ = some (.int .i64 K) ∧ W.cell? ⟨pb, 1, none⟩ = some (.int .i64 (pv V V2))) ∧ W.cell? ⟨xb, 2, none⟩ = some (.int .i64 D) ∧ W.cell? ⟨yb, 2, none⟩ = some (.int .i64 D2)) :=
                fun W hW => ⟨⟨cell_below hW p0, cell_below hW p1⟩, cell_below hW x2', cell_below hW y2'⟩
              have HXS : Hid (∀ W o, Below wp.heap.size wp W → ((setBlock W mb o).cell? ⟨pb, 0, none⟩ = some (.int .i64 K) ∧ (setBlock W mb o).cell? ⟨pb, 1, none⟩ = some (.int .i64 (pv V V2))) ∧ (setBlock W mb o).cell? ⟨xb, 2, none⟩ = some (.int .i64 D) ∧ (setBlock W mb o).cell? ⟨yb, 2, none⟩ = some (.int .i64 D2)) :=
                fun W o hW => by rw [cell_setBlock hpm, cell_setBlock hpm, cell_setBlock hxb, cell_setBlock hyb]; exact HXP.out W hW
              have HLK : Hid (∀ W, Below wp.heap.size wp W → (Instr.lookup 179 (.map (some mb)) (thV (K, pv V V2)) false).run Tryz.prog W = .ok (wz (tot M (K, pv V V2))) W) := fun W hW => (hmap3.keep hW).look encT Tryz.underlying179 zeroW hok
              have HPT : Hid (∀ W, Below wp.heap.size wp W → ∃ (o2 : Obj) (M' : List It), (Instr.mapUpdate 179 (.map (some mb)) (thV (K, pv V V2)) (wz (tot M (K, pv V V2) + D * D2))).run Tryz.prog W = .ok () (setBlock W mb o2) ∧ MapWs thV thOk (setBlock W mb o2) mb M' ∧ (∀ z, tot M' z = tot (pairT (s.take i) t ++ rowT ((K, V), D) (t.take (k + 1))) z) ∧ M'.length ≤ M.length + 1 ∧ Bx mb wx (setBlock W mb o2)) := fun W hW => by
                obtain ⟨o2, M', e1, h1, h2, h3⟩ := (hmap3.keep hW).put encT Tryz.underlying179 hok (tot M (K, pv V V2) + D * D2)
                exact ⟨o2, M', e1, h1, fun z => tot_row (x := ((K, V), D)) HT.out HR2.out rfl h2 z, h3, (hx4.trans (Bx.of_below hW)).putMap o2⟩
              have hbP : Below wp.heap.size wp wp.drew := (Below.refl _ _).drew
              have lk0 := HLK.out _ hbP
              have HCP : Hid (∀ W wc, Below wp.heap.size wp W → Below W.heap.size W wc → Below wp.heap.size wp wc) := fun W wc hW hbc => bStep hW hbc
              clear HT HX x0 x1 x2 y0 y1 y2 p0 p1 x2' y2' hmap2 hx3 hbp bp hx4
              generalize tot M (K, pv V V2) = T at *
              go_wp2_with fail
              go_region_held3 (fun W => (W.cell? ⟨pb, 0, none⟩ = some (.int .i64 K) ∧ W.cell? ⟨pb, 1, none⟩ = some (.int .i64 (pv V V2))) ∧ W.cell? ⟨xb, 2, none⟩ = some (.int .i64 D) ∧ W.cell? ⟨yb, 2, none⟩ = some (.int .i64 D2))
                (first | exact HXS.out _ _ hq2 | exact HXP.out _ hq2 | exact HXP.out _ hq | exact HXP.out _ hbP)
                (first
                  | (go_at_call 170; with_reducible refine (productOf_few ⟨hD1, hD2⟩ ⟨hE1, hE2⟩ _).mono ?_; rintro e wc ⟨rfl, hbc⟩; have hq := HCP.out _ _ hbP hbc; have lk := HLK.out _ hq)
                  | (go_at_call 169; with_reducible refine (plus_z T (D * D2) _).mono ?_; rintro e wd ⟨rfl, hbd⟩; have hq2 := HCP.out _ _ hq hbd; obtain ⟨o2, M', e1, hM', ht', hl', hx5⟩ := HPT.out _ hq2))
              all_goals
                go_wp2_with fail
                go_roundw
                case rel => exact ⟨k + 1, M', by omega, by go_num, hM', ht', by omega, hx5⟩
                case measure => simp [intOf]; omega
            · have bp := ((Bk2.new (w := wy) (.int .i64 0) (.int .i64 0) 82 rfl).drew.keep hbc).set01 (.int .i64 K) (.int .i64 (pv V V2))
              have hbp := HST.out _ (.int .i64 K) (.int .i64 (pv V V2)) hbc2
              have hpm : wy.heap.size ≠ mb := by have h2 := hmap2.lt; omega
              clear hbc hbc2 n0 n1 n2 n3 n4 hbA HST
              generalize World.setCell (World.setCell wc _ _) _ _ = wp at *
              have hmap3 := hmap2.keep hbp
              have hx4 := hx3.trans (Bx.of_below hbp)
              obtain ⟨p0, p1, -, -⟩ := bp.two
              have x2' := cell_below hbp x2
              have y2' := cell_below hbp y2
              have hok : thOk (K, pv V V2) := pr_ok i1 i2
              have hmlt3 := hmap3.lt
              have HXP : Hid (∀ W, Below wp.heap.size wp W → (W.cell? ⟨wy.heap.size, 0, none⟩ = some (.int .i64 K) ∧ W.cell? ⟨wy.heap.size, 1, none⟩ = some (.int .i64 (pv V V2))) ∧ W.cell? ⟨xb, 2, none⟩ = some (.int .i64 D) ∧ W.cell? ⟨yb, 2, none⟩ = some (.int .i64 D2)) :=
                fun W hW => ⟨⟨cell_below hW p0, cell_below hW p1⟩, cell_below hW x2', cell_below hW y2'⟩
              have HXS : Hid (∀ W o, Below wp.heap.size wp W → ((setBlock W mb o).cell? ⟨wy.heap.size, 0, none⟩ = some (.int .i64 K) ∧ (setBlock W mb o).cell? ⟨wy.heap.size, 1, none⟩ = some (.int .i64 (pv V V2))) ∧ (setBlock W mb o).cell? ⟨xb, 2, none⟩ = some (.int .i64 D) ∧ (setBlock W mb o).cell? ⟨yb, 2, none⟩ = some (.int .i64 D2)) :=
                fun W o hW => by rw [cell_setBlock hpm, cell_setBlock hpm, cell_setBlock hxb, cell_setBlock hyb]; exact HXP.out W hW
              have HLK : Hid (∀ W, Below wp.heap.size wp W → (Instr.lookup 179 (.map (some mb)) (thV (K, pv V V2)) false).run Tryz.prog W = .ok (wz (tot M (K, pv V V2))) W) := fun W hW => (hmap3.keep hW).look encT Tryz.underlying179 zeroW hok
              have HPT : Hid (∀ W, Below wp.heap.size wp W → ∃ (o2 : Obj) (M' : List It), (Instr.mapUpdate 179 (.map (some mb)) (thV (K, pv V V2)) (wz (tot M (K, pv V V2) + D * D2))).run Tryz.prog W = .ok () (setBlock W mb o2) ∧ MapWs thV thOk (setBlock W mb o2) mb M' ∧ (∀ z, tot M' z = tot (pairT (s.take i) t ++ rowT ((K, V), D) (t.take (k + 1))) z) ∧ M'.length ≤ M.length + 1 ∧ Bx mb wx (setBlock W mb o2)) := fun W hW => by
                obtain ⟨o2, M', e1, h1, h2, h3⟩ := (hmap3.keep hW).put encT Tryz.underlying179 hok (tot M (K, pv V V2) + D * D2)
                exact ⟨o2, M', e1, h1, fun z => tot_row (x := ((K, V), D)) HT.out HR2.out rfl h2 z, h3, (hx4.trans (Bx.of_below hW)).putMap o2⟩
              have hbP : Below wp.heap.size wp wp.drew := (Below.refl _ _).drew
              have lk0 := HLK.out _ hbP
              have HCP : Hid (∀ W wc, Below wp.heap.size wp W → Below W.heap.size W wc → Below wp.heap.size wp wc) := fun W wc hW hbc => bStep hW hbc
              clear HT HX x0 x1 x2 y0 y1 y2 p0 p1 x2' y2' hmap2 hx3 hbp bp hx4
              generalize tot M (K, pv V V2) = T at *
              go_wp2_with fail
              go_region_held3 (fun W => (W.cell? ⟨wy.heap.size, 0, none⟩ = some (.int .i64 K) ∧ W.cell? ⟨wy.heap.size, 1, none⟩ = some (.int .i64 (pv V V2))) ∧ W.cell? ⟨xb, 2, none⟩ = some (.int .i64 D) ∧ W.cell? ⟨yb, 2, none⟩ = some (.int .i64 D2))
                (first | exact HXS.out _ _ hq2 | exact HXP.out _ hq2 | exact HXP.out _ hq | exact HXP.out _ hbP)
                (first
                  | (go_at_call 170; with_reducible refine (productOf_few ⟨hD1, hD2⟩ ⟨hE1, hE2⟩ _).mono ?_; rintro e wc ⟨rfl, hbc⟩; have hq := HCP.out _ _ hbP hbc; have lk := HLK.out _ hq)
                  | (go_at_call 169; with_reducible refine (plus_z T (D * D2) _).mono ?_; rintro e wd ⟨rfl, hbd⟩; have hq2 := HCP.out _ _ hq hbd; obtain ⟨o2, M', e1, hM', ht', hl', hx5⟩ := HPT.out _ hq2))
              all_goals
                go_wp2_with fail
                go_roundw
                case rel => exact ⟨k + 1, M', by omega, by go_num, hM', ht', by omega, hx5⟩
                case measure => simp [intOf]; omega
          · have nx : (K == K2) = false := beq_eq_false_iff_ne.2 hK
            go_wp2_with fail
            go_roundw
            case rel => exact ⟨k + 1, M, by omega, by go_num, hmap2, fun z => by rw [HT.out, row_no HR2.out hK], by omega, hx3⟩
            case measure => simp [intOf]; omega
        · obtain rfl : k = t.length := by omega
          go_wp2_with fail
          go_roundw
          case rel => exact ⟨i + 1, M, by omega, by go_num, hmap, fun z => by rw [htot, List.take_length, ← HZ.out], by omega, hx1.trans hx⟩
          case measure => simp [intOf]; omega
    · obtain rfl : i = s.length := by omega
      go_wp2_with fail
      go_ret
      exact ⟨mb, M, rfl, by have := HMB.out; omega, hmap, fun z => by rw [htot, List.take_length], by omega, by
        have := HMB.out
        exact hx.below (by rw [this]; exact hbm) (by omega) (by omega)⟩
end Go.Proofs.YtldejkhemkjcgaaGreatDoor
namespace Go.Proofs.YtldejkhemkjcgaaGreatDoor
open Go.RowKit
set_option maxHeartbeats 4000000 in
theorem pairItems_few (v u : Value) (s t : List It) (w : World) (h : Is w v s) (h' : Is w u t) (hk : sokB s = true) (hk' : sokB t = true) (as' : absum s ≤ 1200000) (at' : absum t ≤ 1200000) :
    Calls Tryz.prog 98 #[v, u] w fun e w' => ∃ o : Value, e = .returned (.tuple #[o, .bool true]) ∧ OwnI w' w.heap.size o (sumL ltT (pairT s t)) ∧ Below w.heap.size w w' := by
  have HA : Hid (absum (pairT s t) ≤ 1440000000000) := by
    have h1 := pair_abs s t
    have h2 : absum s * absum t ≤ 1200000 * 1200000 := Int.mul_le_mul as' at' (absum_pos t) (by omega)
    show _ ≤ _; omega
  go_enter Tryz.func98, Tryz.ntmps98
  go_wp2_with fail
  refine (pairsOf_few v u s t w h h' hk hk' as' at').mono ?_
  rintro e w1 ⟨b, M, rfl, -, hM, htot, hMl, hb1⟩
  have hs1 := hb1.size
  go_wp2_with fail
  refine (toldItems_few b M (pairT s t) _ hM htot (by omega) (by have := HA.out; omega)).mono ?_
  rintro e w2 ⟨o, rfl, own2, hb2⟩
  have HO : Hid (OwnI w2 w1.heap.size o (sumL ltT (pairT s t))) := own2
  clear own2
  go_wp2_with fail
  refine bodyPost_ret (by simp [results, Tryz.results98, go_sem]; try rfl) rfl ?_
  exact ⟨_, rfl, own_less HO.out hs1, bStep hb1 hb2⟩
end Go.Proofs.YtldejkhemkjcgaaGreatDoor
namespace Go.Proofs.YtldejkhemkjcgaaGreatDoor
open Go.RowKit
end Go.Proofs.YtldejkhemkjcgaaGreatDoor
