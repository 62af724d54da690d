/- What the closure of ledTo does to its sums: the contract. -/
import Derived.Test.YtjlaeeccnbdghaaTo1
namespace Go.Proofs.Ytjlaeeccnbdghaa
open Go.RowKit
open Go.ChangeMaps (setBlock)
attribute [local go_sem ↓] Go.wp_at_zero Go.wp_at_succ

theorem zeroWt : ∀ w : World, (zeroValue 101).run Try.prog w = .ok (wz 0) w := Try.zeroValue101
theorem plus_zt (a b : Int) (w : World) : Calls Try.prog 74 #[wz a, wz b] w fun e w' => e = .returned (wz (a + b)) ∧ Below w.heap.size w w' := by
  have b1 : ∀ z, wL z < 18446744073709551616 := fun z => by unfold wL; omega
  have h := plus_any (wH a) (wL a) (wH b) (wL b) (b1 a) (b1 b) w
  rw [(w_plus (a := a) (b := b)).1, (w_plus (a := a) (b := b)).2] at h
  exact h
theorem cell_setBlockT {W : World} {b g i : Nat} {o : Obj} (h : g ≠ b) : (setBlock W b o).cell? ⟨g, i, none⟩ = W.cell? ⟨g, i, none⟩ := World.cell?_of_block (w := W) (setBlock_at h)
set_option maxRecDepth 100000 in
set_option maxHeartbeats 8000000 in
theorem lead_any (K D : Int) (cb mb : Nat) (M : List It) (W : World) (hm : MapWs thV thOk W mb M) (hc : Bk W cb #[.map (some mb)] 61) (hcm : cb ≠ mb) (hok : thOk (K, 0)) :
    Calls Try.prog 73 #[.int .i64 K, wz D, .pointer (some ⟨cb, 0, none⟩)] W fun e W' => ∃ (u : Value) (M' : List It), e = .returned u ∧ MapWs thV thOk W' mb M' ∧ (∀ z, tot M' z = if (K, (0 : Int)) = z then tot M (K, 0) + D else tot M z) ∧ M'.length ≤ M.length + 1 ∧ Bx mb W W' := by
  have hmlt := hm.lt
  have hbA : Below W.heap.size W (W.alloc (.cells #[.int .u64 (wH D), .int .u64 (wL D)] 101)) := bAlloc (Below.refl _ _) _
  have bb : Bk (W.alloc (.cells #[.int .u64 (wH D), .int .u64 (wL D)] 101)) W.heap.size #[.int .u64 (wH D), .int .u64 (wL D)] 101 := Bk.new _ _ rfl
  have hx0 : Bx mb W (W.alloc (.cells #[.int .u64 (wH D), .int .u64 (wL D)] 101)) := Bx.of_below hbA
  have hm1 := hm.keep hbA
  have hc1 := hc.keep hbA
  have hsb : W.heap.size ≠ mb := by omega
  clear hm hc hbA
  go_enter Try.func73, Try.ntmps73
  go_upto_region 1 with fail
  generalize hWS : W.heap.size = xb at *
  generalize hWB : (W.alloc (.cells #[.int .u64 (wH D), .int .u64 (wL D)] 101)) = wb at *
  have c0 : wb.cell? ⟨cb, 0, none⟩ = some (.map (some mb)) := Bk.cell hc1 rfl
  obtain ⟨x0, x1, -, -⟩ := bb.two
  have HXP : Hid (∀ V, Below wb.heap.size wb V → V.cell? ⟨cb, 0, none⟩ = some (.map (some mb)) ∧ V.cell? ⟨xb, 0, none⟩ = some (.int .u64 (wH D)) ∧ V.cell? ⟨xb, 1, none⟩ = some (.int .u64 (wL D))) := fun V hV => ⟨cell_below hV c0, cell_below hV x0, cell_below hV x1⟩
  have HXS : Hid (∀ V o, Below wb.heap.size wb V → (setBlock V mb o).cell? ⟨cb, 0, none⟩ = some (.map (some mb)) ∧ (setBlock V mb o).cell? ⟨xb, 0, none⟩ = some (.int .u64 (wH D)) ∧ (setBlock V mb o).cell? ⟨xb, 1, none⟩ = some (.int .u64 (wL D))) := fun V o hV => by
    rw [cell_setBlockT hcm, cell_setBlockT hsb, cell_setBlockT hsb]; exact HXP.out V hV
  have HLK : Hid (∀ V, Below wb.heap.size wb V → (Instr.lookup 61 (.map (some mb)) (thV (K, 0)) false).run Try.prog V = .ok (wz (tot M (K, 0))) V) := fun V hV => (hm1.keep hV).look encT Try.underlying61 zeroWt hok
  have HPT : Hid (∀ V, Below wb.heap.size wb V → ∃ (o2 : Obj) (M' : List It), (Instr.mapUpdate 61 (.map (some mb)) (thV (K, 0)) (wz (tot M (K, 0) + D))).run Try.prog V = .ok () (setBlock V mb o2) ∧ MapWs thV thOk (setBlock V mb o2) mb M' ∧ (∀ z, tot M' z = if (K, (0 : Int)) = z then tot M (K, 0) + D else tot M z) ∧ M'.length ≤ M.length + 1 ∧ Bx mb W (setBlock V mb o2)) := fun V hV => by
    obtain ⟨o2, M', e1, h1, h2, h3⟩ := (hm1.keep hV).put encT Try.underlying61 hok (tot M (K, 0) + D)
    exact ⟨o2, M', e1, h1, h2, h3, (hx0.trans (Bx.of_below hV)).putMap o2⟩
  have hbP : Below wb.heap.size wb wb.drew := (Below.refl _ _).drew
  have lk0 := HLK.out _ hbP
  have HCP : Hid (∀ V wc, Below wb.heap.size wb V → Below V.heap.size V wc → Below wb.heap.size wb wc) := fun V wc hV hbc => bStep hV hbc
  clear c0 x0 x1 hm1 hc1 bb hx0 hWS hWB
  generalize hT : tot M (K, 0) = T at *
  have HTT : Hid (tot M (K, 0) = T) := hT
  clear hT
  go_wp2_with fail
  go_region_held3 (fun V => V.cell? ⟨cb, 0, none⟩ = some (.map (some mb)) ∧ V.cell? ⟨xb, 0, none⟩ = some (.int .u64 (wH D)) ∧ V.cell? ⟨xb, 1, none⟩ = some (.int .u64 (wL D)))
    (first | exact HXS.out _ _ hq2 | exact HXP.out _ hq2 | exact HXP.out _ hbP)
    (first
      | (go_at_call 74; with_reducible refine (plus_zt T D _).mono ?_; rintro e wd ⟨rfl, hbd⟩; have hq2 := HCP.out _ _ hbP hbd; obtain ⟨o2, M', e1, hM', ht', hl', hx5⟩ := HPT.out _ hq2))
  all_goals
    go_wp2_with fail
    refine bodyPost_end (results_none rfl _ _ _) rfl ?_
    exact ⟨_, M', rfl, hM', fun z => by rw [HTT.out]; exact ht' z, hl', hx5⟩
end Go.Proofs.Ytjlaeeccnbdghaa
