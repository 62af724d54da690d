/- Do rows say the same, at all times at a front, or behind it: the contract. -/
import Derived.Test.YtbmdfmboabfceaaLw
import Derived.Test.YtbmdfmboabfceaaLwAll
import Derived.Test.YtbmdfmboabfceaaFr12
import Derived.Test.YtbmdfmboabfceaaSj2
import Derived.Deep.RegionHeld3
namespace Go.Proofs.Ytbmdfmboabfceaa
open Go.RowKit

/-- Whether a time is asked of. -/
def askedB (f : List (Int × Int)) (x y : Int) : Bool := decide (f.length = 0) || (fokB f && anyB f x y)
theorem implAt_k {l : List Rw} {x y : Int} {L : List It} (e : itemsL l x y = L) {v : Value} {w : World} (h : Rs w v l) :
    Calls Try.prog 49 #[v, tv x y] w fun e w' => ∃ o : Value, e = .returned o ∧ Is w' o L ∧ Below w.heap.size w w' := by
  subst e
  refine (implAt_any v l x y w h).mono ?_
  rintro e w' ⟨o, rfl, own, hb⟩
  exact ⟨o, rfl, OwnI.is own (by have := items_len l x y; omega), hb⟩
theorem selfI (l : List It) : decide (l = l) = true := by simp
theorem selfR (l : List Rw) : decide (l = l) = true := by simp
set_option maxRecDepth 100000 in
set_option maxHeartbeats 8000000 in
theorem lwSame_any (v1 v2 v3 : Value) (l1 l2 : List Rw) (f : List (Int × Int)) (w : World) (h1 : Rs w v1 l1) (h2 : Rs w v2 l2) (h3 : Ts w v3 f) (hsame : ∀ x y : Int, okB x y = true → askedB f x y = true → itemsL l1 x y = itemsL l2 x y) :
    Calls Try.prog 41 #[v1, v2, v3] w fun e w' => e = .returned (.bool true) ∧ Below w.heap.size w w' := by
  have H1 : Hid (Rs w v1 l1) := h1
  have H2 : Hid (Rs w v2 l2) := h2
  have H3 : Hid (Ts w v3 f) := h3
  have HS : Hid (∀ x y : Int, okB x y = true → askedB f x y = true → itemsL l1 x y = itemsL l2 x y) := hsame
  obtain ⟨a3, cap3, rfl, hc3, hm3, hn3, -⟩ := h3
  unfold maxLen at hm3
  clear h1 h2 hsame
  go_enter Try.func41, Try.ntmps41
  go_wp2_with fail
  refine (lwAll_any w).mono ?_
  rintro e w1 ⟨ga, capa, rfl, howna, hga, hb1⟩
  have HA := (show Hid _ from howna)
  have G1 : Hid (Rs w1 v1 l1) := H1.out.keep hb1
  have G2 : Hid (Rs w1 v2 l2) := H2.out.keep hb1
  have G3 : Hid (Ts w1 (.slice a3 f.length cap3) f) := H3.out.keep hb1
  clear howna H1 H2 H3
  go_wp2_with fail
  go_loopw [8] (fun i wr => ∃ k : Nat, k ≤ 64 ∧ i = .int .i64 k ∧ Below w1.heap.size w1 wr) (fun i _ => 64 - (intOf i).toNat)
  case atStart => exact ⟨0, by omega, rfl, Below.refl _ _⟩
  case round =>
    obtain ⟨k, hk, rfl, hb⟩ := hrel
    by_cases hlt : k < 64
    · obtain ⟨c0, c1⟩ := all_cells HA.out hlt
      have d0 := cell_below hb c0
      have d1 := cell_below hb c1
      have HOK : Hid (okB ((k / 8 : Nat) : Int) ((k % 8 : Nat) : Int) = true) := by show _ = _; simp [okB]; omega
      have hga' : ga < w1.heap.size := lt_of_cell c0
      have HX : Hid (∀ W, Below w1.heap.size w1 W → W.cell? ⟨ga, k * 2, none⟩ = some (.int .i64 ((k / 8 : Nat) : Int)) ∧ W.cell? ⟨ga, k * 2 + 1, none⟩ = some (.int .i64 ((k % 8 : Nat) : Int))) :=
        fun W hW => ⟨cell_below hW c0, cell_below hW c1⟩
      have hb0 := hb
      clear c0 c1
      generalize hX : ((k / 8 : Nat) : Int) = X at *
      generalize hY : ((k % 8 : Nat) : Int) = Y at *
      clear hX hY
      have ik : (k : Int) < 64 := by omega
      have HR1 : Hid (∀ W, Below w1.heap.size w1 W → Rs W v1 l1) := fun W hW => G1.out.keep hW
      have HR2 : Hid (∀ W, Below w1.heap.size w1 W → Rs W v2 l2) := fun W hW => G2.out.keep hW
      by_cases hf0 : f.length = 0
      · have HI : Hid (itemsL l2 X Y = itemsL l1 X Y) := (HS.out X Y HOK.out (by simp [askedB, hf0])).symm
        obtain rfl : f = [] := List.eq_nil_of_length_eq_zero hf0
        simp only [List.length_nil] at *
        have hbD := hb.drew
        go_wp2_with fail
        go_region_held3 (fun w' => w'.cell? ⟨ga, k * 2, none⟩ = some (.int .i64 X) ∧ w'.cell? ⟨ga, k * 2 + 1, none⟩ = some (.int .i64 Y))
          (first | exact HX.out _ hbD | exact HX.out _ hbna | exact HX.out _ hbnb | exact HX.out _ hbnc)
          (first
            | (go_at_call 49; with_reducible refine (implAt_k rfl (HR1.out _ hbD)).mono ?_; rintro e wa ⟨oa, rfl, isa, hba⟩; have hbna : Below w1.heap.size w1 wa := bStep hbD hba)
            | (go_at_call 49; with_reducible refine (implAt_k HI.out (HR2.out _ hbna)).mono ?_; rintro e wb ⟨ob, rfl, isb, hbb⟩; have hbnb : Below w1.heap.size w1 wb := bStep hbna hbb; have isa2 := SlK.keep isa hbb)
            | (go_at_call 48; with_reducible refine (lwItems_eq (selfI _) isa2 isb).mono ?_; rintro e wc ⟨rfl, hbc⟩; have hbnc : Below w1.heap.size w1 wc := bStep hbnb hbc))
        all_goals
          go_wp2_with fail
          go_roundw
          case rel => exact ⟨k + 1, by omega, by go_num, hbnc⟩
          case measure => simp [intOf]; omega
      · have hpos : 0 < f.length := by omega
        cases hcv : (fokB f && anyB f X Y)
        · go_wp2_with fail
          refine (specCovers_eq hcv (G3.out.keep hb)).mono ?_
          rintro e wd ⟨rfl, hbd⟩
          have hbnd := bStep hb hbd
          go_wp2_with fail
          go_roundw
          case rel => exact ⟨k + 1, by omega, by go_num, hbnd⟩
          case measure => simp [intOf]; omega
        · have HI : Hid (itemsL l2 X Y = itemsL l1 X Y) := (HS.out X Y HOK.out (by simp [askedB]; exact .inr (by simpa using hcv))).symm
          go_wp2_with fail
          refine (specCovers_eq hcv (G3.out.keep hb)).mono ?_
          rintro e wd ⟨rfl, hbd⟩
          have hbnd := bStep hb hbd
          obtain ⟨e0, e1⟩ := HX.out _ hbnd
          clear hb d0 d1
          have hbD := hbnd.drew
          go_wp2_with fail
          go_region_held3 (fun w' => w'.cell? ⟨ga, k * 2, none⟩ = some (.int .i64 X) ∧ w'.cell? ⟨ga, k * 2 + 1, none⟩ = some (.int .i64 Y))
            (first | exact HX.out _ hbD | exact HX.out _ hbna | exact HX.out _ hbnb | exact HX.out _ hbnc)
            (first
              | (go_at_call 49; with_reducible refine (implAt_k rfl (HR1.out _ hbD)).mono ?_; rintro e wa ⟨oa, rfl, isa, hba⟩; have hbna : Below w1.heap.size w1 wa := bStep hbD hba)
              | (go_at_call 49; with_reducible refine (implAt_k HI.out (HR2.out _ hbna)).mono ?_; rintro e wb ⟨ob, rfl, isb, hbb⟩; have hbnb : Below w1.heap.size w1 wb := bStep hbna hbb; have isa2 := SlK.keep isa hbb)
              | (go_at_call 48; with_reducible refine (lwItems_eq (selfI _) isa2 isb).mono ?_; rintro e wc ⟨rfl, hbc⟩; have hbnc : Below w1.heap.size w1 wc := bStep hbnb hbc))
          all_goals
            go_wp2_with fail
            go_roundw
            case rel => exact ⟨k + 1, by omega, by go_num, hbnc⟩
            case measure => simp [intOf]; omega
    · obtain rfl : k = 64 := by omega
      go_wp2_with fail
      go_ret
      exact ⟨rfl, bStep hb1 hb⟩
end Go.Proofs.Ytbmdfmboabfceaa
