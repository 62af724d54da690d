/- Two spines that are the same, held against each other, and what two spines tell of all times: the contracts. -/
import Derived.Test.YtjkojbafifbdgaaGreatZs3
import Derived.Test.YtjkojbafifbdgaaGreatGd3
import Derived.Test.YtjkojbafifbdgaaGreatGb0
import Derived.Deep.RegionHeld3
import Derived.Test.YtjkojbafifbdgaaGreatZx1
import Derived.Test.YtjkojbafifbdgaaGreatZk3
import Derived.Test.YtjkojbafifbdgaaGreatZk5
/-! Two spines that are the same, held against each other, and what two spines tell of all times: the contracts. -/
namespace Go.Proofs.YtjkojbafifbdgaaGreat
open Go.RowKit Go.Shelf

set_option maxRecDepth 100000 in
set_option maxHeartbeats 8000000 in
theorem lwSpine_same (lv fv lv' fv' : Value) (L : List (List Rw)) (F : List (Int × Int)) (w : World) (h : Spn w lv fv L F) (h' : Spn w lv' fv' L F) :
    Calls Tryz.prog 20 #[spv lv fv, spv lv' fv'] w fun e w' => e = .returned (.bool true) ∧ Below w.heap.size w w' := by
  have HS := (show Hid (Spn w lv fv L F) from h)
  have HS' := (show Hid (Spn w lv' fv' L F) from h')
  obtain ⟨aL, cL, rfl, hc, hm, hn, hcells⟩ := Ly.open h.1
  obtain ⟨aL', cL', rfl, hc', hm', hn', hcells'⟩ := Ly.open h'.1
  unfold maxLen at hm hm'
  have HC := (show Hid _ from hcells)
  have HC' := (show Hid _ from hcells')
  obtain ⟨aF, cF, rfl, -⟩ := h.2
  obtain ⟨aF', cF', rfl, -⟩ := h'.2
  have hb0 : Below w.heap.size w ((w.alloc (.cells #[.slice aL L.length cL, .slice aF F.length cF] 26)).alloc (.cells #[.slice aL' L.length cL', .slice aF' F.length cF'] 26)) := bAlloc (bAlloc (Below.refl _ _) _) _
  have bi : Bk ((w.alloc (.cells #[.slice aL L.length cL, .slice aF F.length cF] 26)).alloc (.cells #[.slice aL' L.length cL', .slice aF' F.length cF'] 26)) w.heap.size #[.slice aL L.length cL, .slice aF F.length cF] 26 := (Bk.new _ _ rfl).alloc _
  have bj : Bk ((w.alloc (.cells #[.slice aL L.length cL, .slice aF F.length cF] 26)).alloc (.cells #[.slice aL' L.length cL', .slice aF' F.length cF'] 26)) (w.heap.size + 1) #[.slice aL' L.length cL', .slice aF' F.length cF'] 26 := Bk.new (w := w.alloc _) _ _ (by simp)
  obtain ⟨i0, i1, _, _⟩ := bi.two
  obtain ⟨j0, j1, _, _⟩ := bj.two
  clear h h' hcells hcells'
  go_enter Tryz.func20, Tryz.ntmps20
  go_wp2_with fail
  refine (lwTimes_eq (l := F) (l' := F) (r := true) (by simp) (HS.out.keep hb0).2 (HS'.out.keep hb0).2).mono ?_
  rintro e w1 ⟨rfl, hb1⟩
  have hbw1 := bStep hb0 hb1
  have bi1 := bi.keep hb1
  have bj1 := bj.keep hb1
  have HBI := (show Hid _ from bi1)
  have HBJ := (show Hid _ from bj1)
  have HBW : Hid (Below w.heap.size w w1) := hbw1
  clear i0 i1 j0 j1 bi bj hb0 hb1 bi1 bj1 hbw1
  go_wp2_with fail
  go_loopw [5] (fun i wr => ∃ k : Nat, k ≤ L.length ∧ i = .int .i64 k ∧ Below w1.heap.size w1 wr) (fun i _ => L.length - (intOf i).toNat)
  case atStart => exact ⟨0, by omega, rfl, Below.refl _ _⟩
  case round =>
    obtain ⟨k, hk, rfl, hb⟩ := hrel
    obtain ⟨i0, i1, _, _⟩ := (Bk.keep HBI.out hb).two
    by_cases hlt : k < L.length
    · obtain ⟨g, off, ad, cp, rfl, hg, c0, hR⟩ := HC.out k hlt
      obtain ⟨g', off', ad', cp', rfl, hg', c0', hR'⟩ := HC'.out k hlt
      have ik : (k : Int) < (L.length : Int) := by omega
      have HX : Hid (∀ W, Below w1.heap.size w1 W → W.cell? ⟨w.heap.size, 0, none⟩ = some (.slice (some ⟨g, off, none⟩) L.length cL) ∧ W.cell? ⟨g, off + k, none⟩ = some (.slice ad (gl L k).length cp) ∧ W.cell? ⟨w.heap.size + 1, 0, none⟩ = some (.slice (some ⟨g', off', none⟩) L.length cL') ∧ W.cell? ⟨g', off' + k, none⟩ = some (.slice ad' (gl L k).length cp')) :=
        fun W hW => ⟨(Bk.keep HBI.out hW).two.1, cell_below (bStep HBW.out hW) c0, (Bk.keep HBJ.out hW).two.1, cell_below (bStep HBW.out hW) c0'⟩
      have HR1 : Hid (∀ W, Below w1.heap.size w1 W → Rs W (.slice ad (gl L k).length cp) (gl L k)) := fun W hW => hR.keep (bStep HBW.out hW)
      have HR2 : Hid (∀ W, Below w1.heap.size w1 W → Rs W (.slice ad' (gl L k).length cp') (gl L k)) := fun W hW => hR'.keep (bStep HBW.out hW)
      have hbD := hb.drew
      clear c0 c0' hR hR' i1
      generalize gl L k = G at *
      go_wp2_with fail
      go_region_held3 (fun w' => w'.cell? ⟨w.heap.size, 0, none⟩ = some (.slice (some ⟨g, off, none⟩) L.length cL) ∧ w'.cell? ⟨g, off + k, none⟩ = some (.slice ad G.length cp) ∧ w'.cell? ⟨w.heap.size + 1, 0, none⟩ = some (.slice (some ⟨g', off', none⟩) L.length cL') ∧ w'.cell? ⟨g', off' + k, none⟩ = some (.slice ad' G.length cp'))
        (first | exact HX.out _ hbD | exact HX.out _ hbna)
        (first
          | (go_at_call 12; with_reducible refine (lwRows_eq (selfR _) (HR1.out _ hbD) (HR2.out _ hbD)).mono ?_; rintro e wa ⟨rfl, hba⟩; have hbna : Below w1.heap.size w1 wa := bStep hbD hba))
      all_goals
        go_wp2_with fail
        go_roundw
        case rel => exact ⟨k + 1, by omega, by go_num, hbna⟩
        case measure => simp [intOf]; omega
    · obtain rfl : k = L.length := by omega
      go_wp2_with fail
      go_ret
      exact ⟨rfl, bStep HBW.out hb⟩
/-- What a second spine tells the first tells too. -/
def AskL (L : List (List Rw)) (F : List (Int × Int)) (L' : List (List Rw)) (F' : List (Int × Int)) : Prop := ∀ X Y : Int, okB X Y = true → satB L' F' X Y = true → satB L F X Y = true ∧ satL L F X Y = satL L' F' X Y
theorem sat_few (L : List (List Rw)) (F : List (Int × Int)) (x y : Int) : (satL L F x y).length ≤ 2097152 := by
  unfold satL; split
  · have := items_len L.flatten x y; omega
  · simp
theorem implSpineAt_k {L : List (List Rw)} {F : List (Int × Int)} {x y : Int} {r : Bool} {l : List It} (e1 : satB L F x y = r) (e2 : satL L F x y = l) {lv fv : Value} {w : World} (h : Spn w lv fv L F) :
    Calls Tryz.prog 41 #[spv lv fv, tv x y] w fun e w' => ∃ o : Value, e = .returned (.tuple #[o, .bool r]) ∧ Is w' o l ∧ Below w.heap.size w w' := by
  refine (implSpineAt_any lv fv L F x y w h).mono ?_
  rintro e w1 ⟨o, rfl, h1, h2⟩
  refine ⟨o, by rw [e1], ?_, h2⟩
  rw [← e2]
  exact OwnI.is h1 (sat_few L F x y)
set_option maxRecDepth 100000 in
set_option maxHeartbeats 8000000 in
theorem lwAsk_yes {lv fv lv' fv' : Value} {L L' : List (List Rw)} {F F' : List (Int × Int)} {w : World} (ha : AskL L F L' F') (h : Spn w lv fv L F) (h' : Spn w lv' fv' L' F') :
    Calls Tryz.prog 11 #[spv lv fv, spv lv' fv'] w fun e w' => e = .returned (.bool true) ∧ Below w.heap.size w w' := by
  have HA := (show Hid _ from ha)
  have HS := (show Hid (Spn w lv fv L F) from h)
  have HS' := (show Hid (Spn w lv' fv' L' F') from h')
  have hb0 : Below w.heap.size w ((w.alloc (.cells #[lv, fv] 26)).alloc (.cells #[lv', fv'] 26)) := bAlloc (bAlloc (Below.refl _ _) _) _
  have bi : Bk ((w.alloc (.cells #[lv, fv] 26)).alloc (.cells #[lv', fv'] 26)) w.heap.size #[lv, fv] 26 := (Bk.new _ _ rfl).alloc _
  have bj : Bk ((w.alloc (.cells #[lv, fv] 26)).alloc (.cells #[lv', fv'] 26)) (w.heap.size + 1) #[lv', fv'] 26 := Bk.new (w := w.alloc _) _ _ (by simp)
  clear ha h h'
  go_enter Tryz.func11, Tryz.ntmps11
  go_wp2_with fail
  generalize hW : ((w.alloc (.cells #[lv, fv] 26)).alloc (.cells #[lv', fv'] 26)) = w0 at *
  refine (lwAll_any w0).mono ?_
  rintro e w1 ⟨ga, capa, rfl, howna, hga, hb1⟩
  have HT := (show Hid _ from howna)
  have HBW : Hid (Below w.heap.size w w1) := bStep hb0 hb1
  have HBI := (show Hid _ from bi.keep hb1)
  have HBJ := (show Hid _ from bj.keep hb1)
  clear howna hb0 bi bj hb1 hW
  go_wp2_with fail
  go_loopw [6] (fun i wr => ∃ k : Nat, k ≤ 64 ∧ i = .int .i64 k ∧ Below w1.heap.size w1 wr) (fun i _ => 64 - (intOf i).toNat)
  case atStart => exact ⟨0, by omega, rfl, Below.refl _ _⟩
  case round =>
    obtain ⟨k, hk, rfl, hb⟩ := hrel
    by_cases hlt : k < 64
    · obtain ⟨c0, c1⟩ := all_cells HT.out hlt
      have HOK : Hid (okB ((k / 8 : Nat) : Int) ((k % 8 : Nat) : Int) = true) := by show _ = _; simp [okB]; omega
      have HX : Hid (∀ W, Below w1.heap.size w1 W → W.cell? ⟨ga, k * 2, none⟩ = some (.int .i64 ((k / 8 : Nat) : Int)) ∧ W.cell? ⟨ga, k * 2 + 1, none⟩ = some (.int .i64 ((k % 8 : Nat) : Int)) ∧ W.cell? ⟨w.heap.size, 0, none⟩ = some lv ∧ W.cell? ⟨w.heap.size, 1, none⟩ = some fv ∧ W.cell? ⟨w.heap.size + 1, 0, none⟩ = some lv' ∧ W.cell? ⟨w.heap.size + 1, 1, none⟩ = some fv') :=
        fun W hW => ⟨cell_below hW c0, cell_below hW c1, (Bk.keep HBI.out hW).two.1, (Bk.keep HBI.out hW).two.2.1, (Bk.keep HBJ.out hW).two.1, (Bk.keep HBJ.out hW).two.2.1⟩
      clear c0 c1
      generalize hX : ((k / 8 : Nat) : Int) = X at *
      generalize hY : ((k % 8 : Nat) : Int) = Y at *
      clear hX hY
      have ik : (k : Int) < 64 := by omega
      have HR1 : Hid (∀ W, Below w1.heap.size w1 W → Spn W lv fv L F) := fun W hW => HS.out.keep (bStep HBW.out hW)
      have HR2 : Hid (∀ W, Below w1.heap.size w1 W → Spn W lv' fv' L' F') := fun W hW => HS'.out.keep (bStep HBW.out hW)
      have hbD := hb.drew
      go_wp2_with fail
      cases hm : satB L' F' X Y
      · go_region_held3 (fun w' => w'.cell? ⟨ga, k * 2, none⟩ = some (.int .i64 X) ∧ w'.cell? ⟨ga, k * 2 + 1, none⟩ = some (.int .i64 Y) ∧ w'.cell? ⟨w.heap.size, 0, none⟩ = some lv ∧ w'.cell? ⟨w.heap.size, 1, none⟩ = some fv ∧ w'.cell? ⟨w.heap.size + 1, 0, none⟩ = some lv' ∧ w'.cell? ⟨w.heap.size + 1, 1, none⟩ = some fv')
          (first | exact HX.out _ hbD | exact HX.out _ hbna)
          (first
            | (go_at_call 41; with_reducible refine (implSpineAt_k hm rfl (HR2.out _ hbD)).mono ?_; rintro e wa ⟨oa, rfl, isa, hba⟩; have hbna : Below w1.heap.size w1 wa := bStep hbD hba))
        all_goals
          have hbE := hbna.drew
          go_wp2_with fail
          go_region_held3 (fun w' => w'.cell? ⟨ga, k * 2, none⟩ = some (.int .i64 X) ∧ w'.cell? ⟨ga, k * 2 + 1, none⟩ = some (.int .i64 Y) ∧ w'.cell? ⟨w.heap.size, 0, none⟩ = some lv ∧ w'.cell? ⟨w.heap.size, 1, none⟩ = some fv ∧ w'.cell? ⟨w.heap.size + 1, 0, none⟩ = some lv' ∧ w'.cell? ⟨w.heap.size + 1, 1, none⟩ = some fv')
            (first | exact HX.out _ hbE | exact HX.out _ hbnb)
            (first
              | (go_at_call 41; with_reducible refine (implSpineAt_k rfl rfl (HR1.out _ hbE)).mono ?_; rintro e wb ⟨ob, rfl, isb, hbb⟩; have hbnb : Below w1.heap.size w1 wb := bStep hbE hbb))
          all_goals
            go_wp2_with fail
            go_roundw
            case rel => exact ⟨k + 1, by omega, by go_num, hbnb⟩
            case measure => simp [intOf]; omega
      · have HE := (show Hid _ from HA.out X Y HOK.out hm)
        go_region_held3 (fun w' => w'.cell? ⟨ga, k * 2, none⟩ = some (.int .i64 X) ∧ w'.cell? ⟨ga, k * 2 + 1, none⟩ = some (.int .i64 Y) ∧ w'.cell? ⟨w.heap.size, 0, none⟩ = some lv ∧ w'.cell? ⟨w.heap.size, 1, none⟩ = some fv ∧ w'.cell? ⟨w.heap.size + 1, 0, none⟩ = some lv' ∧ w'.cell? ⟨w.heap.size + 1, 1, none⟩ = some fv')
          (first | exact HX.out _ hbD | exact HX.out _ hbna)
          (first
            | (go_at_call 41; with_reducible refine (implSpineAt_k hm rfl (HR2.out _ hbD)).mono ?_; rintro e wa ⟨oa, rfl, isa, hba⟩; have hbna : Below w1.heap.size w1 wa := bStep hbD hba))
        all_goals
          have hbE := hbna.drew
          go_wp2_with fail
          go_region_held3 (fun w' => w'.cell? ⟨ga, k * 2, none⟩ = some (.int .i64 X) ∧ w'.cell? ⟨ga, k * 2 + 1, none⟩ = some (.int .i64 Y) ∧ w'.cell? ⟨w.heap.size, 0, none⟩ = some lv ∧ w'.cell? ⟨w.heap.size, 1, none⟩ = some fv ∧ w'.cell? ⟨w.heap.size + 1, 0, none⟩ = some lv' ∧ w'.cell? ⟨w.heap.size + 1, 1, none⟩ = some fv')
            (first | exact HX.out _ hbE | exact HX.out _ hbnb)
            (first
              | (go_at_call 41; with_reducible refine (implSpineAt_k HE.out.1 HE.out.2 (HR1.out _ hbE)).mono ?_; rintro e wb ⟨ob, rfl, isb, hbb⟩; have hbnb : Below w1.heap.size w1 wb := bStep hbE hbb; have isa2 := SlK.keep isa (bStep (Below.refl _ _).drew hbb)))
          all_goals
            go_wp2_with fail
            refine (lwItems_eq (selfI _) isb isa2).mono ?_
            rintro e wc ⟨rfl, hbc⟩
            have hbnc := bStep hbnb hbc
            go_wp2_with fail
            go_roundw
            case rel => exact ⟨k + 1, by omega, by go_num, hbnc⟩
            case measure => simp [intOf]; omega
    · obtain rfl : k = 64 := by omega
      go_wp2_with fail
      go_ret
      exact ⟨rfl, bStep HBW.out hb⟩
end Go.Proofs.YtjkojbafifbdgaaGreat

/-! Drawn spines: the contracts of the functions that draw them. -/
namespace Go.Proofs.YtjkojbafifbdgaaGreat
open Go.RowKit Go.Shelf

attribute [local go_sem ↓] Go.wp_at_zero Go.wp_at_succ
theorem SpI.make {w W0 w1 w2 : World} {v : Value} {n : Nat} {p : Int} {lv fv : Value} {L : List (List Rw)} {F : List (Int × Int)} (bR : Bk W0 w.heap.size #[.slice none 0 0, .slice none 0 0] 26) (hb0 : Below w.heap.size w W0) (hb1 : Below W0.heap.size W0 w1) (h1 : W0.heap.size < w1.heap.size) (hs : SpO w2 w1.heap.size lv fv L F) (hr : Rd W0.heap.size w2 W0.heap.size v n p) (hx : Bx W0.heap.size w1 w2) :
    SpI W0.heap.size W0.heap.size v n w (w2.alloc (.cells #[lv, fv] 26)) w.heap.size w2.heap.size w1.heap.size p lv fv L F := by
  have h2 := hx.size
  have hz := bR.lt
  have ha : Below w2.heap.size w2 (w2.alloc (.cells #[lv, fv] 26)) := bAlloc (Below.refl _ _) _
  exact ⟨Bk.new _ _ rfl, ((bR.keep hb1).keepx hx (by omega)).keep ha, hs.keep ha, hr.keepb ha, (((Bx.of_below hb0).trans (Bx.of_below hb1)).trans hx).alloc _, ⟨by omega, by omega⟩, ⟨by omega, by omega, by omega, by omega⟩, by omega, by omega, by simp; omega⟩
theorem own_box {w : World} {B o i : Nat} {v u : Value} {l : List (Int × Int)} {d : Array Value} (h : Own w B v l) (k : Bk w o d 26) : Own (w.setCell ⟨o, i, none⟩ u) B v l :=
  ownK_at h fun q e => Below.heap_setCell _ _ _ _ (show q ≠ o from fun e2 => time_not_spine h k e e2.symm)
theorem Bx.low {w W : World} {g : Nat} (h : Bx g w W) (hg : w.heap.size ≤ g) : Below w.heap.size w W := h.bel (Nat.le_refl _) hg
theorem DSp.spn {c : Int} {w : World} {B : Nat} {lv fv : Value} {L : List (List Rw)} {F : List (Int × Int)} (h : DSp c L F) (hs : SpO w B lv fv L F) : Spn w lv fv L F := hs.spn (by have := h.1; omega) (by have := h.2.1; omega)
set_option maxRecDepth 100000 in
set_option maxHeartbeats 8000000 in
theorem drawSpineOk_any (a : Option Addr) (len cap : Nat) (w : World) (h : Src w (.slice a len cap) len) :
    Calls Tryz.prog 7 #[.slice a len cap] w fun e w' => ∃ (lv fv : Value) (L : List (List Rw)) (F : List (Int × Int)), e = .returned (spv lv fv) ∧ DSp 93 L F ∧ Spn w' lv fv L F ∧ Below w.heap.size w w' := by
  have hb0 : Below w.heap.size w (w.alloc (.cells #[.slice none 0 0, .slice none 0 0] 26)) := bAlloc (Below.refl _ _) _
  have bR : Bk (w.alloc (.cells #[.slice none 0 0, .slice none 0 0] 26)) w.heap.size #[.slice none 0 0, .slice none 0 0] 26 := Bk.new _ _ rfl
  have hgW : w.heap.size ≤ (w.alloc (.cells #[.slice none 0 0, .slice none 0 0] 26)).heap.size := by simp
  go_enter Tryz.func7, Tryz.ntmps7
  go_wp2_with fail
  generalize hW0 : (w.alloc (.cells #[.slice none 0 0, .slice none 0 0] 26)) = W0 at *
  refine (l6Open_any _ _ _ _ (h.keep hb0)).mono ?_
  rintro e w1 ⟨rfl, ⟨v, n, hr1⟩, hb1⟩
  have h1 := hr1.blk.lt
  clear h hW0
  go_wp2_with fail
  refine (l71Spine_any hr1 (by omega) (by omega)).mono ?_
  rintro e w2 ⟨lv, fv, L, F, rfl, hd, hs2, ⟨p2, hp2, hp2', hr2⟩, hx2⟩
  obtain ⟨av, cv, af, cf, e1, e2⟩ := hs2.open
  subst e1 e2
  have HD : Hid (DSp 93 L F) := hd
  have bR2 : Bk w2 w.heap.size #[.slice none 0 0, .slice none 0 0] 26 := (bR.keep hb1).keepx hx2 (by have := bR.lt; omega)
  have HF : Hid (Spn ((w2.setCell ⟨w.heap.size, 0, none⟩ (.slice av L.length cv)).setCell ⟨w.heap.size, 1, none⟩ (.slice af F.length cf)) (.slice av L.length cv) (.slice af F.length cf) L F ∧ Below w.heap.size w ((w2.setCell ⟨w.heap.size, 0, none⟩ (.slice av L.length cv)).setCell ⟨w.heap.size, 1, none⟩ (.slice af F.length cf))) :=
    ⟨hd.spn ((hs2.setBox bR2).setBox (bR2.set 0 _)), Bx.low ((((Bx.of_below hb0).trans (Bx.of_below hb1)).trans hx2 |>.setN (q := ⟨w.heap.size, 0, none⟩) (Nat.le_refl _) _).setN (q := ⟨w.heap.size, 1, none⟩) (Nat.le_refl _) _) hgW⟩
  obtain ⟨r0, r1, t0, t1⟩ := bR2.two
  obtain ⟨r2, r3, t2, t3⟩ := bk_set0 bR2 (.slice av L.length cv)
  obtain ⟨c0, c1, _, _⟩ := (bR2.set01 (.slice av L.length cv) (.slice af F.length cf)).two
  clear hs2 hr2 hx2 hb1 hb0 hr1 bR
  go_wp2_with fail
  refine bodyPost_ret (by simp [results, Tryz.results7, go_sem, c0, c1]; try rfl) rfl ?_
  exact ⟨_, _, L, F, rfl, HD.out, HF.out.1, HF.out.2⟩
end Go.Proofs.YtjkojbafifbdgaaGreat

/-! Drawn spines and a place: the contract. -/
namespace Go.Proofs.YtjkojbafifbdgaaGreat
open Go.RowKit Go.Shelf

attribute [local go_sem ↓] Go.wp_at_zero Go.wp_at_succ
end Go.Proofs.YtjkojbafifbdgaaGreat

/-! Contracts on spines in the form in which the laws use them; plain facts of those laws. -/
namespace Go.Proofs.YtjkojbafifbdgaaGreat
open Go.RowKit Go.Shelf

theorem ofSpO {f : FuncId} {args : Array Value} {w : World} {L M : List (List Rw)} {F G : List (Int × Int)} {r s : Bool} (e1 : s = r) (e2 : M = L) (e3 : G = F) (hL : M.length ≤ 1000) (hF : G.length ≤ 1000) (h : Calls Tryz.prog f args w fun e w' => ∃ lv' fv' : Value, e = .returned (.tuple #[spv lv' fv', .bool s]) ∧ SpO w' w.heap.size lv' fv' M G ∧ Below w.heap.size w w') :
    Calls Tryz.prog f args w fun e w' => ∃ lv' fv' : Value, e = .returned (.tuple #[spv lv' fv', .bool r]) ∧ Spn w' lv' fv' L F ∧ Below w.heap.size w w' := by
  subst e1 e2 e3
  refine h.mono ?_
  rintro e w' ⟨lv, fv, rfl, h1, h2⟩
  exact ⟨lv, fv, rfl, h1.spn (by omega) (by omega), h2⟩
theorem spok_lens {L : List (List Rw)} {F : List (Int × Int)} (h : spokB L F = true) : L.length ≤ 6 ∧ F.length ≤ 8 := ⟨(spok_iff.1 h).1, fok_len (spok_iff.1 h).2.1⟩
theorem since_lens (L : List (List Rw)) (F f : List (Int × Int)) : (sinceL L F f).length ≤ 1000 ∧ (sinceF L F f).length ≤ 1000 := by
  cases h : sinceB L F f
  · rw [(sinceB_no h).2.1, (sinceB_no h).2.2]; simp
  · have := spok_lens (since_ok h).1; omega
theorem join_lens (L : List (List Rw)) (F : List (Int × Int)) (i : Int) : (joinL L F i).length ≤ 1000 ∧ (joinF L F i).length ≤ 1000 := by
  cases h : joinB L F i
  · simp [joinL, joinF, h]
  · have := spok_lens (join_ok h).1; omega
theorem in_lens (L : List (List Rw)) (F : List (Int × Int)) (b : List Rw) : (inLL L F b).length ≤ 1000 ∧ (inF L F b).length ≤ 1000 := by
  cases h : inB1 L F b
  · rw [(in_no h).2.1, (in_no h).2.2]; simp
  · have := spok_lens (in_ok h).1; omega
section
variable {L L' : List (List Rw)} {F F' : List (Int × Int)} {r : Bool} {lv fv : Value} {w : World}
theorem implSince_k {f : List (Int × Int)} (e1 : sinceB L F f = r) (e2 : sinceL L F f = L') (e3 : sinceF L F f = F') {gv : Value} (h : Spn w lv fv L F) (hv : Ts w gv f) : Calls Tryz.prog 18 #[spv lv fv, gv] w fun e w' => ∃ lv' fv' : Value, e = .returned (.tuple #[spv lv' fv', .bool r]) ∧ Spn w' lv' fv' L' F' ∧ Below w.heap.size w w' :=
  ofSpO e1 e2 e3 (since_lens L F f).1 (since_lens L F f).2 (implSpineSince_any lv fv gv L F f w h hv)
theorem specSince_k {f : List (Int × Int)} (e1 : sinceB L F f = r) (e2 : sinceL L F f = L') (e3 : sinceF L F f = F') {gv : Value} (h : Spn w lv fv L F) (hv : Ts w gv f) : Calls Tryz.prog 75 #[spv lv fv, gv] w fun e w' => ∃ lv' fv' : Value, e = .returned (.tuple #[spv lv' fv', .bool r]) ∧ Spn w' lv' fv' L' F' ∧ Below w.heap.size w w' :=
  ofSpO e1 e2 e3 (since_lens L F f).1 (since_lens L F f).2 (specSpineSince_any lv fv gv L F f w h hv)
theorem implJoinS_k {i : Int} (e1 : joinB L F i = r) (e2 : joinL L F i = L') (e3 : joinF L F i = F') (h : Spn w lv fv L F) : Calls Tryz.prog 10 #[spv lv fv, .int .i64 i] w fun e w' => ∃ lv' fv' : Value, e = .returned (.tuple #[spv lv' fv', .bool r]) ∧ Spn w' lv' fv' L' F' ∧ Below w.heap.size w w' :=
  ofSpO e1 e2 e3 (join_lens L F i).1 (join_lens L F i).2 (implSpineJoin_any lv fv L F i w h)
theorem specJoinS_k {i : Int} (e1 : joinB L F i = r) (e2 : joinL L F i = L') (e3 : joinF L F i = F') (h : Spn w lv fv L F) : Calls Tryz.prog 60 #[spv lv fv, .int .i64 i] w fun e w' => ∃ lv' fv' : Value, e = .returned (.tuple #[spv lv' fv', .bool r]) ∧ Spn w' lv' fv' L' F' ∧ Below w.heap.size w w' :=
  ofSpO e1 e2 e3 (join_lens L F i).1 (join_lens L F i).2 (specSpineJoin_any lv fv L F i w h)
end
theorem ask_join {L : List (List Rw)} {F : List (Int × Int)} {i : Int} (h : joinB L F i = true) : AskL L F (joinL L F i) (joinF L F i) ∧ AskL (joinL L F i) (joinF L F i) L F := by
  have ho := (join_ok h).1
  have e1 : joinL L F i = joinO L F i.toNat := by simp [joinL, h]
  have e2 : joinF L F i = F := by simp [joinF, h]
  rw [e1, e2] at ho ⊢
  simp only [joinB, Bool.and_eq_true, decide_eq_true_eq] at h
  obtain ⟨⟨hk, h0, h1⟩, hk2⟩ := h
  have hi : ∀ X Y, askedB F X Y = true → itemsL (joinO L F i.toNat).flatten X Y = itemsL L.flatten X Y := fun X Y hc => join_items hk (by omega) ho hc
  refine ⟨fun X Y hX hs => ?_, fun X Y hX hs => ?_⟩
  · have hc : askedB F X Y = true := by simp only [satB, Bool.and_eq_true] at hs; exact hs.2
    exact ⟨satB_yes hk hX hc, by unfold satL; rw [satB_yes hk hX hc, hs]; simp [hi X Y hc]⟩
  · have hc : askedB F X Y = true := by simp only [satB, Bool.and_eq_true] at hs; exact hs.2
    exact ⟨satB_yes ho hX hc, by unfold satL; rw [satB_yes ho hX hc, hs]; simp [hi X Y hc]⟩
theorem asked_self {f : List (Int × Int)} (hf : fokB f = true) : askedT f f = true := by
  unfold askedT
  rw [List.all_eq_true]
  intro i hi
  have hi' : i < f.length := List.mem_range.1 hi
  unfold askedB
  rw [hf]
  simp only [Bool.true_and, Bool.or_eq_true]
  exact .inr (List.any_eq_true.2 ⟨i, hi, by rw [leB_self]; exact fok_ok hf hi'⟩)
theorem since_parts {L : List (List Rw)} {F f : List (Int × Int)} (h : sinceB L F f = true) : spokB L F = true ∧ fokB f = true ∧ f.length ≠ 0 ∧ askedT F f = true := by
  simp only [sinceB, Bool.and_eq_true, decide_eq_true_eq] at h
  exact ⟨h.1.1.1, h.1.1.2, h.1.2, h.2⟩
theorem since_twice {L : List (List Rw)} {F f : List (Int × Int)} (h : sinceB L F f = true) : sinceB (sinceL L F f) (sinceF L F f) f = true ∧ sinceL (sinceL L F f) (sinceF L F f) f = sinceL L F f ∧ sinceF (sinceL L F f) (sinceF L F f) f = sinceF L F f ∧ sinceL L F f = L := by
  rw [(sinceB_yes h).2.1, (sinceB_yes h).2.2]
  obtain ⟨h1, h2, h3, h4⟩ := since_parts h
  have h5 : sinceB L f f = true := by unfold sinceB; rw [spok_since h1 h2, h2, asked_self h2]; simpa using h3
  exact ⟨h5, (sinceB_yes h5).2.1, (sinceB_yes h5).2.2, rfl⟩
theorem asked_trans {F f : List (Int × Int)} (hF : fokB F = true) (hf : f.length ≠ 0) (h : askedT F f = true) {X Y : Int} (hc : askedB f X Y = true) : askedB F X Y = true := by
  unfold askedB at hc ⊢
  rw [hF]
  simp only [Bool.or_eq_true, Bool.and_eq_true, decide_eq_true_eq, Bool.true_and] at hc ⊢
  rcases hc with hc | ⟨_, hc⟩
  · exact absurd hc hf
  · obtain ⟨i, hi, hle⟩ := List.any_eq_true.1 hc
    unfold askedT at h
    have h1 := List.all_eq_true.1 h i hi
    unfold askedB at h1
    simp only [Bool.or_eq_true, Bool.and_eq_true, decide_eq_true_eq] at h1
    rcases h1 with h1 | ⟨_, h1⟩
    · exact .inl h1
    · exact .inr (any_trans h1 hle)
theorem ask_since {L : List (List Rw)} {F f : List (Int × Int)} (h : sinceB L F f = true) : AskL L F (sinceL L F f) (sinceF L F f) ∧ (∀ X Y : Int, okB X Y = true → satB (sinceL L F f) (sinceF L F f) X Y = (fokB f && anyB f X Y)) := by
  rw [(sinceB_yes h).2.1, (sinceB_yes h).2.2]
  obtain ⟨h1, h2, h3, h4⟩ := since_parts h
  refine ⟨fun X Y hX hs => ?_, fun X Y hX => ?_⟩
  · have hc : askedB f X Y = true := by simp only [satB, Bool.and_eq_true] at hs; exact hs.2
    have hc2 := asked_trans (spok_iff.1 h1).2.1 h3 h4 hc
    exact ⟨satB_yes h1 hX hc2, by unfold satL; rw [satB_yes h1 hX hc2, hs]⟩
  · unfold satB
    rw [spok_since h1 h2, hX, asked_cov h3]
    simp
end Go.Proofs.YtjkojbafifbdgaaGreat
