/- Two spines that are the same, held against each other, and what two spines tell of all times: the contracts. -/
import Derived.Test.YtjkojbafifbdgaaZs3
import Derived.Test.YtjkojbafifbdgaaGd3
import Derived.Test.YtjkojbafifbdgaaGb0
import Derived.Deep.RegionHeld3
import Derived.Test.YtjkojbafifbdgaaZx1
import Derived.Test.YtjkojbafifbdgaaZk3
import Derived.Test.YtjkojbafifbdgaaZk5
/-! Two spines that are the same, held against each other, and what two spines tell of all times: the contracts. -/
namespace Go.Proofs.Ytjkojbafifbdgaa
open Go.RowKit Go.Shelf

set_option maxRecDepth 100000 in
set_option maxHeartbeats 8000000 in
theorem lwSpine_same (lv fv lv' fv' : Value) (L : List (List Rw)) (F : List (Int × Int)) (w : World) (h : Spn w lv fv L F) (h' : Spn w lv' fv' L F) :
    Calls Try.prog 38 #[spv lv fv, spv lv' fv'] w fun e w' => e = .returned (.bool true) ∧ Below w.heap.size w w' := by
  have HS := (show Hid (Spn w lv fv L F) from h)
  have HS' := (show Hid (Spn w lv' fv' L F) from h')
  obtain ⟨aL, cL, rfl, hc, hm, hn, hcells⟩ := Ly.open h.1
  obtain ⟨aL', cL', rfl, hc', hm', hn', hcells'⟩ := Ly.open h'.1
  unfold maxLen at hm hm'
  have HC := (show Hid _ from hcells)
  have HC' := (show Hid _ from hcells')
  obtain ⟨aF, cF, rfl, -⟩ := h.2
  obtain ⟨aF', cF', rfl, -⟩ := h'.2
  have hb0 : Below w.heap.size w ((w.alloc (.cells #[.slice aL L.length cL, .slice aF F.length cF] 54)).alloc (.cells #[.slice aL' L.length cL', .slice aF' F.length cF'] 54)) := bAlloc (bAlloc (Below.refl _ _) _) _
  have bi : Bk ((w.alloc (.cells #[.slice aL L.length cL, .slice aF F.length cF] 54)).alloc (.cells #[.slice aL' L.length cL', .slice aF' F.length cF'] 54)) w.heap.size #[.slice aL L.length cL, .slice aF F.length cF] 54 := (Bk.new _ _ rfl).alloc _
  have bj : Bk ((w.alloc (.cells #[.slice aL L.length cL, .slice aF F.length cF] 54)).alloc (.cells #[.slice aL' L.length cL', .slice aF' F.length cF'] 54)) (w.heap.size + 1) #[.slice aL' L.length cL', .slice aF' F.length cF'] 54 := Bk.new (w := w.alloc _) _ _ (by simp)
  obtain ⟨i0, i1, _, _⟩ := bi.two
  obtain ⟨j0, j1, _, _⟩ := bj.two
  clear h h' hcells hcells'
  go_enter Try.func38, Try.ntmps38
  go_wp2_with fail
  refine (lwTimes_eq (l := F) (l' := F) (r := true) (by simp) (HS.out.keep hb0).2 (HS'.out.keep hb0).2).mono ?_
  rintro e w1 ⟨rfl, hb1⟩
  have hbw1 := bStep hb0 hb1
  have bi1 := bi.keep hb1
  have bj1 := bj.keep hb1
  have HBI := (show Hid _ from bi1)
  have HBJ := (show Hid _ from bj1)
  have HBW : Hid (Below w.heap.size w w1) := hbw1
  clear i0 i1 j0 j1 bi bj hb0 hb1 bi1 bj1 hbw1
  go_wp2_with fail
  go_loopw [5] (fun i wr => ∃ k : Nat, k ≤ L.length ∧ i = .int .i64 k ∧ Below w1.heap.size w1 wr) (fun i _ => L.length - (intOf i).toNat)
  case atStart => exact ⟨0, by omega, rfl, Below.refl _ _⟩
  case round =>
    obtain ⟨k, hk, rfl, hb⟩ := hrel
    obtain ⟨i0, i1, _, _⟩ := (Bk.keep HBI.out hb).two
    by_cases hlt : k < L.length
    · obtain ⟨g, off, ad, cp, rfl, hg, c0, hR⟩ := HC.out k hlt
      obtain ⟨g', off', ad', cp', rfl, hg', c0', hR'⟩ := HC'.out k hlt
      have ik : (k : Int) < (L.length : Int) := by omega
      have HX : Hid (∀ W, Below w1.heap.size w1 W → W.cell? ⟨w.heap.size, 0, none⟩ = some (.slice (some ⟨g, off, none⟩) L.length cL) ∧ W.cell? ⟨g, off + k, none⟩ = some (.slice ad (gl L k).length cp) ∧ W.cell? ⟨w.heap.size + 1, 0, none⟩ = some (.slice (some ⟨g', off', none⟩) L.length cL') ∧ W.cell? ⟨g', off' + k, none⟩ = some (.slice ad' (gl L k).length cp')) :=
        fun W hW => ⟨(Bk.keep HBI.out hW).two.1, cell_below (bStep HBW.out hW) c0, (Bk.keep HBJ.out hW).two.1, cell_below (bStep HBW.out hW) c0'⟩
      have HR1 : Hid (∀ W, Below w1.heap.size w1 W → Rs W (.slice ad (gl L k).length cp) (gl L k)) := fun W hW => hR.keep (bStep HBW.out hW)
      have HR2 : Hid (∀ W, Below w1.heap.size w1 W → Rs W (.slice ad' (gl L k).length cp') (gl L k)) := fun W hW => hR'.keep (bStep HBW.out hW)
      have hbD := hb.drew
      clear c0 c0' hR hR' i1
      generalize gl L k = G at *
      go_wp2_with fail
      go_region_held3 (fun w' => w'.cell? ⟨w.heap.size, 0, none⟩ = some (.slice (some ⟨g, off, none⟩) L.length cL) ∧ w'.cell? ⟨g, off + k, none⟩ = some (.slice ad G.length cp) ∧ w'.cell? ⟨w.heap.size + 1, 0, none⟩ = some (.slice (some ⟨g', off', none⟩) L.length cL') ∧ w'.cell? ⟨g', off' + k, none⟩ = some (.slice ad' G.length cp'))
        (first | exact HX.out _ hbD | exact HX.out _ hbna)
        (first
          | (go_at_call 11; with_reducible refine (lwRows_eq (selfR _) (HR1.out _ hbD) (HR2.out _ hbD)).mono ?_; rintro e wa ⟨rfl, hba⟩; have hbna : Below w1.heap.size w1 wa := bStep hbD hba))
      all_goals
        go_wp2_with fail
        go_roundw
        case rel => exact ⟨k + 1, by omega, by go_num, hbna⟩
        case measure => simp [intOf]; omega
    · obtain rfl : k = L.length := by omega
      go_wp2_with fail
      go_ret
      exact ⟨rfl, bStep HBW.out hb⟩
/-- What a second spine tells the first tells too. -/
def AskL (L : List (List Rw)) (F : List (Int × Int)) (L' : List (List Rw)) (F' : List (Int × Int)) : Prop := ∀ X Y : Int, okB X Y = true → satB L' F' X Y = true → satB L F X Y = true ∧ satL L F X Y = satL L' F' X Y
theorem sat_few (L : List (List Rw)) (F : List (Int × Int)) (x y : Int) : (satL L F x y).length ≤ 2097152 := by
  unfold satL; split
  · have := items_len L.flatten x y; omega
  · simp
end Go.Proofs.Ytjkojbafifbdgaa

/-! Drawn spines: the contracts of the functions that draw them. -/
namespace Go.Proofs.Ytjkojbafifbdgaa
open Go.RowKit Go.Shelf

attribute [local go_sem ↓] Go.wp_at_zero Go.wp_at_succ
theorem SpI.make {w W0 w1 w2 : World} {v : Value} {n : Nat} {p : Int} {lv fv : Value} {L : List (List Rw)} {F : List (Int × Int)} (bR : Bk W0 w.heap.size #[.slice none 0 0, .slice none 0 0] 54) (hb0 : Below w.heap.size w W0) (hb1 : Below W0.heap.size W0 w1) (h1 : W0.heap.size < w1.heap.size) (hs : SpO w2 w1.heap.size lv fv L F) (hr : Rd W0.heap.size w2 W0.heap.size v n p) (hx : Bx W0.heap.size w1 w2) :
    SpI W0.heap.size W0.heap.size v n w (w2.alloc (.cells #[lv, fv] 54)) w.heap.size w2.heap.size w1.heap.size p lv fv L F := by
  have h2 := hx.size
  have hz := bR.lt
  have ha : Below w2.heap.size w2 (w2.alloc (.cells #[lv, fv] 54)) := bAlloc (Below.refl _ _) _
  exact ⟨Bk.new _ _ rfl, ((bR.keep hb1).keepx hx (by omega)).keep ha, hs.keep ha, hr.keepb ha, (((Bx.of_below hb0).trans (Bx.of_below hb1)).trans hx).alloc _, ⟨by omega, by omega⟩, ⟨by omega, by omega, by omega, by omega⟩, by omega, by omega, by simp; omega⟩
theorem own_box {w : World} {B o i : Nat} {v u : Value} {l : List (Int × Int)} {d : Array Value} (h : Own w B v l) (k : Bk w o d 54) : Own (w.setCell ⟨o, i, none⟩ u) B v l :=
  ownK_at h fun q e => Below.heap_setCell _ _ _ _ (show q ≠ o from fun e2 => time_not_spine h k e e2.symm)
theorem Bx.low {w W : World} {g : Nat} (h : Bx g w W) (hg : w.heap.size ≤ g) : Below w.heap.size w W := h.bel (Nat.le_refl _) hg
theorem DSp.spn {c : Int} {w : World} {B : Nat} {lv fv : Value} {L : List (List Rw)} {F : List (Int × Int)} (h : DSp c L F) (hs : SpO w B lv fv L F) : Spn w lv fv L F := hs.spn (by have := h.1; omega) (by have := h.2.1; omega)
end Go.Proofs.Ytjkojbafifbdgaa

/-! Drawn spines and a place: the contract. -/
namespace Go.Proofs.Ytjkojbafifbdgaa
open Go.RowKit Go.Shelf

attribute [local go_sem ↓] Go.wp_at_zero Go.wp_at_succ
set_option maxRecDepth 100000 in
set_option maxHeartbeats 8000000 in
theorem drawSpineJoin_any (a : Option Addr) (len cap : Nat) (w : World) (h : Src w (.slice a len cap) len) :
    Calls Try.prog 35 #[.slice a len cap] w fun e w' => ∃ (lv fv : Value) (L : List (List Rw)) (F : List (Int × Int)) (i : Int), e = .returned (.tuple #[spv lv fv, .int .i64 i]) ∧ DSp 93 L F ∧ -1 ≤ i ∧ i ≤ 8 ∧ Spn w' lv fv L F ∧ Below w.heap.size w w' := by
  have hb0 : Below w.heap.size w (w.alloc (.cells #[.slice none 0 0, .slice none 0 0] 54)) := bAlloc (Below.refl _ _) _
  have bR : Bk (w.alloc (.cells #[.slice none 0 0, .slice none 0 0] 54)) w.heap.size #[.slice none 0 0, .slice none 0 0] 54 := Bk.new _ _ rfl
  have hgW : w.heap.size ≤ (w.alloc (.cells #[.slice none 0 0, .slice none 0 0] 54)).heap.size := by simp
  go_enter Try.func35, Try.ntmps35
  go_wp2_with fail
  generalize hW0 : (w.alloc (.cells #[.slice none 0 0, .slice none 0 0] 54)) = W0 at *
  refine (l6Open_any _ _ _ _ (h.keep hb0)).mono ?_
  rintro e w1 ⟨rfl, ⟨v, n, hr1⟩, hb1⟩
  have h1 := hr1.blk.lt
  clear h hW0
  go_wp2_with fail
  refine (l71Spine_any hr1 (by omega) (by omega)).mono ?_
  rintro e w2 ⟨lv, fv, L, F, rfl, hd, hs2, ⟨p2, hp2, hp2', hr2⟩, hx2⟩
  obtain ⟨av, cv, af, cf, e1, e2⟩ := hs2.open
  subst e1 e2
  have HD : Hid (DSp 93 L F) := hd
  have hz2 := hx2.size
  have HI := (show Hid (SpI W0.heap.size W0.heap.size v n w (w2.alloc (.cells #[.slice av L.length cv, .slice af F.length cf] 54)) w.heap.size w2.heap.size w1.heap.size p2 (.slice av L.length cv) (.slice af F.length cf) L F) from SpI.make bR hb0 hb1 h1 hs2 hr2 hx2)
  clear hs2 hr2 hx2 hb1 hb0 hr1 bR hd
  go_wp2_with fail
  generalize hWA : (w2.alloc (.cells #[.slice av L.length cv, .slice af F.length cf] 54)) = wA at *
  go_loopw [6] (fun i wr => ∃ (j : Nat) (p' : Int) (lv fv : Value) (L : List (List Rw)) (F : List (Int × Int)), j ≤ 4 ∧ i = .int .i64 j ∧ SpI W0.heap.size W0.heap.size v n w wr w.heap.size w2.heap.size w1.heap.size p' lv fv L F ∧ DSp 93 L F ∧ 0 ≤ p' ∧ p' ≤ 6000 + 6000 * j) (fun i _ => 4 - (intOf i).toNat)
  case atStart => exact ⟨0, p2, _, _, L, F, by omega, rfl, HI.out, HD.out, by omega, by omega⟩
  case round =>
    clear HI HD hWA
    obtain ⟨j, p', lv, fv, L, F, hj, rfl, hI, hd, hp0, hp1⟩ := hrel
    obtain ⟨av, cv, af, cf, e1, e2⟩ := hI.own.open
    subst e1 e2
    have HI := (show Hid _ from hI)
    have HD := (show Hid _ from hd)
    have hl7 := hd.1
    obtain ⟨y0, y1, e0, e1⟩ := hI.box.two
    by_cases hgo : j < 4 ∧ L.length < 2
    · obtain ⟨hj4, hl2⟩ := hgo
      have ij : (j : Int) < 4 := by omega
      have il : (L.length : Int) < 2 := by omega
      clear hI hd
      go_wp2_with fail
      refine (l71Spine_any HI.out.rd (by omega) (by omega)).mono ?_
      rintro e w3 ⟨lv3, fv3, L3, F3, rfl, hd3, hs3, ⟨p3, hp3, hp3', hr3⟩, hx3⟩
      obtain ⟨a3, c3, a4, c4, e1, e2⟩ := hs3.open
      subst e1 e2
      have HI3 := (show Hid _ from HI.out.keepx hx3 hr3)
      have HS3 := (show Hid _ from hs3.less HI.out.hM.2.2)
      have HD3 := (show Hid _ from hd3)
      obtain ⟨z0, z1, g0, g1⟩ := HI3.out.box.two
      obtain ⟨z2, z3, g2, g3⟩ := bk_set0 HI3.out.box (.slice a3 L3.length c3)
      clear hs3 hr3 hx3 hd3
      go_wp2_with fail
      go_roundw
      case rel => exact ⟨j + 1, p3, _, _, L3, F3, by omega, by go_num, HI3.out.set HS3.out, HD3.out, by omega, by omega⟩
      case measure => simp [intOf]; omega
    · have hgo' : ¬ ((j : Int) < 4) ∨ (j : Int) < 4 ∧ ¬ ((L.length : Int) < 2) := by omega
      have HID := (show Hid _ from HI.out.keep (Below.refl _ _).drew)
      have HX : Hid (∀ W, Bx W0.heap.size wr W → W.cell? ⟨w2.heap.size, 0, none⟩ = some (.slice av L.length cv) ∧ W.cell? ⟨w2.heap.size, 1, none⟩ = some (.slice af F.length cf)) := fun W hW => ⟨(HI.out.box.keepx hW HI.out.hb.2.1).two.1, (HI.out.box.keepx hW HI.out.hb.2.1).two.2.1⟩
      have NP0 : 0 ≤ p' := hp0
      have NP1 : p' ≤ 1000000 := by omega
      have N1 : (1 : Int) ≤ (L.length : Int) + 2 := by omega
      have N2 : (L.length : Int) + 2 ≤ 1000 := by omega
      have k0 : Bx W0.heap.size wr wr.drew := (Bx.refl _ _).drew
      have HWR : Hid (IntKind.i64.wrap ((L.length : Int) + 2) = (L.length : Int) + 2) := by show _ = _; rw [IntKind.wrap_i64]; omega
      clear hI hd hgo
      rcases hgo' with hj4 | ⟨hj4, hl2⟩
      all_goals
        go_wp2_with fail
        go_region_held3 (fun W => W.cell? ⟨w2.heap.size, 0, none⟩ = some (.slice av L.length cv) ∧ W.cell? ⟨w2.heap.size, 1, none⟩ = some (.slice af F.length cf))
          (first | exact HX.out _ k0 | exact HX.out _ k3 | exact HX3.out | exact HX4.out)
          (first
            | (go_at_call 71; (with_reducible show Calls _ _ _ wr.drew _); rw [HWR.out]; refine (pick_any HID.out.rd NP0 NP1 ((L.length : Int) + 2) N1 N2).mono ?_; rintro e w3 ⟨kk, rfl, hq0, hq1, hr3, hx3⟩; have k3 : Bx W0.heap.size wr w3 := k0.trans hx3; have HI3 := (show Hid _ from HID.out.keepx hx3 hr3); obtain ⟨r0, r1, t0, t1⟩ := HI3.out.res.two; obtain ⟨r2, r3, t2, t3⟩ := bk_set0 HI3.out.res (.slice av L.length cv); have HB3 := Bk.apart (p := ⟨w.heap.size, 0, none⟩) HI3.out.box (HI3.out.hb.2.2.1) (.slice av L.length cv); have HB4 := Bk.apart (p := ⟨w.heap.size, 1, none⟩) HB3 (HI3.out.hb.2.2.1) (.slice af F.length cf); have HX3 := (show Hid _ from And.intro HB3.two.1 HB3.two.2.1); have HX4 := (show Hid _ from And.intro HB4.two.1 HB4.two.2.1); obtain ⟨c0, c1, _, _⟩ := (HI3.out.res.set01 (.slice av L.length cv) (.slice af F.length cf)).two))
        all_goals
          go_wp2_with fail
          refine bodyPost_ret (by simp [results, Try.results35, go_sem, c0, c1]; try rfl) rfl ?_
          exact ⟨_, _, L, F, _, rfl, HD.out, by first | omega | (rw [IntKind.wrap_i64]; omega), by first | omega | (rw [IntKind.wrap_i64]; omega), DSp.spn HD.out HI3.out.fin.1, Bx.low HI3.out.fin.2 hgW⟩
end Go.Proofs.Ytjkojbafifbdgaa

/-! Contracts on spines in the form in which the laws use them; plain facts of those laws. -/
namespace Go.Proofs.Ytjkojbafifbdgaa
open Go.RowKit Go.Shelf

theorem ofSpO {f : FuncId} {args : Array Value} {w : World} {L M : List (List Rw)} {F G : List (Int × Int)} {r s : Bool} (e1 : s = r) (e2 : M = L) (e3 : G = F) (hL : M.length ≤ 1000) (hF : G.length ≤ 1000) (h : Calls Try.prog f args w fun e w' => ∃ lv' fv' : Value, e = .returned (.tuple #[spv lv' fv', .bool s]) ∧ SpO w' w.heap.size lv' fv' M G ∧ Below w.heap.size w w') :
    Calls Try.prog f args w fun e w' => ∃ lv' fv' : Value, e = .returned (.tuple #[spv lv' fv', .bool r]) ∧ Spn w' lv' fv' L F ∧ Below w.heap.size w w' := by
  subst e1 e2 e3
  refine h.mono ?_
  rintro e w' ⟨lv, fv, rfl, h1, h2⟩
  exact ⟨lv, fv, rfl, h1.spn (by omega) (by omega), h2⟩
theorem spok_lens {L : List (List Rw)} {F : List (Int × Int)} (h : spokB L F = true) : L.length ≤ 6 ∧ F.length ≤ 8 := ⟨(spok_iff.1 h).1, fok_len (spok_iff.1 h).2.1⟩
theorem since_lens (L : List (List Rw)) (F f : List (Int × Int)) : (sinceL L F f).length ≤ 1000 ∧ (sinceF L F f).length ≤ 1000 := by
  cases h : sinceB L F f
  · rw [(sinceB_no h).2.1, (sinceB_no h).2.2]; simp
  · have := spok_lens (since_ok h).1; omega
theorem join_lens (L : List (List Rw)) (F : List (Int × Int)) (i : Int) : (joinL L F i).length ≤ 1000 ∧ (joinF L F i).length ≤ 1000 := by
  cases h : joinB L F i
  · simp [joinL, joinF, h]
  · have := spok_lens (join_ok h).1; omega
theorem in_lens (L : List (List Rw)) (F : List (Int × Int)) (b : List Rw) : (inLL L F b).length ≤ 1000 ∧ (inF L F b).length ≤ 1000 := by
  cases h : inB1 L F b
  · rw [(in_no h).2.1, (in_no h).2.2]; simp
  · have := spok_lens (in_ok h).1; omega
section
variable {L L' : List (List Rw)} {F F' : List (Int × Int)} {r : Bool} {lv fv : Value} {w : World}
theorem specSince_k {f : List (Int × Int)} (e1 : sinceB L F f = r) (e2 : sinceL L F f = L') (e3 : sinceF L F f = F') {gv : Value} (h : Spn w lv fv L F) (hv : Ts w gv f) : Calls Try.prog 108 #[spv lv fv, gv] w fun e w' => ∃ lv' fv' : Value, e = .returned (.tuple #[spv lv' fv', .bool r]) ∧ Spn w' lv' fv' L' F' ∧ Below w.heap.size w w' :=
  ofSpO e1 e2 e3 (since_lens L F f).1 (since_lens L F f).2 (specSpineSince_any lv fv gv L F f w h hv)
theorem implJoinS_k {i : Int} (e1 : joinB L F i = r) (e2 : joinL L F i = L') (e3 : joinF L F i = F') (h : Spn w lv fv L F) : Calls Try.prog 37 #[spv lv fv, .int .i64 i] w fun e w' => ∃ lv' fv' : Value, e = .returned (.tuple #[spv lv' fv', .bool r]) ∧ Spn w' lv' fv' L' F' ∧ Below w.heap.size w w' :=
  ofSpO e1 e2 e3 (join_lens L F i).1 (join_lens L F i).2 (implSpineJoin_any lv fv L F i w h)
theorem specJoinS_k {i : Int} (e1 : joinB L F i = r) (e2 : joinL L F i = L') (e3 : joinF L F i = F') (h : Spn w lv fv L F) : Calls Try.prog 36 #[spv lv fv, .int .i64 i] w fun e w' => ∃ lv' fv' : Value, e = .returned (.tuple #[spv lv' fv', .bool r]) ∧ Spn w' lv' fv' L' F' ∧ Below w.heap.size w w' :=
  ofSpO e1 e2 e3 (join_lens L F i).1 (join_lens L F i).2 (specSpineJoin_any lv fv L F i w h)
end
theorem ask_join {L : List (List Rw)} {F : List (Int × Int)} {i : Int} (h : joinB L F i = true) : AskL L F (joinL L F i) (joinF L F i) ∧ AskL (joinL L F i) (joinF L F i) L F := by
  have ho := (join_ok h).1
  have e1 : joinL L F i = joinO L F i.toNat := by simp [joinL, h]
  have e2 : joinF L F i = F := by simp [joinF, h]
  rw [e1, e2] at ho ⊢
  simp only [joinB, Bool.and_eq_true, decide_eq_true_eq] at h
  obtain ⟨⟨hk, h0, h1⟩, hk2⟩ := h
  have hi : ∀ X Y, askedB F X Y = true → itemsL (joinO L F i.toNat).flatten X Y = itemsL L.flatten X Y := fun X Y hc => join_items hk (by omega) ho hc
  refine ⟨fun X Y hX hs => ?_, fun X Y hX hs => ?_⟩
  · have hc : askedB F X Y = true := by simp only [satB, Bool.and_eq_true] at hs; exact hs.2
    exact ⟨satB_yes hk hX hc, by unfold satL; rw [satB_yes hk hX hc, hs]; simp [hi X Y hc]⟩
  · have hc : askedB F X Y = true := by simp only [satB, Bool.and_eq_true] at hs; exact hs.2
    exact ⟨satB_yes ho hX hc, by unfold satL; rw [satB_yes ho hX hc, hs]; simp [hi X Y hc]⟩
theorem asked_self {f : List (Int × Int)} (hf : fokB f = true) : askedT f f = true := by
  unfold askedT
  rw [List.all_eq_true]
  intro i hi
  have hi' : i < f.length := List.mem_range.1 hi
  unfold askedB
  rw [hf]
  simp only [Bool.true_and, Bool.or_eq_true]
  exact .inr (List.any_eq_true.2 ⟨i, hi, by rw [leB_self]; exact fok_ok hf hi'⟩)
theorem since_parts {L : List (List Rw)} {F f : List (Int × Int)} (h : sinceB L F f = true) : spokB L F = true ∧ fokB f = true ∧ f.length ≠ 0 ∧ askedT F f = true := by
  simp only [sinceB, Bool.and_eq_true, decide_eq_true_eq] at h
  exact ⟨h.1.1.1, h.1.1.2, h.1.2, h.2⟩
theorem since_twice {L : List (List Rw)} {F f : List (Int × Int)} (h : sinceB L F f = true) : sinceB (sinceL L F f) (sinceF L F f) f = true ∧ sinceL (sinceL L F f) (sinceF L F f) f = sinceL L F f ∧ sinceF (sinceL L F f) (sinceF L F f) f = sinceF L F f ∧ sinceL L F f = L := by
  rw [(sinceB_yes h).2.1, (sinceB_yes h).2.2]
  obtain ⟨h1, h2, h3, h4⟩ := since_parts h
  have h5 : sinceB L f f = true := by unfold sinceB; rw [spok_since h1 h2, h2, asked_self h2]; simpa using h3
  exact ⟨h5, (sinceB_yes h5).2.1, (sinceB_yes h5).2.2, rfl⟩
theorem asked_trans {F f : List (Int × Int)} (hF : fokB F = true) (hf : f.length ≠ 0) (h : askedT F f = true) {X Y : Int} (hc : askedB f X Y = true) : askedB F X Y = true := by
  unfold askedB at hc ⊢
  rw [hF]
  simp only [Bool.or_eq_true, Bool.and_eq_true, decide_eq_true_eq, Bool.true_and] at hc ⊢
  rcases hc with hc | ⟨_, hc⟩
  · exact absurd hc hf
  · obtain ⟨i, hi, hle⟩ := List.any_eq_true.1 hc
    unfold askedT at h
    have h1 := List.all_eq_true.1 h i hi
    unfold askedB at h1
    simp only [Bool.or_eq_true, Bool.and_eq_true, decide_eq_true_eq] at h1
    rcases h1 with h1 | ⟨_, h1⟩
    · exact .inl h1
    · exact .inr (any_trans h1 hle)
theorem ask_since {L : List (List Rw)} {F f : List (Int × Int)} (h : sinceB L F f = true) : AskL L F (sinceL L F f) (sinceF L F f) ∧ (∀ X Y : Int, okB X Y = true → satB (sinceL L F f) (sinceF L F f) X Y = (fokB f && anyB f X Y)) := by
  rw [(sinceB_yes h).2.1, (sinceB_yes h).2.2]
  obtain ⟨h1, h2, h3, h4⟩ := since_parts h
  refine ⟨fun X Y hX hs => ?_, fun X Y hX => ?_⟩
  · have hc : askedB f X Y = true := by simp only [satB, Bool.and_eq_true] at hs; exact hs.2
    have hc2 := asked_trans (spok_iff.1 h1).2.1 h3 h4 hc
    exact ⟨satB_yes h1 hX hc2, by unfold satL; rw [satB_yes h1 hX hc2, hs]⟩
  · unfold satB
    rw [spok_since h1 h2, hX, asked_cov h3]
    simp
end Go.Proofs.Ytjkojbafifbdgaa
