/- SpineJoin of the model: the contract. -/
import Derived.Test.YtjkojbafifbdgaaGreatZc1
import Derived.Test.YtjkojbafifbdgaaGreatZk0
import Derived.Test.YtjkojbafifbdgaaGreatGs2
import Derived.Deep.RegionHeld3
import Derived.Deep.RegionWith
import Derived.Deep.DeepCutAuto
namespace Go.Proofs.YtjkojbafifbdgaaGreat
open Go.RowKit Go.Shelf

attribute [local go_sem ↓] Go.wp_at_zero Go.wp_at_succ
theorem slice_uptoV (g i n cap : Nat) (hi : i ≤ n) (hn : n ≤ cap) (u : World) : (Instr.slice 23 (.slice (some ⟨g, 0, none⟩) n cap) Option.none (some (.int .i64 i)) Option.none).run Tryz.prog u = .ok (.slice (some ⟨g, 0, none⟩) i cap) u := by
  have ht : Tryz.prog.underlying 23 = some (.slice (Tryz.prog.elem 23)) := by kernel_rfl
  have hs : ∀ u : World, (sizeOf (Tryz.prog.elem 23)).run Tryz.prog u = .ok 1 u := fun u => by kernel_rfl
  rw [run_slice_h (P := Tryz.prog) u 23 _ _ _ ht .i64 i (by omega) (by omega), hs u]
  simp [Result.andThen, sliced, Addr.add]
theorem slice_fromV (g i n cap : Nat) (j : Int) (hj : j = (i : Int)) (hi : i ≤ n) (hn : n ≤ cap) : ∃ off, (i < n → off = i) ∧ ∀ u : World, (Instr.slice 23 (.slice (some ⟨g, 0, none⟩) n cap) (some (.int .i64 j)) Option.none Option.none).run Tryz.prog u = .ok (.slice (some ⟨g, off, none⟩) (n - i) (cap - i)) u := by
  subst hj
  have ht : Tryz.prog.underlying 23 = some (.slice (Tryz.prog.elem 23)) := by kernel_rfl
  have hs : ∀ u : World, (sizeOf (Tryz.prog.elem 23)).run Tryz.prog u = .ok 1 u := fun u => by kernel_rfl
  by_cases hc : cap = i
  · refine ⟨0, fun h => by omega, fun u => ?_⟩
    rw [run_slice_l (P := Tryz.prog) u 23 _ _ _ ht .i64 i (by omega) (by omega), hs u]
    simp [Result.andThen, sliced, hc]
  · refine ⟨i, fun _ => rfl, fun u => ?_⟩
    rw [run_slice_l (P := Tryz.prog) u 23 _ _ _ ht .i64 i (by omega) (by omega), hs u]
    simp [Result.andThen, sliced, Addr.add, hc]; omega
theorem Vs.take {w : World} {g n cap : Nat} {vs : List Value} (h : Vs w (.slice (some ⟨g, 0, none⟩) n cap) vs) (k : Nat) (hk : k ≤ vs.length) : Vs w (.slice (some ⟨g, 0, none⟩) k cap) (vs.take k) := by
  obtain ⟨a, c, e, h1, h2, h3, h4⟩ := h
  cases e
  refine ⟨_, cap, by rw [List.length_take, Nat.min_eq_left hk], by rw [List.length_take]; omega, h2, by rw [List.length_take]; omega, fun i x hi => ?_⟩
  have hik : i < k := by have := (List.getElem?_eq_some_iff.1 hi).1; rw [List.length_take] at this; omega
  rw [List.getElem?_take_of_lt hik] at hi
  exact h4 i x hi
theorem Vs.drop {w : World} {g n cap off : Nat} {vs : List Value} (h : Vs w (.slice (some ⟨g, 0, none⟩) n cap) vs) (k : Nat) (hk : k ≤ vs.length) (ho : k < vs.length → off = k) : Vs w (.slice (some ⟨g, off, none⟩) (vs.length - k) (cap - k)) (vs.drop k) := by
  obtain ⟨a, c, e, h1, h2, h3, h4⟩ := h
  cases e
  refine ⟨_, cap - k, by rw [List.length_drop], by rw [List.length_drop]; omega, by omega, by rw [List.length_drop]; omega, fun i x hi => ?_⟩
  rw [List.getElem?_drop] at hi
  obtain ⟨g', off', e, hg, c⟩ := h4 (k + i) x hi
  cases e
  have hlt := (List.getElem?_eq_some_iff.1 hi).1
  obtain rfl := ho (by omega)
  refine ⟨g, off, rfl, hg, fun j hj => ?_⟩
  have := c j hj
  rw [Nat.mul_one, Nat.zero_add] at this
  rw [Nat.mul_one, this]
theorem EachO.one {w : World} {B : Nat} {vs : List Value} {L : List (List Rw)} (h : EachO w B vs L) : ∀ u ∈ vs, u.oneCell' = true := fun u hu => by
  obtain ⟨i, hi, e⟩ := List.getElem_of_mem hu
  have hr := h.each.at (i := i) (u := u) (by rw [List.getElem?_eq_getElem hi, e])
  obtain ⟨a, c, rfl, -⟩ := Rs.open hr
  rfl
theorem rows_not_spine {w : World} {B o q : Nat} {v : Value} {l : List Value} {d : Array Value} (h : OwnV w B v l) (k : Bk w o d 26) (e : v.ownBlock = some q) : o ≠ q := fun e2 => by
  subst e2
  obtain ⟨c, hc⟩ := rows_block h e
  unfold Bk at hc k
  rw [hc] at k
  cases k
set_option maxRecDepth 100000 in
set_option maxHeartbeats 16000000 in
theorem specSpineJoin_any (lv fv : Value) (L : List (List Rw)) (F : List (Int × Int)) (i : Int) (w : World) (h : Spn w lv fv L F) :
    Calls Tryz.prog 60 #[spv lv fv, .int .i64 i] w fun e w' => ∃ lv' fv' : Value, e = .returned (.tuple #[spv lv' fv', .bool (joinB L F i)]) ∧ SpO w' w.heap.size lv' fv' (joinL L F i) (joinF L F i) ∧ Below w.heap.size w w' := by
  have HS := (show Hid (Spn w lv fv L F) from h)
  obtain ⟨aL, cL, aF, cF, rfl, rfl⟩ := Spn.open h
  have bs0 : Bk ((w.alloc (.cells #[.slice aL L.length cL, .slice aF F.length cF] 26)).alloc (.cells #[.slice none 0 0, .slice none 0 0] 26)) w.heap.size #[.slice aL L.length cL, .slice aF F.length cF] 26 := (Bk.new _ _ rfl).alloc _
  have br0 : Bk ((w.alloc (.cells #[.slice aL L.length cL, .slice aF F.length cF] 26)).alloc (.cells #[.slice none 0 0, .slice none 0 0] 26)) (w.heap.size + 1) #[.slice none 0 0, .slice none 0 0] 26 := Bk.new (w := w.alloc _) _ _ (by simp)
  have hb0 : Below w.heap.size w ((w.alloc (.cells #[.slice aL L.length cL, .slice aF F.length cF] 26)).alloc (.cells #[.slice none 0 0, .slice none 0 0] 26)) := bAlloc (bAlloc (Below.refl _ _) _) _
  have hs0 : w.heap.size + 2 ≤ ((w.alloc (.cells #[.slice aL L.length cL, .slice aF F.length cF] 26)).alloc (.cells #[.slice none 0 0, .slice none 0 0] 26)).heap.size := by simp
  obtain ⟨s0, s1, _, _⟩ := bs0.two
  clear h
  cases hk : spokB L F
  · have HN := (show Hid _ from joinB_no1 (i := i) hk)
    go_enter Tryz.func60, Tryz.ntmps60
    go_wp2_with fail
    generalize ((w.alloc (.cells #[.slice aL L.length cL, .slice aF F.length cF] 26)).alloc (.cells #[.slice none 0 0, .slice none 0 0] 26)) = w0 at *
    refine (specSpineOk_eq hk (HS.out.keep hb0)).mono ?_
    rintro e w1 ⟨rfl, hb1⟩
    have hbw1 := bStep hb0 hb1
    have bs1 := bs0.keep hb1
    have br1 := br0.keep hb1
    have hs1 := Nat.le_trans hs0 hb1.size
    obtain ⟨p0, p1, _, _⟩ := bs1.two
    clear s0 s1 hb0 hb1 bs0 br0 hs0
    have q8 := (br1.set 0 (.slice none 0 0)).set 1 (.slice none 0 0)
    have q9 := br1.set 0 (.slice none 0 0)
    obtain ⟨x0, x1, g0, g1⟩ := br1.two
    obtain ⟨y0, y1, h0, h1⟩ := q9.two
    obtain ⟨t0, t1, _, _⟩ := q8.two
    have HB8 : Hid (Below w.heap.size w ((w1.setCell ⟨w.heap.size + 1, 0, none⟩ (.slice none 0 0)).setCell ⟨w.heap.size + 1, 1, none⟩ (.slice none 0 0))) := (hbw1.setCell (show w.heap.size ≤ w.heap.size + 1 by omega) _).setCell (show w.heap.size ≤ w.heap.size + 1 by omega) _
    clear q8 q9 br1 hbw1
    go_wp2_with fail
    refine bodyPost_ret (v := .tuple #[spv (.slice none 0 0) (.slice none 0 0), .bool false]) (by simp [results, Tryz.results60, go_sem, t0, t1]) rfl ?_
    exact ⟨_, _, by rw [HN.out.1], by rw [HN.out.2.1, HN.out.2.2]; exact SpO.nil _ _, HB8.out⟩
  have h6 := (spok_iff.1 hk).1
  have hwr : IntKind.i64.wrap ((L.length : Int) - 2) = (L.length : Int) - 2 := by rw [IntKind.wrap_i64]; omega
  cases hin : inB i 0 ((L.length : Int) - 2)
  · have HN := (show Hid _ from joinB_no2 (L := L) (F := F) (i := i) (fun e => by rw [show inB i 0 ((L.length : Int) - 2) = true by simp [inB]; omega] at hin; cases hin))
    go_enter Tryz.func60, Tryz.ntmps60
    go_wp2_with fail
    generalize ((w.alloc (.cells #[.slice aL L.length cL, .slice aF F.length cF] 26)).alloc (.cells #[.slice none 0 0, .slice none 0 0] 26)) = w0 at *
    refine (specSpineOk_eq hk (HS.out.keep hb0)).mono ?_
    rintro e w1 ⟨rfl, hb1⟩
    have hbw1 := bStep hb0 hb1
    have bs1 := bs0.keep hb1
    have br1 := br0.keep hb1
    have hs1 := Nat.le_trans hs0 hb1.size
    obtain ⟨p0, p1, _, _⟩ := bs1.two
    clear s0 s1 hb0 hb1 bs0 br0 hs0
    go_wp2_with fail
    refine (l6In_eq hin w1).mono ?_
    rintro e w1' ⟨rfl, rfl⟩
    have q8 := (br1.set 0 (.slice none 0 0)).set 1 (.slice none 0 0)
    have q9 := br1.set 0 (.slice none 0 0)
    obtain ⟨x0, x1, g0, g1⟩ := br1.two
    obtain ⟨y0, y1, h0, h1⟩ := q9.two
    obtain ⟨t0, t1, _, _⟩ := q8.two
    have HB8 : Hid (Below w.heap.size w ((w1'.setCell ⟨w.heap.size + 1, 0, none⟩ (.slice none 0 0)).setCell ⟨w.heap.size + 1, 1, none⟩ (.slice none 0 0))) := (hbw1.setCell (show w.heap.size ≤ w.heap.size + 1 by omega) _).setCell (show w.heap.size ≤ w.heap.size + 1 by omega) _
    clear q8 q9 br1 hbw1
    go_wp2_with fail
    refine bodyPost_ret (v := .tuple #[spv (.slice none 0 0) (.slice none 0 0), .bool false]) (by simp [results, Tryz.results60, go_sem, t0, t1]) rfl ?_
    exact ⟨_, _, by rw [HN.out.1], by rw [HN.out.2.1, HN.out.2.2]; exact SpO.nil _ _, HB8.out⟩
  obtain ⟨k, rfl⟩ : ∃ k : Nat, i = (k : Int) := ⟨i.toNat, by simp [inB] at hin; omega⟩
  have hk2 : k + 2 ≤ L.length := by simp [inB] at hin; omega
  obtain ⟨n1, n2, n3⟩ := joinB_yes (F := F) hk rfl hk2
  rw [spok_join hk hk2] at n1
  have HN := (show Hid _ from (And.intro n1 (And.intro n2 n3)))
  have HSJ := (show Hid _ from spok_join hk hk2)
  obtain ⟨-, fF, hall, -⟩ := spok_iff.1 hk
  have hfl := fok_len fF
  have ba : bokB (gl L k) = true := hall _ (gl_mem (by omega))
  have bb : bokB (gl L (k + 1)) = true := hall _ (gl_mem (by omega))
  have la := rok_len (bok_rok ba)
  have lb := rok_len (bok_rok bb)
  have aa := rok_abs (bok_rok ba)
  have ab := rok_abs (bok_rok bb)
  have HO : Hid (oneL F (gl L k) (gl L (k + 1)) = sumL ltS (moveL F (sumL ltS (gl L k ++ gl L (k + 1))))) := rfl
  have hml := sumL_len ltS (gl L k ++ gl L (k + 1))
  rw [List.length_append] at hml
  have hab := sum_absR (gl L k ++ gl L (k + 1))
  rw [absum_append] at hab
  have hna := move_abs F (sumL ltS (gl L k ++ gl L (k + 1)))
  have hnl : (moveL F (sumL ltS (gl L k ++ gl L (k + 1)))).length = (sumL ltS (gl L k ++ gl L (k + 1))).length := by simp [moveL]
  have hol := oneL_len F (gl L k) (gl L (k + 1))
  clear n1 n2 n3 hall
  go_enter Tryz.func60, Tryz.ntmps60
  go_wp2_with fail
  generalize ((w.alloc (.cells #[.slice aL L.length cL, .slice aF F.length cF] 26)).alloc (.cells #[.slice none 0 0, .slice none 0 0] 26)) = w0 at *
  refine (specSpineOk_eq hk (HS.out.keep hb0)).mono ?_
  rintro e w1 ⟨rfl, hb1⟩
  have hbw1 := bStep hb0 hb1
  have bs1 := bs0.keep hb1
  have br1 := br0.keep hb1
  have hs1 := Nat.le_trans hs0 hb1.size
  obtain ⟨p0, p1, _, _⟩ := bs1.two
  clear s0 s1 hb0 hb1 bs0 br0 hs0
  go_wp2_with fail
  refine (l6In_eq hin w1).mono ?_
  rintro e w1' ⟨rfl, rfl⟩
  go_wp2_with fail
  refine (l12Copy_any _ _ L F w1' (HS.out.keep hbw1) (by omega) (spok_few hk) (by omega)).mono ?_
  rintro e w2 ⟨lx, fx, rfl, spx, hb2⟩
  obtain ⟨vs, ov, eo, oF⟩ := spx
  have hvl := eo.len
  obtain ⟨gx, cx, rfl, hgx, hcx, hcm⟩ : ∃ gx cx, lx = .slice (some ⟨gx, 0, none⟩) L.length cx ∧ w1'.heap.size ≤ gx ∧ L.length ≤ cx ∧ cx ≤ maxLen := by
    rcases ownK_open ov valC_len with ⟨_, e⟩ | ⟨g, cap, c, e, hg, _, _, hc, hm, _⟩
    · rw [e] at hvl; simp at hvl; omega
    · exact ⟨g, cap, by rw [e, hvl], hg, by omega, hm⟩
  obtain ⟨ay, cy, rfl⟩ := own_slice2 oF
  have bs3 := (bs1.keep hb2).alloc (.cells #[.slice (some ⟨gx, 0, none⟩) L.length cx, .slice ay F.length cy] 26)
  have br3 := (br1.keep hb2).alloc (.cells #[.slice (some ⟨gx, 0, none⟩) L.length cx, .slice ay F.length cy] 26)
  have bx3 : Bk (w2.alloc (.cells #[.slice (some ⟨gx, 0, none⟩) L.length cx, .slice ay F.length cy] 26)) w2.heap.size #[.slice (some ⟨gx, 0, none⟩) L.length cx, .slice ay F.length cy] 26 := Bk.new _ _ rfl
  have hb3 : Below w1'.heap.size w1' (w2.alloc (.cells #[.slice (some ⟨gx, 0, none⟩) L.length cx, .slice ay F.length cy] 26)) := bAlloc hb2 _
  have ov3 : OwnV (w2.alloc (.cells #[.slice (some ⟨gx, 0, none⟩) L.length cx, .slice ay F.length cy] 26)) w1'.heap.size (.slice (some ⟨gx, 0, none⟩) L.length cx) vs := by rw [← hvl] at ov ⊢; exact ov.alloc _
  have eo3 : EachO (w2.alloc (.cells #[.slice (some ⟨gx, 0, none⟩) L.length cx, .slice ay F.length cy] 26)) w1'.heap.size vs L := eo.keep (bAlloc (Below.refl _ _) _)
  have oF3 : Own (w2.alloc (.cells #[.slice (some ⟨gx, 0, none⟩) L.length cx, .slice ay F.length cy] 26)) w1'.heap.size (.slice ay F.length cy) F := oF.alloc _
  have hz3 : w2.heap.size < (w2.alloc (.cells #[.slice (some ⟨gx, 0, none⟩) L.length cx, .slice ay F.length cy] 26)).heap.size := by simp
  have hbw3 : Below w.heap.size w (w2.alloc (.cells #[.slice (some ⟨gx, 0, none⟩) L.length cx, .slice ay F.length cy] 26)) := bStep hbw1 hb3
  have hs2 := hb2.size
  clear ov eo oF bs1 br1 hb2 p0 p1
  go_wp2_with fail
  generalize w2.heap.size = ox at *
  generalize (w2.alloc (.cells #[.slice (some ⟨gx, 0, none⟩) L.length cx, .slice ay F.length cy] 26)) = w3 at *
  -- what holds as long as old memory is left alone
  have VS3 : Vs w3 (.slice (some ⟨gx, 0, none⟩) vs.length cx) vs := by rw [hvl]; exact OwnV.vs ov3 (by omega)
  obtain ⟨ak, ck, ek, hRk⟩ : ∃ a c, vs[k]? = some (.slice a (gl L k).length c) ∧ Rs w3 (.slice a (gl L k).length c) (gl L k) := by
    have hv : vs[k]? = some (vs[k]'(by omega)) := List.getElem?_eq_getElem (by omega)
    have hr := eo3.each.at hv
    obtain ⟨a, c, e, -⟩ := Rs.open hr
    exact ⟨a, c, by rw [hv, e], by rw [← e]; exact hr⟩
  obtain ⟨al, cl, el, hRl⟩ : ∃ a c, vs[k + 1]? = some (.slice a (gl L (k + 1)).length c) ∧ Rs w3 (.slice a (gl L (k + 1)).length c) (gl L (k + 1)) := by
    have hv : vs[k + 1]? = some (vs[k + 1]'(by omega)) := List.getElem?_eq_getElem (by omega)
    have hr := eo3.each.at hv
    obtain ⟨a, c, e, -⟩ := Rs.open hr
    exact ⟨a, c, by rw [hv, e], by rw [← e]; exact hr⟩
  have ck0 : w3.cell? ⟨gx, k, none⟩ = some (.slice ak (gl L k).length ck) := by
    obtain ⟨_, _, e, _, _, _, h4⟩ := VS3
    obtain ⟨g, off, e2, _, c⟩ := h4 k _ ek
    cases e; cases e2
    have := c 0 (by omega)
    simpa using this
  have cl0 : w3.cell? ⟨gx, k + 1, none⟩ = some (.slice al (gl L (k + 1)).length cl) := by
    obtain ⟨_, _, e, _, _, _, h4⟩ := VS3
    obtain ⟨g, off, e2, _, c⟩ := h4 (k + 1) _ el
    cases e; cases e2
    have := c 0 (by omega)
    simpa using this
  have HX : Hid (∀ W, Below w3.heap.size w3 W → W.cell? ⟨ox, 0, none⟩ = some (.slice (some ⟨gx, 0, none⟩) L.length cx) ∧ W.cell? ⟨gx, k, none⟩ = some (.slice ak (gl L k).length ck) ∧ W.cell? ⟨gx, k + 1, none⟩ = some (.slice al (gl L (k + 1)).length cl)) := fun W hW => ⟨(bx3.keep hW).two.1, cell_below hW ck0, cell_below hW cl0⟩
  have HR : Hid (∀ W, Below w3.heap.size w3 W → Rs W (.slice ak (gl L k).length ck) (gl L k) ∧ Rs W (.slice al (gl L (k + 1)).length cl) (gl L (k + 1))) := fun W hW => ⟨hRk.keep hW, hRl.keep hW⟩
  have HBS : Hid (∀ W, Below w3.heap.size w3 W → Bk W w.heap.size #[.slice aL L.length cL, .slice aF F.length cF] 26 ∧ Bk W (w.heap.size + 1) #[.slice none 0 0, .slice none 0 0] 26 ∧ Bk W ox #[.slice (some ⟨gx, 0, none⟩) L.length cx, .slice ay F.length cy] 26 ∧ Below w.heap.size w W) := fun W hW => ⟨bs3.keep hW, br3.keep hW, bx3.keep hW, bStep hbw3 hW⟩
  have HOV : Hid (∀ W, Below w3.heap.size w3 W → OwnV W w1'.heap.size (.slice (some ⟨gx, 0, none⟩) L.length cx) vs ∧ EachO W w1'.heap.size vs L ∧ Own W w1'.heap.size (.slice ay F.length cy) F) := fun W hW => ⟨own_keep ov3 hW, eo3.keep hW, own_keep oF3 hW⟩
  have hb0 : Below w3.heap.size w3 w3.drew := (Below.refl _ _).drew
  have hbE : Below w3.heap.size w3 ((w3.alloc (.cells #[] 74)).drew) := (bAlloc (Below.refl _ _) _).drew
  have OE : OwnR ((w3.alloc (.cells #[] 74)).drew) w3.heap.size (.slice (some ⟨w3.heap.size, 0, none⟩) 0 0) [] := ownR_empty w3 rfl
  have zE : w3.heap.size ≤ ((w3.alloc (.cells #[] 74)).drew).heap.size := by simp
  have RE := (HR.out _ hbE).1
  have ik : (k : Int) < (L.length : Int) := by omega
  have il : (k : Int) + 1 < (L.length : Int) := by omega
  have iw : IntKind.i64.wrap ((k : Int) + 1) = (k : Int) + 1 := by rw [IntKind.wrap_i64]; omega
  have i0 : (0 : Int) ≤ (k : Int) + 1 := by omega
  have in0 : ((k : Int) + 1).toNat = k + 1 := by omega
  have hwz : w1'.heap.size ≤ w3.heap.size := by omega
  clear ov3 eo3 oF3 bs3 br3 bx3 VS3 hRk hRl ck0 cl0 ek el
  generalize hGA : gl L k = GA at *
  generalize hGB : gl L (k + 1) = GB at *
  go_region_held3 (fun W => W.cell? ⟨ox, 0, none⟩ = some (.slice (some ⟨gx, 0, none⟩) L.length cx) ∧ W.cell? ⟨gx, k, none⟩ = some (.slice ak GA.length ck) ∧ W.cell? ⟨gx, k + 1, none⟩ = some (.slice al GB.length cl))
    (first | exact HX.out _ hb0 | exact HX.out _ hbE | exact HX.out _ hb7 | exact HX.out _ hb9 | exact HX.out _ hb11)
    (first
      | (refine stepRs _ rfl _ _ rfl w3.heap.size _ [] rfl OE _ GA rfl RE (by simp; omega) zE ?_; intro v7 w7 own7 hg7; have own7' : OwnR w7 w3.heap.size v7 GA := own7; have hb7 : Below w3.heap.size w3 w7 := Below.grew hbE hg7 zE (ownK_base OE); have RB := (HR.out _ hb7).2)
      | (refine stepRs _ rfl _ _ rfl w3.heap.size v7 GA rfl own7' _ GB rfl RB (by omega) hb7.size ?_; intro v9 w9 own9 hg9; have hb9 : Below w3.heap.size w3 w9 := Below.grew hb7 hg9 hb7.size (ownK_base own7'); have R9 := OwnR.rs own9 (by rw [List.length_append]; omega))
      | (go_at_call 101; with_reducible refine (l2Sum_any _ (GA ++ GB) _ R9 (by rw [List.length_append]; omega) (by rw [absum_append]; omega)).mono ?_; rintro e w11 ⟨o11, rfl, own11, hbx⟩; have hb11 : Below w3.heap.size w3 w11 := bStep hb9 hbx))
  have O11 : OwnR w11 w3.heap.size o11 (sumL ltS (GA ++ GB)) := own_less own11 hb9.size
  clear own11 own9 own7 own7' R9 RB RE OE zE hbE hb7 hb9 hbx hg7 hg9 hb0
  generalize hM : sumL ltS (GA ++ GB) = l at *
  obtain ⟨aq, cq, rfl, -⟩ := Rs.open (OwnR.rs O11 (by omega))
  go_wp2_with fail
  go_loopw [8] (fun i wr => ∃ j : Nat, j ≤ l.length ∧ i = .int .i64 j ∧ OwnR wr w3.heap.size (.slice aq l.length cq) (mixL (mvR F) l j) ∧ Below w3.heap.size w3 wr) (fun i _ => l.length - (intOf i).toNat)
  case atStart => exact ⟨0, by omega, rfl, by rw [mix_zero]; exact O11, hb11⟩
  case round =>
    clear O11 hb11
    obtain ⟨j, hj, rfl, hown, hb⟩ := hrel
    obtain ⟨bs, br, bx, hbw⟩ := HBS.out _ hb
    obtain ⟨p0, p1, _, _⟩ := bs.two
    by_cases hlt : j < l.length
    · rcases ownK_open hown rowC_len with ⟨_, e⟩ | ⟨gq, cap, cc, e, hgq, hbk, hcs, hcc, hm, hfill⟩
      · have := congrArg List.length e; rw [mix_len] at this; rw [this] at hlt; exact absurd hlt (Nat.not_lt_zero _)
      rw [mix_len] at e hcc hfill
      cases e
      have HCS : Hid (cc.size = cq * 5) := hcs
      obtain ⟨⟨⟨t, A, B⟩, d⟩, hr⟩ : ∃ r, l[j]? = some r := ⟨_, List.getElem?_eq_getElem hlt⟩
      have hat := mix_at (mvR F) hr
      have x2 : cc[j * 5 + 2]? = some (.int .i64 A) := hfill j _ hlt hat 2 (by omega)
      have x3 : cc[j * 5 + 3]? = some (.int .i64 B) := hfill j _ hlt hat 3 (by omega)
      have d2 := hbk.cell x2
      have d3 := hbk.cell x3
      obtain ⟨m1, m2, hmv⟩ : ∃ m1 m2, moveV F A B = (m1, m2) := ⟨_, _, rfl⟩
      have HFN : Hid (FillK rowC 5 ((cc.setIfInBounds (j * 5 + 2) (.int .i64 m1)).setIfInBounds (j * 5 + 3) (.int .i64 m2)) (mixL (mvR F) l (j + 1)) l.length) := by
        have h1 := FillK.time hfill hat hlt (by omega) m1 m2
        rw [← mix_set (mvR F) hr]
        have : mvR F ((t, (A, B)), d) = ((t, (m1, m2)), d) := by simp only [mvR, hmv]
        rw [this]; exact h1
      have T3 := (HS.out.keep hbw.drew).2
      clear hcs hfill hr hat x2 x3 hown
      have ij : ((j : Int) < (l.length : Int)) := by omega
      have hbkD := hbk.drew
      have d4 := d2
      have d5 := d3
      go_wp2_with fail
      go_region_with (first | (go_at_call 102; refine (specFrontMove_eq hmv T3).mono ?_; rintro e w13 ⟨rfl, hb13⟩; have hbk3 := hbkD.keep hb13; obtain ⟨y2, q2⟩ := hbk3.held (i := j * 5 + 2) (by have := HCS.out; omega); obtain ⟨y3, q3⟩ := hbk3.held (i := j * 5 + 3) (by have := HCS.out; omega); have f2 := hbk3.free (j * 5 + 2); have f3 := hbk3.free (j * 5 + 3)))
      all_goals
        have hx3 : Below w3.heap.size w3 w13 := bStep hb.drew hb13
        have bk2 := (hbk3.set (j * 5 + 2) (.int .i64 m1)).set (j * 5 + 3) (.int .i64 m2)
        have HF4 : Hid (OwnR ((w13.setCell ⟨gq, j * 5 + 2, none⟩ (.int .i64 m1)).setCell ⟨gq, j * 5 + 3, none⟩ (.int .i64 m2)) w3.heap.size (.slice (some ⟨gq, 0, none⟩) l.length cq) (mixL (mvR F) l (j + 1)) ∧ Below w3.heap.size w3 ((w13.setCell ⟨gq, j * 5 + 2, none⟩ (.int .i64 m1)).setCell ⟨gq, j * 5 + 3, none⟩ (.int .i64 m2))) := by
          refine ⟨?_, (hx3.setCell (show w3.heap.size ≤ gq from hgq) _).setCell (show w3.heap.size ≤ gq from hgq) _⟩
          have := ownK_of_fill (l := mixL (mvR F) l (j + 1)) (B := w3.heap.size) (cap := cq) bk2 (by rw [mix_len]; exact HFN.out) rowC_len (by simpa using HCS.out) (by rw [mix_len]; exact hcc) hm hgq
          rw [mix_len] at this
          exact this
        clear hmv T3 d2 d3 d4 d5 hbk hbkD hbk3 bk2 y2 y3 q2 q3 f2 f3 hx3 hb13 bs br bx hbw hb p0 p1
        go_wp2_with fail
        go_roundw
        case rel => exact ⟨j + 1, by omega, by go_num, HF4.out.1, HF4.out.2⟩
        case measure => simp [intOf]; omega
    · obtain rfl : j = l.length := by omega
      rw [mix_all] at hown
      have R3 : Rs wr (.slice aq l.length cq) (moveL F l) := OwnR.rs hown (by rw [← hnl] at hml; simpa [moveL] using Nat.le_trans hml (by omega))
      clear hown bs br bx p0 p1
      go_wp2_with fail
      refine (l2Sum_any _ (moveL F l) _ R3 (by omega) (by omega)).mono ?_
      rintro e w15 ⟨o15, rfl, own15, hb15⟩
      have O15 : OwnR w15 w3.heap.size o15 (oneL F GA GB) := by rw [HO.out]; exact own_less own15 hb.size
      have hbx15 : Below w3.heap.size w3 w15 := bStep hb hb15
      clear own15 hb15 R3 hb hbw
      generalize hONE : oneL F GA GB = one at *
      have R15 := OwnR.rs O15 (by omega)
      obtain ⟨ao, co, rfl, -⟩ := Rs.open R15
      cases hbo : bokB one
      · go_wp2_with fail
        refine (specBatchOk_eq hbo R15).mono ?_
        rintro e w17 ⟨rfl, hb17⟩
        have hbx17 : Below w3.heap.size w3 w17 := bStep hbx15 hb17
        obtain ⟨bs17, br17, bx17, hbw17⟩ := HBS.out _ hbx17
        have HN0 : Hid (joinB L F (k : Int) = false ∧ joinL L F (k : Int) = [] ∧ joinF L F (k : Int) = []) := by
          have h1 := HN.out
          have h2 := HSJ.out
          rw [hbo] at h1 h2
          exact ⟨h1.1, by rw [h1.2.1]; simp [okL, h2], by rw [h1.2.2]; simp [okF, h2]⟩
        clear bs17 bx17 HN
        rename Hid (joinB L F (k : Int) = false ∧ joinL L F (k : Int) = [] ∧ joinF L F (k : Int) = []) => HN
        have q8 := (br17.set 0 (.slice none 0 0)).set 1 (.slice none 0 0)
        have q9 := br17.set 0 (.slice none 0 0)
        obtain ⟨x0, x1, g0, g1⟩ := br17.two
        obtain ⟨y0, y1, h0, h1⟩ := q9.two
        obtain ⟨t0, t1, _, _⟩ := q8.two
        have HB8 : Hid (Below w.heap.size w ((w17.setCell ⟨w.heap.size + 1, 0, none⟩ (.slice none 0 0)).setCell ⟨w.heap.size + 1, 1, none⟩ (.slice none 0 0))) := (hbw17.setCell (show w.heap.size ≤ w.heap.size + 1 by omega) _).setCell (show w.heap.size ≤ w.heap.size + 1 by omega) _
        clear q8 q9 br17 hbw17
        go_wp2_with fail
        refine bodyPost_ret (v := .tuple #[spv (.slice none 0 0) (.slice none 0 0), .bool false]) (by simp [results, Tryz.results60, go_sem, t0, t1]) rfl ?_
        exact ⟨_, _, by rw [HN.out.1], by rw [HN.out.2.1, HN.out.2.2]; exact SpO.nil _ _, HB8.out⟩
      · go_wp2_with fail
        refine (specBatchOk_eq hbo R15).mono ?_
        rintro e w17 ⟨rfl, hb17⟩
        have hbx17 : Below w3.heap.size w3 w17 := bStep hbx15 hb17
        have O17 : OwnR w17 w3.heap.size (.slice ao one.length co) one := own_keep O15 hb17
        have HN1 : Hid (joinB L F (k : Int) = true ∧ joinL L F (k : Int) = joinO L F k ∧ joinF L F (k : Int) = F) := by
          have h1 := HN.out
          have h2 := HSJ.out
          rw [hbo] at h1 h2
          exact ⟨h1.1, by rw [h1.2.1]; simp [okL, h2], by rw [h1.2.2]; simp [okF, h2]⟩
        clear O15 R15 hb17 hbx15
        have HX2 : Hid (∀ W, Below w17.heap.size w17 W → W.cell? ⟨ox, 0, none⟩ = some (.slice (some ⟨gx, 0, none⟩) L.length cx) ∧ W.cell? ⟨ox, 1, none⟩ = some (.slice ay F.length cy)) := fun W hW => ⟨(HBS.out _ (bStep hbx17 hW)).2.2.1.two.1, (HBS.out _ (bStep hbx17 hW)).2.2.1.two.2.1⟩
        have hsl := slice_uptoV gx k L.length cx (by omega) hcx
        have OEA : OwnV (((w17.alloc (.cells #[.slice none 0 0, .slice none 0 0] 26)).alloc (.cells #[] 33)).drew) w17.heap.size (.slice (some ⟨w17.heap.size + 1, 0, none⟩) 0 0) [] := by
          have := own_empty (w17.alloc (.cells #[.slice none 0 0, .slice none 0 0] 26)) 33 1
          rw [show (w17.alloc (.cells #[.slice none 0 0, .slice none 0 0] 26)).heap.size = w17.heap.size + 1 by simp] at this
          exact own_less this (by omega)
        have OEB : OwnV (((w17.alloc (.cells #[] 33)).alloc (.cells #[.slice none 0 0, .slice none 0 0] 26)).drew) w17.heap.size (.slice (some ⟨w17.heap.size, 0, none⟩) 0 0) [] := (own_empty w17 33 1).alloc _
        have OEC : OwnV ((w17.alloc (.cells #[] 33)).drew) w17.heap.size (.slice (some ⟨w17.heap.size, 0, none⟩) 0 0) [] := own_empty w17 33 1
        have ZA : Bk (((w17.alloc (.cells #[.slice none 0 0, .slice none 0 0] 26)).alloc (.cells #[] 33)).drew) w17.heap.size #[.slice none 0 0, .slice none 0 0] 26 := ((Bk.new _ _ rfl).alloc _).drew
        have ZB : Bk (((w17.alloc (.cells #[] 33)).alloc (.cells #[.slice none 0 0, .slice none 0 0] 26)).drew) (w17.heap.size + 1) #[.slice none 0 0, .slice none 0 0] 26 := (Bk.new (w := w17.alloc _) _ _ (by simp)).drew
        have hA : Below w17.heap.size w17 (((w17.alloc (.cells #[.slice none 0 0, .slice none 0 0] 26)).alloc (.cells #[] 33)).drew) := (bAlloc (bAlloc (Below.refl _ _) _) _).drew
        have hB : Below w17.heap.size w17 (((w17.alloc (.cells #[] 33)).alloc (.cells #[.slice none 0 0, .slice none 0 0] 26)).drew) := (bAlloc (bAlloc (Below.refl _ _) _) _).drew
        have hC : Below w17.heap.size w17 ((w17.alloc (.cells #[] 33)).drew) := (bAlloc (Below.refl _ _) _).drew
        have VA : Vs (((w17.alloc (.cells #[.slice none 0 0, .slice none 0 0] 26)).alloc (.cells #[] 33)).drew) (.slice (some ⟨gx, 0, none⟩) k cx) (vs.take k) := (OwnV.vs (HOV.out _ (bStep hbx17 hA)).1 (by omega)).take k (by omega)
        have VB : Vs (((w17.alloc (.cells #[] 33)).alloc (.cells #[.slice none 0 0, .slice none 0 0] 26)).drew) (.slice (some ⟨gx, 0, none⟩) k cx) (vs.take k) := (OwnV.vs (HOV.out _ (bStep hbx17 hB)).1 (by omega)).take k (by omega)
        have VC : Vs ((w17.alloc (.cells #[] 33)).drew) (.slice (some ⟨gx, 0, none⟩) k cx) (vs.take k) := (OwnV.vs (HOV.out _ (bStep hbx17 hC)).1 (by omega)).take k (by omega)
        have V1 : ∀ u ∈ vs.take k, u.oneCell' = true := fun u hu => (HOV.out _ hbx17).2.1.one u (List.mem_of_mem_take hu)
        have htl : (vs.take k).length = k := by rw [List.length_take]; omega
        have HLN : Hid (([] ++ vs.take k : List Value).length = k) := htl
        obtain ⟨z0, z1⟩ := HX2.out _ (Below.refl _ _)
        go_wp2_with fail
        go_cut [9] (fun p wc => ∃ (oB : Nat) (a19 : Option Addr) (c19 : Nat), p = .pointer (some ⟨oB, 0, none⟩) ∧ w17.heap.size ≤ oB ∧ Bk wc oB #[.slice a19 k c19, .slice ay F.length cy] 26 ∧ OwnV wc w17.heap.size (.slice a19 k c19) (vs.take k) ∧ Below w17.heap.size w17 wc)
        case first =>
          go_region_held3 (fun W => W.cell? ⟨ox, 0, none⟩ = some (.slice (some ⟨gx, 0, none⟩) L.length cx) ∧ W.cell? ⟨ox, 1, none⟩ = some (.slice ay F.length cy))
            (exact HX2.out _ (by repeat' (first | (with_reducible exact Below.refl _ _) | (with_reducible assumption) | (with_reducible refine bStep ?_ (by with_reducible assumption)) | (with_reducible refine bAlloc ?_ _) | (with_reducible refine Below.drew ?_) | (with_reducible refine bDrewN ?_ _) | (with_reducible refine Below.setCell ?_ ?_ _) | (simp; done) | (simp; omega) | omega)))
            (first
              | (refine stepVs _ rfl _ _ rfl w17.heap.size _ [] rfl OEC _ (vs.take k) rfl VC V1 (by simp; omega) hC.size ?_; intro v19 w19 own19 hg19; obtain ⟨a19, c19, rfl⟩ : ∃ a c, v19 = .slice a k c := (by obtain ⟨a, c, e⟩ := ownV_slice own19; exact ⟨a, c, by rw [e, HLN.out]⟩); have hb19 : Below w17.heap.size w17 w19 := Below.grew hC hg19 hC.size (ownK_base OEC); have hz19 := hb19.size)
              | (refine stepVs _ rfl _ _ rfl w17.heap.size _ [] rfl OEA _ (vs.take k) rfl VA V1 (by simp; omega) hA.size ?_; intro v19 w19 own19 hg19; obtain ⟨a19, c19, rfl⟩ : ∃ a c, v19 = .slice a k c := (by obtain ⟨a, c, e⟩ := ownV_slice own19; exact ⟨a, c, by rw [e, HLN.out]⟩); have hb19 : Below w17.heap.size w17 w19 := Below.grew hA hg19 hA.size (ownK_base OEA); have hz19 := hb19.size; have bz19 := Bk.grew ZA hg19 (fun q e => by have e2 : some (w17.heap.size + 1) = some q := e; cases e2; omega); obtain ⟨bz0, bz1, bf0, bf1⟩ := bz19.two)
              | (refine stepVs _ rfl _ _ rfl w17.heap.size _ [] rfl OEB _ (vs.take k) rfl VB V1 (by simp; omega) hB.size ?_; intro v19 w19 own19 hg19; obtain ⟨a19, c19, rfl⟩ : ∃ a c, v19 = .slice a k c := (by obtain ⟨a, c, e⟩ := ownV_slice own19; exact ⟨a, c, by rw [e, HLN.out]⟩); have hb19 : Below w17.heap.size w17 w19 := Below.grew hB hg19 hB.size (ownK_base OEB); have hz19 := hb19.size; have bz19 := Bk.grew ZB hg19 (fun q e => by have e2 : some w17.heap.size = some q := e; cases e2; omega); obtain ⟨bz0, bz1, bf0, bf1⟩ := bz19.two))
          · have bN : Bk (w19.alloc (.cells #[.slice a19 k c19, .slice ay F.length cy] 26)) w19.heap.size #[.slice a19 k c19, .slice ay F.length cy] 26 := Bk.new _ _ rfl
            have ON : OwnV (w19.alloc (.cells #[.slice a19 k c19, .slice ay F.length cy] 26)) w17.heap.size (.slice a19 k c19) (vs.take k) := own19.alloc _
            have hbN : Below w17.heap.size w17 (w19.alloc (.cells #[.slice a19 k c19, .slice ay F.length cy] 26)) := bAlloc hb19 _
            have hoB : w17.heap.size ≤ w19.heap.size := hz19
            go_wp2_with fail
            go_meet
            case rel => exact ⟨_, a19, c19, rfl, hoB, bN, ON, hbN⟩
          · have hoB : w17.heap.size ≤ (w17.heap.size + 1) := by omega
            have bN : Bk ((w19.setCell ⟨w17.heap.size + 1, 0, none⟩ (.slice a19 k c19)).setCell ⟨w17.heap.size + 1, 1, none⟩ (.slice ay F.length cy)) (w17.heap.size + 1) #[.slice a19 k c19, .slice ay F.length cy] 26 := by simpa using (bz19.set 0 (.slice a19 k c19)).set 1 (.slice ay F.length cy)
            have ON : OwnV ((w19.setCell ⟨w17.heap.size + 1, 0, none⟩ (.slice a19 k c19)).setCell ⟨w17.heap.size + 1, 1, none⟩ (.slice ay F.length cy)) w17.heap.size (.slice a19 k c19) (vs.take k) := ownK_at own19 fun q e => by
              have hne := rows_not_spine own19 bz19 e
              rw [Below.heap_setCell _ _ _ _ (show q ≠ (w17.heap.size + 1) from fun e => hne e.symm), Below.heap_setCell _ _ _ _ (show q ≠ (w17.heap.size + 1) from fun e => hne e.symm)]
            have hbN : Below w17.heap.size w17 ((w19.setCell ⟨w17.heap.size + 1, 0, none⟩ (.slice a19 k c19)).setCell ⟨w17.heap.size + 1, 1, none⟩ (.slice ay F.length cy)) := (hb19.setCell hoB _).setCell hoB _
            go_wp2_with fail
            go_meet
            case rel => exact ⟨_, a19, c19, rfl, hoB, bN, ON, hbN⟩
          · have hoB : w17.heap.size ≤ w17.heap.size := by omega
            have bN : Bk ((w19.setCell ⟨w17.heap.size, 0, none⟩ (.slice a19 k c19)).setCell ⟨w17.heap.size, 1, none⟩ (.slice ay F.length cy)) w17.heap.size #[.slice a19 k c19, .slice ay F.length cy] 26 := by simpa using (bz19.set 0 (.slice a19 k c19)).set 1 (.slice ay F.length cy)
            have ON : OwnV ((w19.setCell ⟨w17.heap.size, 0, none⟩ (.slice a19 k c19)).setCell ⟨w17.heap.size, 1, none⟩ (.slice ay F.length cy)) w17.heap.size (.slice a19 k c19) (vs.take k) := ownK_at own19 fun q e => by
              have hne := rows_not_spine own19 bz19 e
              rw [Below.heap_setCell _ _ _ _ (show q ≠ w17.heap.size from fun e => hne e.symm), Below.heap_setCell _ _ _ _ (show q ≠ w17.heap.size from fun e => hne e.symm)]
            have hbN : Below w17.heap.size w17 ((w19.setCell ⟨w17.heap.size, 0, none⟩ (.slice a19 k c19)).setCell ⟨w17.heap.size, 1, none⟩ (.slice ay F.length cy)) := (hb19.setCell hoB _).setCell hoB _
            go_wp2_with fail
            go_meet
            case rel => exact ⟨_, a19, c19, rfl, hoB, bN, ON, hbN⟩
        case rest =>
          obtain ⟨oB, a19, c19, rfl, hoB, bN, ON, hbN⟩ := hcut
          clear OEA OEB OEC ZA ZB hA hB hC VA VB VC z0 z1 V1 hsl
          have HON : Hid (OwnV wc w17.heap.size (.slice a19 k c19) (vs.take k)) := ON
          have hvk : (vs.take k).length ≤ 1000 := by omega
          have HDL : Hid ((vs.drop (k + 2)).length ≤ 1000) := by show _ ≤ _; rw [List.length_drop]; omega
          have ONA : OwnV (wc.alloc (.cells #[.slice ao one.length co] 33)) w17.heap.size (.slice a19 k c19) (vs.take k) := ON.alloc _
          have bNA := bN.alloc (.cells #[.slice ao one.length co] 33)
          have hbA : Below w17.heap.size w17 (wc.alloc (.cells #[.slice ao one.length co] 33)) := bAlloc hbN _
          have BNA : Bk (wc.alloc (.cells #[.slice ao one.length co] 33)) wc.heap.size #[.slice ao one.length co] 33 := Bk.new _ _ rfl
          obtain ⟨y0, y1, _, _⟩ := bN.two
          clear ON htl HLN
          generalize hV : vs.take k = V at *
          go_wp2_with (at_builtin; refine appV _ rfl _ _ rfl w17.heap.size _ V rfl ONA wc.heap.size ao one.length co rfl BNA (Nat.le_trans hvk (by omega)) hbA.size ?_; intro g23 cap23 w23 own23 hg23 hl23; have bo23 := Bk.grew bNA hg23 (fun q e => rows_not_spine ONA bNA e); obtain ⟨x0, x1, f0, f1⟩ := bo23.two)
          have hb23 : Below w17.heap.size w17 w23 := Below.grew hbA hg23 hbA.size (ownK_base ONA)
          have bo25 : Bk (w23.setCell ⟨oB, 0, none⟩ (.slice (some ⟨g23, 0, none⟩) (V.length + 1) cap23)) oB #[.slice (some ⟨g23, 0, none⟩) (V.length + 1) cap23, .slice ay F.length cy] 26 := by simpa using bo23.set 0 (.slice (some ⟨g23, 0, none⟩) (V.length + 1) cap23)
          have O25 : OwnV (w23.setCell ⟨oB, 0, none⟩ (.slice (some ⟨g23, 0, none⟩) (V.length + 1) cap23)) w17.heap.size (.slice (some ⟨g23, 0, none⟩) (V.length + 1) cap23) (V ++ [.slice ao one.length co]) := ownK_at own23 fun q e => Below.heap_setCell _ _ _ _ (show q ≠ oB from fun e2 => rows_not_spine own23 bo23 e e2.symm)
          have hb25 : Below w17.heap.size w17 (w23.setCell ⟨oB, 0, none⟩ (.slice (some ⟨g23, 0, none⟩) (V.length + 1) cap23)) := hb23.setCell hoB _
          clear own23 hg23 bo23 x0 x1 f0 f1 bN bNA BNA ONA hbA hbN hb23 y0 y1 HON
          generalize w23.setCell ⟨oB, 0, none⟩ (.slice (some ⟨g23, 0, none⟩) (V.length + 1) cap23) = w25 at *
          obtain ⟨off2, ho2, hsl2⟩ := slice_fromV gx (k + 2) L.length cx ((k : Int) + 2) (by omega) (by omega) hcx
          have iw2 : IntKind.i64.wrap ((k : Int) + 2) = (k : Int) + 2 := by rw [IntKind.wrap_i64]; omega
          have O25D : OwnV w25.drew w17.heap.size (.slice (some ⟨g23, 0, none⟩) (V.length + 1) cap23) (V ++ [.slice ao one.length co]) := O25
          have hb25D : Below w17.heap.size w17 w25.drew := hb25.drew
          have VD : Vs w25.drew (.slice (some ⟨gx, off2, none⟩) (L.length - (k + 2)) (cx - (k + 2))) (vs.drop (k + 2)) := by
            have := (OwnV.vs (HOV.out _ (bStep hbx17 hb25D)).1 (by omega)).drop (k + 2) (by omega) (off := off2) (fun e => ho2 (by omega))
            rw [hvl] at this
            exact this
          have V1D : ∀ u ∈ vs.drop (k + 2), u.oneCell' = true := fun u hu => (HOV.out _ hbx17).2.1.one u (List.mem_of_mem_drop hu)
          have bo25D := bo25.drew
          have hlen2 : (V ++ [Value.slice ao one.length co]).length + (vs.drop (k + 2)).length ≤ 2000000 := by have := HDL.out; simp only [List.length_append, List.length_cons, List.length_nil]; omega
          obtain ⟨z0, z1⟩ := HX2.out _ hb25
          obtain ⟨z2, z3⟩ := HX2.out _ hb25D
          obtain ⟨y0, y1, _, _⟩ := bo25.two
          obtain ⟨y2, y3, _, _⟩ := bo25D.two
          clear ho2
          go_wp2_with fail
          go_cut [9] (fun p wd => p = .pointer (some ⟨oB, 0, none⟩) ∧ ∃ (a27 : Option Addr) (n27 c27 : Nat), Bk wd oB #[.slice a27 n27 c27, .slice ay F.length cy] 26 ∧ SpO wd w1'.heap.size (.slice a27 n27 c27) (.slice ay F.length cy) (joinO L F k) F ∧ Below w17.heap.size w17 wd)
          case first =>
            go_region_law (refine stepVs _ rfl _ _ rfl w17.heap.size (.slice (some ⟨g23, 0, none⟩) (V.length + 1) cap23) (V ++ [.slice ao one.length co]) rfl O25D _ (vs.drop (k + 2)) rfl VD V1D hlen2 hb25D.size ?_; intro v27 w27 own27 hg27; obtain ⟨a27, n27, c27, rfl⟩ : ∃ a n c, v27 = .slice a n c := (by obtain ⟨a, c, e⟩ := ownV_slice own27; exact ⟨a, _, c, e⟩); have bo27 := Bk.grew bo25D hg27 (fun q e => rows_not_spine O25D bo25D e); obtain ⟨r0, r1, f0, f1⟩ := bo27.two)
            all_goals
              have hb27 : Below w17.heap.size w17 w27 := Below.grew hb25D hg27 hb25D.size (ownK_base O25D)
              have bo29 : Bk (w27.setCell ⟨oB, 0, none⟩ (.slice a27 n27 c27)) oB #[.slice a27 n27 c27, .slice ay F.length cy] 26 := by simpa using bo27.set 0 (.slice a27 n27 c27)
              have O29 : OwnV (w27.setCell ⟨oB, 0, none⟩ (.slice a27 n27 c27)) w17.heap.size (.slice a27 n27 c27) ((V ++ [.slice ao one.length co]) ++ vs.drop (k + 2)) := ownK_at own27 fun q e => Below.heap_setCell _ _ _ _ (show q ≠ oB from fun e2 => rows_not_spine own27 bo27 e e2.symm)
              have hb29 : Below w17.heap.size w17 (w27.setCell ⟨oB, 0, none⟩ (.slice a27 n27 c27)) := hb27.setCell hoB _
              have hbx29 : Below w3.heap.size w3 (w27.setCell ⟨oB, 0, none⟩ (.slice a27 n27 c27)) := bStep hbx17 hb29
              have HSP : Hid (SpO (w27.setCell ⟨oB, 0, none⟩ (.slice a27 n27 c27)) w1'.heap.size (.slice a27 n27 c27) (.slice ay F.length cy) (joinO L F k) F) := by
                obtain ⟨i1, i2, i3⟩ := HOV.out _ hbx29
                have i4 : OwnR (w27.setCell ⟨oB, 0, none⟩ (.slice a27 n27 c27)) w3.heap.size (.slice ao one.length co) one := own_keep O17 hb29
                refine ⟨vs.take k ++ .slice ao one.length co :: vs.drop (k + 2), ?_, ?_, i3⟩
                · have := own_less O29 (show w1'.heap.size ≤ w17.heap.size by have := hbx17.size; omega)
                  rw [← hV, List.append_assoc, List.singleton_append] at this
                  exact this
                · unfold joinO
                  rw [hGA, hGB, hONE]
                  refine i2.put (own_less i4 hwz) (by omega) (fun q e hq => ?_) hk2
                  have h1 := ownK_base i4 q e
                  obtain ⟨c, hc, _⟩ := (HOV.out _ (Below.refl _ _)).2.1.blk hq
                  have := hc.lt
                  omega
              go_wp2_with fail
              go_meet
              case rel => exact ⟨rfl, a27, n27, c27, bo29, HSP.out, hb29⟩
          case rest =>
            obtain ⟨rfl, a27, n27, c27, bo29, sp29, hb29⟩ := hcut
            have hbx29 := bStep hbx17 hb29
            obtain ⟨bs29, br29, bx29, hbw29⟩ := HBS.out _ hbx29
            have HSP := (show Hid (SpO wc w1'.heap.size (.slice a27 n27 c27) (.slice ay F.length cy) (joinO L F k) F) from sp29)
            have q9 := br29.set 0 (.slice a27 n27 c27)
            have q8 := q9.set 1 (.slice ay F.length cy)
            obtain ⟨x0, x1, g0, g1⟩ := br29.two
            obtain ⟨y0, y1, h0, h1⟩ := q9.two
            obtain ⟨t0, t1, _, _⟩ := q8.two
            obtain ⟨m0, m1, _, _⟩ := bo29.two
            have HF : Hid (SpO ((wc.setCell ⟨w.heap.size + 1, 0, none⟩ (.slice a27 n27 c27)).setCell ⟨w.heap.size + 1, 1, none⟩ (.slice ay F.length cy)) w.heap.size (.slice a27 n27 c27) (.slice ay F.length cy) (joinO L F k) F ∧ Below w.heap.size w ((wc.setCell ⟨w.heap.size + 1, 0, none⟩ (.slice a27 n27 c27)).setCell ⟨w.heap.size + 1, 1, none⟩ (.slice ay F.length cy))) :=
              ⟨(HSP.out.set2 (by omega)).less (by omega), (hbw29.setCell (show w.heap.size ≤ w.heap.size + 1 by omega) _).setCell (show w.heap.size ≤ w.heap.size + 1 by omega) _⟩
            clear q8 q9 br29 hbw29 bo29
            go_wp2_with fail
            refine bodyPost_ret (v := .tuple #[spv (.slice a27 n27 c27) (.slice ay F.length cy), .bool true]) (by simp [results, Tryz.results60, go_sem, t0, t1]) rfl ?_
            exact ⟨_, _, by rw [HN1.out.1], by rw [HN1.out.2.1, HN1.out.2.2]; exact HF.out.1, HF.out.2⟩
end Go.Proofs.YtjkojbafifbdgaaGreat
