/- A spine that came in, opened; the sizes, the making and the holding against one another of spines: the contracts. -/
import Derived.Test.YtjkojbafifbdgaaGreatZe0
namespace Go.Proofs.YtjkojbafifbdgaaGreat
open Go.ChangeShapes Go.WideShapes Go.ChangeAt Go.RowKit Go.Joins

set_option maxRecDepth 100000 in
theorem SpArg.of_trod {H : Type} {enc : TypeId × Value → H} {w : World} {base b0 : Nat} {r : Reach} {sp : Nat → Bool} {held : Bool} {v : Value} {d : DataW H} {p : List MemPlace} (hv : Value.okWide Tryz.prog w r b0 47 v)
    (h : DataW.Trod enc Tryz.prog w base sp held 47 v d p) : ∃ (a : Option Addr) (len cap : Nat) (ns : Nat → Nat) (b : Option Addr) (lem cbp : Nat), v = spv (.slice a len cap) (.slice b lem cbp) ∧ LsArg w a len cap ns ∧ TsArg w b lem cbp := by
  obtain ⟨c0, c1, y0, y1, m, rfl, _, _, hy0, hy1⟩ := open_agg2 Tryz.underlying47 (by kernel_rfl) (by kernel_rfl) hv h
  obtain ⟨a, len, cap, ns, rfl, hl⟩ := LsArg.of_cells hy0
  rcases Go.Deep.open_slice Tryz.underlying45 hy1 with ⟨e, _⟩ | ⟨x', l', c', _, _, _, _, e, _⟩
  · simp at e
    subst e
    exact ⟨a, len, cap, ns, none, 0, 0, rfl, hl, TsArg.of_trod ⟨m, hy1⟩⟩
  · simp at e
    subst e
    exact ⟨a, len, cap, ns, some x', l', c', rfl, hl, TsArg.of_trod ⟨m, hy1⟩⟩
theorem RsArg.keep {w w1 : World} {a : Option Addr} {len cap : Nat} (h : RsArg w a len cap) (hb : Below w.heap.size w w1) : RsArg w1 a len cap := by
  obtain ⟨h1, h2, q, h3⟩ := h
  refine ⟨h1, h2, q, fun i hi => ?_⟩
  obtain ⟨g, off, ha, hg, hc⟩ := h3 i hi
  refine ⟨g, off, ha, Nat.lt_of_lt_of_le hg hb.size, fun j hj => ?_⟩
  have e : ∃ x, (rowC (q i))[j]? = some x := ⟨_, List.getElem?_eq_getElem (by rw [rowC_len]; exact hj)⟩
  obtain ⟨x, hx⟩ := e
  rw [hx]
  exact cell_below hb (by rw [hc j hj, hx])
theorem LsArg.keep {w w1 : World} {a : Option Addr} {len cap : Nat} {ns : Nat → Nat} (h : LsArg w a len cap ns) (hb : Below w.heap.size w w1) : LsArg w1 a len cap ns := by
  obtain ⟨h1, h2, h3⟩ := h
  refine ⟨h1, h2, fun i hi => ?_⟩
  obtain ⟨g, off, ad, cp, ha, hg, hc, hr⟩ := h3 i hi
  exact ⟨g, off, ad, cp, ha, Nat.lt_of_lt_of_le hg hb.size, cell_below hb hc, hr.keep hb⟩
theorem TsArg.keep {w w1 : World} {a : Option Addr} {len cap : Nat} (h : TsArg w a len cap) (hb : Below w.heap.size w w1) : TsArg w1 a len cap := by
  obtain ⟨h1, h2, A, B, h3⟩ := h
  refine ⟨h1, h2, A, B, fun i hi => ?_⟩
  obtain ⟨g, off, ha, hg, hc, hd⟩ := h3 i hi
  exact ⟨g, off, ha, Nat.lt_of_lt_of_le hg hb.size, cell_below hb hc, cell_below hb hd⟩
set_option maxHeartbeats 4000000 in
theorem szSpine_any (a : Option Addr) (n cap : Nat) (ns : Nat → Nat) (b : Option Addr) (m cb : Nat) (left : Int) (w : World) (h : LsArg w a n cap ns) (h' : TsArg w b m cb) (h0 : 0 ≤ left) (h1 : left ≤ 1048576) :
    Calls Tryz.prog 21 #[spv (.slice a n cap) (.slice b m cb), .int .i64 left] w fun e w' => e = .returned (.int .i64 (szV left (n + sumN ns n + m))) ∧ Below w.heap.size w w' := by
  have hb0 : Below w.heap.size w (w.alloc (.cells #[.slice a n cap, .slice b m cb] 47)) := bAlloc (Below.refl _ _) _
  have bt0 : Bk (w.alloc (.cells #[.slice a n cap, .slice b m cb] 47)) w.heap.size #[.slice a n cap, .slice b m cb] 47 := Bk.new _ _ rfl
  obtain ⟨s0, s1, _, _⟩ := bt0.two
  have hL := h.keep hb0
  have hm1 := h'.1
  have hm2 := h'.2.1
  clear h h'
  by_cases hq : left < ((n + sumN ns n : Nat) : Int)
  · have HV : Hid (szV left (n + sumN ns n) = -1) := if_pos hq
    have HN : Hid (szV left (n + sumN ns n + m) = -1) := if_pos (by omega)
    go_enter Tryz.func21, Tryz.ntmps21
    go_wp2_with fail
    refine (szRowSS_any a n cap ns left _ hL h0 h1).mono ?_
    rw [HV.out]
    rintro e w1 ⟨rfl, rfl⟩
    go_wp2_with fail
    go_ret
    exact ⟨by rw [HN.out]; rfl, hb0⟩
  · have HV : Hid (szV left (n + sumN ns n) = left - ((n + sumN ns n : Nat) : Int)) := if_neg hq
    generalize hZ : left - ((n + sumN ns n : Nat) : Int) = Z at *
    have hz0 : ¬ (Z < 0) := by omega
    by_cases hq2 : Z < (m : Int)
    · have HN : Hid (szV left (n + sumN ns n + m) = -1) := if_pos (by omega)
      go_enter Tryz.func21, Tryz.ntmps21
      go_wp2_with fail
      refine (szRowSS_any a n cap ns left _ hL h0 h1).mono ?_
      rw [HV.out]
      rintro e w1 ⟨rfl, rfl⟩
      go_wp2_with fail
      refine (szTimeS_any b m cb Z _ hm1 hm2 (by omega) (by omega)).mono ?_
      rintro e w1 ⟨rfl, rfl⟩
      rw [if_pos hq2]
      go_wp2_with fail
      go_ret
      exact ⟨by rw [HN.out]; rfl, hb0⟩
    · have HN : Hid (szV left (n + sumN ns n + m) = Z - (m : Int)) := by show _ = _; unfold szV; rw [if_neg (by omega)]; omega
      have hz1 : ¬ (Z - (m : Int) < 0) := by omega
      go_enter Tryz.func21, Tryz.ntmps21
      go_wp2_with fail
      refine (szRowSS_any a n cap ns left _ hL h0 h1).mono ?_
      rw [HV.out]
      rintro e w1 ⟨rfl, rfl⟩
      go_wp2_with fail
      refine (szTimeS_any b m cb Z _ hm1 hm2 (by omega) (by omega)).mono ?_
      rintro e w1 ⟨rfl, rfl⟩
      rw [if_neg (by omega)]
      go_wp2_with fail
      go_ret
      exact ⟨by rw [HN.out]; rfl, hb0⟩
/-- A spine that was made: its blocks. -/
def SpM (w : World) (B g gF : Nat) (L : List (List Rw)) (F : List (Int × Int)) : Prop :=
  ∃ (c cF : Array Value) (G : Nat → Nat), B ≤ g ∧ Bk w g c 33 ∧ c.size = L.length ∧ MdS w (g + 1) c G L L.length ∧ g < gF ∧ (∀ i, i < L.length → G i < gF) ∧ Bk w gF cF 71 ∧ cF.size = F.length * 2 ∧ Fill cF F F.length
theorem SpM.keep {w w1 : World} {B g gF : Nat} {L : List (List Rw)} {F : List (Int × Int)} (h : SpM w B g gF L F) (hb : Below w.heap.size w w1) : SpM w1 B g gF L F := by
  obtain ⟨c, cF, G, h1, h2, h3, h4, h5, h6, h7, h8, h9⟩ := h
  exact ⟨c, cF, G, h1, h2.keep hb, h3, h4.keep hb, h5, h6, h7.keep hb, h8, h9⟩
abbrev mdv (g gF : Nat) (L : List (List Rw)) (F : List (Int × Int)) : Value := spv (.slice (some ⟨g, 0, none⟩) L.length L.length) (.slice (some ⟨gF, 0, none⟩) F.length F.length)
theorem flat_mem_len {L : List (List Rw)} {l : List Rw} (h : l ∈ L) : l.length ≤ L.flatten.length := by
  induction L with
  | nil => cases h
  | cons m L ih =>
    rw [List.flatten_cons, List.length_append]
    rcases List.mem_cons.1 h with rfl | h
    · omega
    · have := ih h; omega
theorem SpM.spn {w : World} {B g gF : Nat} {L : List (List Rw)} {F : List (Int × Int)} (h : SpM w B g gF L F) (hn : L.length ≤ 1048576) (hl : L.flatten.length ≤ 1048576) (hf : F.length ≤ 1048576) : Spn w (.slice (some ⟨g, 0, none⟩) L.length L.length) (.slice (some ⟨gF, 0, none⟩) F.length F.length) L F := by
  obtain ⟨c, cF, G, h1, h2, h3, h4, h5, h6, h7, h8, h9⟩ := h
  refine ⟨h4.ly h2 h3 (by omega) (fun l hl' => ?_), Ts.of_blk h7 h9 (Nat.le_refl _) (by unfold maxLen; omega) (by omega)⟩
  have := flat_mem_len hl'
  omega
set_option maxRecDepth 100000 in
set_option maxHeartbeats 8000000 in
theorem toSpine_any (lv fv : Value) (L : List (List Rw)) (F : List (Int × Int)) (w : World) (h : Spn w lv fv L F) :
    Calls Tryz.prog 23 #[spv lv fv] w fun e w' => ∃ g gF, e = .returned (mdv g gF L F) ∧ SpM w' w.heap.size g gF L F ∧ Below w.heap.size w w' := by
  have HS := (show Hid (Spn w lv fv L F) from h)
  obtain ⟨aL, cL, rfl, -⟩ := Ly.open h.1
  obtain ⟨aF, cF, rfl, -⟩ := h.2
  have hb0 : Below w.heap.size w (((w.alloc (.cells #[.slice aL L.length cL, .slice aF F.length cF] 47)).alloc (.cells #[.slice none 0 0, .slice none 0 0] 26)).alloc (.cells #[.slice none 0 0, .slice none 0 0] 26)) := bAlloc (bAlloc (bAlloc (Below.refl _ _) _) _) _
  have bi : Bk (((w.alloc (.cells #[.slice aL L.length cL, .slice aF F.length cF] 47)).alloc (.cells #[.slice none 0 0, .slice none 0 0] 26)).alloc (.cells #[.slice none 0 0, .slice none 0 0] 26)) w.heap.size #[.slice aL L.length cL, .slice aF F.length cF] 47 := ((Bk.new _ _ rfl).alloc _).alloc _
  have br : Bk (((w.alloc (.cells #[.slice aL L.length cL, .slice aF F.length cF] 47)).alloc (.cells #[.slice none 0 0, .slice none 0 0] 26)).alloc (.cells #[.slice none 0 0, .slice none 0 0] 26)) (w.heap.size + 1) #[.slice none 0 0, .slice none 0 0] 26 := (Bk.new (w := w.alloc _) _ _ (by simp)).alloc _
  have bo : Bk (((w.alloc (.cells #[.slice aL L.length cL, .slice aF F.length cF] 47)).alloc (.cells #[.slice none 0 0, .slice none 0 0] 26)).alloc (.cells #[.slice none 0 0, .slice none 0 0] 26)) (w.heap.size + 1 + 1) #[.slice none 0 0, .slice none 0 0] 26 := Bk.new (w := (w.alloc _).alloc _) _ _ (by simp)
  obtain ⟨i0, i1, _, _⟩ := bi.two
  clear h
  go_enter Tryz.func23, Tryz.ntmps23
  go_wp2_with fail
  refine (toRowSS_any _ L _ (HS.out.keep hb0).1).mono ?_
  rintro e w1 ⟨c, G, rfl, hbk, hcs, hmd, hb1⟩
  generalize hW : (((w.alloc (.cells #[.slice aL L.length cL, .slice aF F.length cF] 47)).alloc (.cells #[.slice none 0 0, .slice none 0 0] 26)).alloc (.cells #[.slice none 0 0, .slice none 0 0] 26)) = w0 at *
  have hz0 : w0.heap.size = w.heap.size + 3 := by rw [← hW]; simp
  have hz1 := hb1.size
  have bi1 := bi.keep hb1
  have br1 := br.keep hb1
  have bo1 := bo.keep hb1
  have hbw1 := bStep hb0 hb1
  generalize hO : w.heap.size + 1 + 1 = o at *
  generalize hR : w.heap.size + 1 = r at *
  have hro : r ≠ o := by omega
  have hio : w.heap.size ≠ o := by omega
  have hwo : w.heap.size ≤ o := by omega
  have hwr : w.heap.size ≤ r := by omega
  have hog : o < w0.heap.size := by omega
  generalize hlL : w0.heap.size = lL at *
  have hrl0 : r < lL := by omega
  have hwl : w.heap.size ≤ lL := by omega
  have bo2 := bo1.set 0 (.slice (some ⟨lL, 0, none⟩) L.length L.length)
  have bi2 := bi1.apart (p := ⟨o, 0, none⟩) hio (.slice (some ⟨lL, 0, none⟩) L.length L.length)
  have br2 := br1.apart (p := ⟨o, 0, none⟩) hro (.slice (some ⟨lL, 0, none⟩) L.length L.length)
  have HB2 : Hid (Below w.heap.size w (w1.setCell ⟨o, 0, none⟩ (.slice (some ⟨lL, 0, none⟩) L.length L.length))) := hbw1.setCell hwo _
  have HM2 : Hid (Bk (w1.setCell ⟨o, 0, none⟩ (.slice (some ⟨lL, 0, none⟩) L.length L.length)) lL c 33 ∧ c.size = L.length ∧ MdS (w1.setCell ⟨o, 0, none⟩ (.slice (some ⟨lL, 0, none⟩) L.length L.length)) (lL + 1) c G L L.length) := by
    refine ⟨hbk.apart (show lL ≠ o by omega) _, hcs, hmd.1, fun i hi => ?_⟩
    obtain ⟨ci, h1, h2, h3, h4, h5⟩ := hmd.2 i hi
    exact ⟨ci, h1, h2, h3.apart (show G i ≠ o by omega) _, h4, h5⟩
  obtain ⟨o0, o1, f0, f1⟩ := bo1.two
  obtain ⟨_, j1, _, _⟩ := bi2.two
  have hz2 : lL < w1.heap.size := hbk.lt
  clear hb1 hbk hcs hmd bi bo br bi1 br1 i0 i1 hW hb0 hbw1 hz0 hz1 hO hR hlL
  go_wp2_with fail
  generalize hW1 : w1.setCell ⟨o, 0, none⟩ (.slice (some ⟨lL, 0, none⟩) L.length L.length) = w2 at *
  have hz3 : w2.heap.size = w1.heap.size := by rw [← hW1]; simp
  refine (toTimeS_any _ F _ (HS.out.keep HB2.out).2).mono ?_
  rintro e w3 ⟨gF, cF', rfl, hgF, hbkF, hcsF, hfillF, hb3⟩
  have bo3 := bo2.keep hb3
  have br3 := br2.keep hb3
  have bo4 := bo3.set 1 (.slice (some ⟨gF, 0, none⟩) F.length F.length)
  have br4 := br3.apart (p := ⟨o, 1, none⟩) hro (.slice (some ⟨gF, 0, none⟩) F.length F.length)
  have br5 := (br4.set 0 (.slice (some ⟨lL, 0, none⟩) L.length L.length)).set 1 (.slice (some ⟨gF, 0, none⟩) F.length F.length)
  have hor : o < w3.heap.size := bo3.lt
  have HF : Hid (SpM (((w3.setCell ⟨o, 1, none⟩ (.slice (some ⟨gF, 0, none⟩) F.length F.length)).setCell ⟨r, 0, none⟩ (.slice (some ⟨lL, 0, none⟩) L.length L.length)).setCell ⟨r, 1, none⟩ (.slice (some ⟨gF, 0, none⟩) F.length F.length)) w.heap.size lL gF L F ∧
      Below w.heap.size w (((w3.setCell ⟨o, 1, none⟩ (.slice (some ⟨gF, 0, none⟩) F.length F.length)).setCell ⟨r, 0, none⟩ (.slice (some ⟨lL, 0, none⟩) L.length L.length)).setCell ⟨r, 1, none⟩ (.slice (some ⟨gF, 0, none⟩) F.length F.length))) := by
    obtain ⟨m1, m2, m3⟩ := HM2.out
    have hlt : ∀ i, i < L.length → lL + 1 ≤ G i ∧ G i < w2.heap.size := fun i hi => m3.lt hi
    have hrl : r ≠ lL := by omega
    refine ⟨⟨c, cF', G, by omega, (((m1.keep hb3).apart (show lL ≠ o by omega) _).apart (show lL ≠ r by omega) _).apart (show lL ≠ r by omega) _, m2, ⟨m3.1, fun i hi => ?_⟩, by omega, fun i hi => by have := hlt i hi; omega, ((hbkF.apart (show gF ≠ o by omega) _).apart (show gF ≠ r by omega) _).apart (show gF ≠ r by omega) _, hcsF, hfillF⟩, (((bStep HB2.out hb3).setCell hwo _).setCell hwr _).setCell hwr _⟩
    obtain ⟨ci, h1, h2, h3, h4, h5⟩ := m3.2 i hi
    have := hlt i hi
    exact ⟨ci, h1, h2, (((h3.keep hb3).apart (show G i ≠ o by omega) _).apart (show G i ≠ r by omega) _).apart (show G i ≠ r by omega) _, h4, h5⟩
  obtain ⟨_, p1, q0, q1⟩ := bo3.two
  obtain ⟨x0, x1, _, _⟩ := bo4.two
  obtain ⟨y0, y1, z0, z1⟩ := br4.two
  have br6 := br4.set 0 (.slice (some ⟨lL, 0, none⟩) L.length L.length)
  obtain ⟨_, u1, _, v1⟩ := br6.two
  obtain ⟨t0, t1, _, _⟩ := br5.two
  clear hb3 hbkF hcsF hfillF bo2 bo3 bo4 br2 br3 br4 br5 br6 hW1
  go_wp2_with fail
  refine bodyPost_ret (v := mdv lL gF L F) (by simp [results, Tryz.results23, go_sem, t0, t1]) rfl ?_
  exact ⟨lL, gF, rfl, HF.out.1, HF.out.2⟩
set_option maxHeartbeats 4000000 in
theorem eqSpine_same (lv fv lv' fv' : Value) (L : List (List Rw)) (F : List (Int × Int)) (w : World) (h : Spn w lv fv L F) (h' : Spn w lv' fv' L F) :
    Calls Tryz.prog 25 #[spv lv fv, spv lv' fv'] w fun e w' => e = .returned (.bool true) ∧ Below w.heap.size w w' := by
  have HS := (show Hid (Spn w lv fv L F) from h)
  have HS' := (show Hid (Spn w lv' fv' L F) from h')
  obtain ⟨aL, cL, rfl, -⟩ := Ly.open h.1
  obtain ⟨aF, cF, rfl, -⟩ := h.2
  obtain ⟨aL', cL', rfl, -⟩ := Ly.open h'.1
  obtain ⟨aF', cF', rfl, -⟩ := h'.2
  have hb0 : Below w.heap.size w ((w.alloc (.cells #[.slice aL L.length cL, .slice aF F.length cF] 26)).alloc (.cells #[.slice aL' L.length cL', .slice aF' F.length cF'] 26)) := bAlloc (bAlloc (Below.refl _ _) _) _
  have bi : Bk ((w.alloc (.cells #[.slice aL L.length cL, .slice aF F.length cF] 26)).alloc (.cells #[.slice aL' L.length cL', .slice aF' F.length cF'] 26)) w.heap.size #[.slice aL L.length cL, .slice aF F.length cF] 26 := (Bk.new _ _ rfl).alloc _
  have bj : Bk ((w.alloc (.cells #[.slice aL L.length cL, .slice aF F.length cF] 26)).alloc (.cells #[.slice aL' L.length cL', .slice aF' F.length cF'] 26)) (w.heap.size + 1) #[.slice aL' L.length cL', .slice aF' F.length cF'] 26 := Bk.new (w := w.alloc _) _ _ (by simp)
  obtain ⟨i0, i1, _, _⟩ := bi.two
  obtain ⟨j0, j1, _, _⟩ := bj.two
  clear h h'
  go_enter Tryz.func25, Tryz.ntmps25
  go_wp2_with fail
  refine (eqRowSS_same _ _ L _ (HS.out.keep hb0).1 (HS'.out.keep hb0).1).mono ?_
  rintro e w1 ⟨rfl, hb1⟩
  have hbw1 := bStep hb0 hb1
  obtain ⟨k0, k1, _, _⟩ := (bi.keep hb1).two
  obtain ⟨l0, l1, _, _⟩ := (bj.keep hb1).two
  clear i0 i1 j0 j1 bi bj hb0 hb1
  go_wp2_with fail
  refine (eqTimeS_same _ _ F _ (HS.out.keep hbw1).2 (HS'.out.keep hbw1).2).mono ?_
  rintro e w2 ⟨rfl, hb2⟩
  have hbw2 := bStep hbw1 hb2
  go_wp2_with fail
  go_ret
  exact ⟨rfl, hbw2⟩
end Go.Proofs.YtjkojbafifbdgaaGreat
