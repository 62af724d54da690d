/- A plan of any parts made anew by the exact laws: the contract. -/
import Derived.Test.YtpkfgjloepbfpaaDoorAna
namespace Go.Proofs.YtpkfgjloepbfpaaDoor
open Go.RowKit Go.Shelf

/-- A plan in memory of its own, in blocks from B on. -/
def RdF (B : Nat) (w : World) : RT → Value → Prop
  | .nil, _ => False
  | .mk _ _ m f, s => ∃ (g c : Nat) (cs : Array Value), s = .slice (some ⟨g, 0, none⟩) m c ∧ m ≤ c ∧ c ≤ maxLen ∧ B ≤ g ∧ Bk w g cs 25 ∧ ∀ i, i < m → cs[i * 3]? = some (.int .i64 (f i).k) ∧ cs[i * 3 + 1]? = some (.int .i64 (f i).n) ∧ ∃ sx, cs[i * 3 + 2]? = some sx ∧ RdF B w (f i) sx
theorem RdF.rd {B : Nat} {w : World} : ∀ {t : RT} {s : Value}, RdF B w t s → RdS B w t s
  | .nil, _, h => h.elim
  | .mk _ _ _ f, _, ⟨g, c, cs, e, h1, h2, hg, hb, h⟩ => ⟨_, c, e, h1, h2, fun i hi => by
    obtain ⟨q0, q1, sx, q2, hx⟩ := h i hi
    exact ⟨g, 0, sx, rfl, hg, by rw [Nat.zero_add]; exact hb.cell q0, by rw [Nat.zero_add]; exact hb.cell q1, by rw [Nat.zero_add]; exact hb.cell q2, RdF.rd hx⟩⟩
theorem RdF.move {B : Nat} {w w' : World} (H : ∀ x, B ≤ x → x < w.heap.size → w'.heap[x]? = w.heap[x]?) : ∀ {t : RT} {s : Value}, RdF B w t s → RdF B w' t s
  | .nil, _, h => h.elim
  | .mk _ _ _ f, _, ⟨g, c, cs, e, h1, h2, hg, hb, h⟩ => ⟨g, c, cs, e, h1, h2, hg, by unfold Bk; rw [H g hg hb.lt]; exact hb, fun i hi => by
    obtain ⟨q0, q1, sx, q2, hx⟩ := h i hi
    exact ⟨q0, q1, sx, q2, RdF.move H hx⟩⟩
theorem RdF.less {B B' : Nat} {w : World} (hB : B' ≤ B) : ∀ {t : RT} {s : Value}, RdF B w t s → RdF B' w t s
  | .nil, _, h => h.elim
  | .mk _ _ _ f, _, ⟨g, c, cs, e, h1, h2, hg, hb, h⟩ => ⟨g, c, cs, e, h1, h2, Nat.le_trans hB hg, hb, fun i hi => by
    obtain ⟨q0, q1, sx, q2, hx⟩ := h i hi
    exact ⟨q0, q1, sx, q2, RdF.less hB hx⟩⟩
/-- The first k parts are put down in these cells, what they hold in blocks from B on. -/
def FillR (B : Nat) (wr : World) (t : RT) (c : Array Value) (k : Nat) : Prop :=
  ∀ i, i < k → c[i * 3]? = some (.int .i64 (t.f i).k) ∧ c[i * 3 + 1]? = some (.int .i64 (t.f i).n) ∧ ∃ sx, c[i * 3 + 2]? = some sx ∧ RdF B wr (t.f i) sx
theorem FillR.step {B : Nat} {wr w1 : World} {t : RT} {c : Array Value} {k : Nat} {s : Value} (h : FillR B wr t c k) (hm : ∀ x, B ≤ x → x < wr.heap.size → w1.heap[x]? = wr.heap[x]?) (hs : RdF B w1 (t.f k) s) (hc : k * 3 + 2 < c.size) :
    FillR B w1 t (((c.setIfInBounds (k * 3) (.int .i64 (t.f k).k)).setIfInBounds (k * 3 + 1) (.int .i64 (t.f k).n)).setIfInBounds (k * 3 + 2) s) (k + 1) := by
  intro i hi
  rcases Nat.lt_or_ge i k with h1 | h1
  · obtain ⟨e1, e2, sx, e3, hx⟩ := h i h1
    refine ⟨?_, ?_, sx, ?_, hx.move hm⟩
    · rw [Array.getElem?_setIfInBounds_ne (by omega), Array.getElem?_setIfInBounds_ne (by omega), Array.getElem?_setIfInBounds_ne (by omega)]; exact e1
    · rw [Array.getElem?_setIfInBounds_ne (by omega), Array.getElem?_setIfInBounds_ne (by omega), Array.getElem?_setIfInBounds_ne (by omega)]; exact e2
    · rw [Array.getElem?_setIfInBounds_ne (by omega), Array.getElem?_setIfInBounds_ne (by omega), Array.getElem?_setIfInBounds_ne (by omega)]; exact e3
  · obtain rfl : i = k := by omega
    refine ⟨?_, ?_, s, ?_, hs⟩
    · rw [Array.getElem?_setIfInBounds_ne (by omega), Array.getElem?_setIfInBounds_ne (by omega), Array.getElem?_setIfInBounds_self_of_lt (by omega)]
    · rw [Array.getElem?_setIfInBounds_ne (by omega), Array.getElem?_setIfInBounds_self_of_lt (by simp; omega)]
    · rw [Array.getElem?_setIfInBounds_self_of_lt (by simp; omega)]
theorem infoP : (Tryd.prog.info? 25).map (fun i => (i.zero, i.size, i.bytes)) = some (some (.agg #[.int .i64 0, .int .i64 0, .slice none 0 0]), 3, 40) := by kernel_rfl
theorem make_plans (n : Nat) (hn : n ≤ 2097152) : ∃ M : Array Value, M.size = n * 3 ∧ ∀ u : World, (Instr.makeSlice 23 (.int .i64 (n : Int)) (.int .i64 (n : Int))).run Tryd.prog u = .ok (.slice (some ⟨u.heap.size, 0, none⟩) n n) (u.alloc (.cells M 25)) := by
  obtain ⟨i0, hi, hz0, hz1, hz2⟩ := pl_info infoP
  refine ⟨madeCells (Value.agg #[.int .i64 0, .int .i64 0, .slice none 0 0]).cells (n * i0.size), by rw [size_madeCells, hz1], fun u => ?_⟩
  have := run_make (P := Tryd.prog) u 23 25 i0 _ Tryd.underlying23 hi hz0 .i64 .i64 (n : Int) (n : Int) (by omega) (by omega) (by rw [hz2]; omega) (by omega)
  simpa using this
abbrev MadeR (t : RT) (w : World) (e : Ending) (w' : World) : Prop := ∃ b d, e = .returned (.slice b t.m d) ∧ RdF w.heap.size w' t (.slice b t.m d) ∧ Below w.heap.size w w'
set_option maxRecDepth 100000 in
set_option maxHeartbeats 8000000 in
theorem toPlanS_rstep {t : RT} {B : Nat} {s : Value} {w : World} (hn : t.m ≤ 1048576) (hs : RdS B w t s)
    (hrec : ∀ i, i < t.m → ∀ (W : World) (u : Value), RdS B W (t.f i) u → Calls Tryd.prog 9 #[pl (t.f i).k (t.f i).n u] W fun e w' => ∃ b d, e = .returned (pl (t.f i).k (t.f i).n (.slice b (t.f i).m d)) ∧ RdF W.heap.size w' (t.f i) (.slice b (t.f i).m d) ∧ Below W.heap.size W w') :
    Calls Tryd.prog 17 #[s] w (MadeR t w) := by
  have HR := (show Hid _ from hrec)
  have HS := (show Hid (RdS B w t s) from hs)
  obtain ⟨a, c, rfl, hm1, hm2⟩ := hs.sl
  obtain ⟨M, hM, hmk⟩ := make_plans t.m (by omega)
  have HM := (show Hid (M.size = t.m * 3) from hM)
  clear hs hrec hm1 hm2 hM
  go_enter Tryd.func17, Tryd.ntmps17
  go_wp2_with fail
  go_loopw [4] (fun i wr => ∃ (k : Nat) (c : Array Value), k ≤ t.m ∧ i = .int .i64 k ∧ Bk wr w.heap.size c 25 ∧ c.size = t.m * 3 ∧ FillR (w.heap.size + 1) wr t c k ∧ Below w.heap.size w wr) (fun i _ => t.m - (intOf i).toNat)
  case atStart => exact ⟨0, M, by omega, rfl, Bk.new _ _ rfl, HM.out, fun i hi => by omega, bAlloc (Below.refl _ _) _⟩
  case round =>
    obtain ⟨k, c2, hk, rfl, hbk, hcs, hfill, hb⟩ := hrel
    have HF := (show Hid (FillR (w.heap.size + 1) wr t c2 k) from hfill)
    have HC := (show Hid (c2.size = t.m * 3) from hcs)
    clear hfill hcs
    by_cases hlt : k < t.m
    · have ik : ((k : Int) < (t.m : Int)) := by omega
      obtain ⟨g, off, b2, d2, rfl, hgl, c0, c1, c2', hkid⟩ := (HS.out.keep hb).at hlt
      have HK := (show Hid _ from HR.out k hlt wr _ hkid)
      have hgw := hbk.lt
      clear hkid
      go_wp2_with fail
      refine Calls.mono HK.out ?_
      rintro e w1 ⟨b3, d3, rfl, hnew, hb1⟩
      have HN := (show Hid (RdF wr.heap.size w1 (t.f k) (.slice b3 (t.f k).m d3)) from hnew)
      have bk1 := hbk.keep hb1
      have hbw := bStep hb hb1
      have hs := HC.out
      obtain ⟨y0, q0⟩ : ∃ y, w1.cell? ⟨w.heap.size, k * 3, none⟩ = some y := ⟨_, bk1.cell (Array.getElem?_eq_getElem (show k * 3 < c2.size by omega))⟩
      obtain ⟨y1, q1⟩ : ∃ y, w1.cell? ⟨w.heap.size, k * 3 + 1, none⟩ = some y := ⟨_, bk1.cell (Array.getElem?_eq_getElem (show k * 3 + 1 < c2.size by omega))⟩
      obtain ⟨y2, q2⟩ : ∃ y, w1.cell? ⟨w.heap.size, k * 3 + 2, none⟩ = some y := ⟨_, bk1.cell (Array.getElem?_eq_getElem (show k * 3 + 2 < c2.size by omega))⟩
      have f0 := bk1.free (k * 3)
      have f1 := bk1.free (k * 3 + 1)
      have f2 := bk1.free (k * 3 + 2)
      clear hs c0 c1 c2' HK hnew
      go_wp2_with fail
      go_roundw
      case rel =>
        have bk2 := ((bk1.set (k * 3) (.int .i64 (t.f k).k)).set (k * 3 + 1) (.int .i64 (t.f k).n)).set (k * 3 + 2) (.slice b3 (t.f k).m d3)
        have hset : ∀ x, w.heap.size + 1 ≤ x → (((w1.setCell ⟨w.heap.size, k * 3, none⟩ (.int .i64 (t.f k).k)).setCell ⟨w.heap.size, k * 3 + 1, none⟩ (.int .i64 (t.f k).n)).setCell ⟨w.heap.size, k * 3 + 2, none⟩ (.slice b3 (t.f k).m d3)).heap[x]? = w1.heap[x]? := fun x hx => by
          have hz : x ≠ w.heap.size := by omega
          exact ((Below.heap_setCell _ _ _ _ hz).trans (Below.heap_setCell _ _ _ _ hz)).trans (Below.heap_setCell _ _ _ _ hz)
        refine ⟨k + 1, _, by omega, by go_num, bk2, ?_, FillR.step HF.out (fun x hx hxl => (hset x hx).trans (hb1.block x hxl)) (RdF.less (by omega) (HN.out.move fun x hx _ => hset x (by omega))) (by have := HC.out; omega), ?_⟩
        · simpa using HC.out
        · exact ((hbw.setCell (by simp) _).setCell (by simp) _).setCell (by simp) _
      case measure => simp [intOf]; omega
    · have hke : k = t.m := by omega
      subst hke
      have ik : ¬ ((t.m : Int) < (t.m : Int)) := by omega
      have HX : Hid (RdF w.heap.size wr t (.slice (some ⟨w.heap.size, 0, none⟩) t.m t.m)) := by
        have hF := HF.out
        have hS := HS.out
        rcases t with _ | ⟨kk, nn, mm, ff⟩
        · exact hS.elim
        clear hS
        refine ⟨_, _, _, rfl, Nat.le_refl _, by unfold maxLen; exact Nat.le_trans hn (by omega), Nat.le_refl _, hbk, fun i hi => ?_⟩
        obtain ⟨e1, e2, sx, e3, hx⟩ := hF i hi
        exact ⟨e1, e2, sx, e3, RdF.less (by omega) hx⟩
      go_wp2_with fail
      go_ret
      exact ⟨_, _, rfl, HX.out, hb⟩
end Go.Proofs.YtpkfgjloepbfpaaDoor
