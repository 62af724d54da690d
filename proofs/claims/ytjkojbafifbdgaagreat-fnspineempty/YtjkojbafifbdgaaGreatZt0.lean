/- Cursors over batches, and two batches taken together: the contracts. -/
import Derived.Test.YtjkojbafifbdgaaGreatZl0
import Derived.Deep.RegionHeld3
import Derived.BigQuiet
namespace Go.Proofs.YtjkojbafifbdgaaGreat
open Go.RowKit Go.Shelf

theorem Kg.setNew {gs : List Nat} {a w : World} (h : Kg gs a w) {p : Addr} (hp : a.heap.size ≤ p.block) (u : Value) : Kg gs a (w.setCell p u) :=
  ⟨h.os, h.tape, h.output, by simpa [World.setCell] using h.size, fun k hk hg => by rw [Below.heap_setCell _ _ _ _ (by omega)]; exact h.block k hk hg⟩
set_option maxHeartbeats 2000000 in
theorem more_any (g : Nat) (a : Option Addr) (n cap k : Nat) (w : World) (h : Bk w g #[.slice a n cap, .int .i64 k] 134) :
    Calls Tryz.prog 114 #[.pointer (some ⟨g, 0, none⟩)] w fun e w' => e = .returned (.bool (decide (k < n))) ∧ Below w.heap.size w w' := by
  obtain ⟨c0, c1, _, _⟩ := h.two
  have hd : decide ((k : Int) < (n : Int)) = decide (k < n) := by simp
  go_enter Tryz.func114, Tryz.ntmps114
  go_wp2_with fail
  go_quiet (fail)
  go_wp2_with fail
  go_ret
  exact ⟨by rw [← hd]; rfl, ⟨rfl, rfl, rfl, Nat.le_refl _, fun _ _ => rfl⟩⟩
theorem more_eq {g : Nat} {a : Option Addr} {n cap k : Nat} {w : World} {r : Bool} (e : decide (k < n) = r) (h : Bk w g #[.slice a n cap, .int .i64 k] 134) :
    Calls Tryz.prog 114 #[.pointer (some ⟨g, 0, none⟩)] w fun e w' => e = .returned (.bool r) ∧ Below w.heap.size w w' := by
  rw [← e]; exact more_any g a n cap k w h
set_option maxRecDepth 100000 in
set_option maxHeartbeats 8000000 in
theorem take_any (g : Nat) (a : Option Addr) (cap k : Nat) (l : List Rw) (w : World) (h : Bk w g #[.slice a l.length cap, .int .i64 k] 134) (hR : Rs w (.slice a l.length cap) l) {K V A B D : Int} (hr : l[k]? = some (((K, V), (A, B)), D)) (hl : l.length ≤ 1000) :
    Calls Tryz.prog 116 #[.pointer (some ⟨g, 0, none⟩)] w fun e w' => e = .returned (rv K V A B D) ∧ Bk w' g #[.slice a l.length cap, .int .i64 (k + 1 : Nat)] 134 ∧ Kg [g] w w' := by
  have hlt := (List.getElem?_eq_some_iff.1 hr).1
  obtain ⟨a', cap', e, -, -, -, hcells⟩ := Rs.open hR
  obtain ⟨gr, off, K', V', A', B', D', rfl, hg, hr', c0, c1, c2, c3, c4⟩ := hcells k hlt
  cases e
  rw [hr] at hr'
  cases hr'
  have ik : (k : Int) < (l.length : Int) := by omega
  have hb0 : Below w.heap.size w (w.alloc (.cells #[.int .i64 0, .int .i64 0, .int .i64 0, .int .i64 0, .int .i64 0] 74)) := bAlloc (Below.refl _ _) _
  have HB0 : Hid (Bk (w.alloc (.cells #[.int .i64 0, .int .i64 0, .int .i64 0, .int .i64 0, .int .i64 0] 74)) w.heap.size #[.int .i64 0, .int .i64 0, .int .i64 0, .int .i64 0, .int .i64 0] 74) := Bk.new _ _ rfl
  have hglt := h.lt
  have HX : Hid (∀ W, Below (w.alloc (.cells #[.int .i64 0, .int .i64 0, .int .i64 0, .int .i64 0, .int .i64 0] 74)).heap.size (w.alloc (.cells #[.int .i64 0, .int .i64 0, .int .i64 0, .int .i64 0, .int .i64 0] 74)) W → (W.cell? ⟨g, 0, none⟩ = some (.slice (some ⟨gr, off, none⟩) l.length cap) ∧ W.cell? ⟨g, 1, none⟩ = some (.int .i64 k)) ∧ W.cell? ⟨gr, off + k * 5, none⟩ = some (.int .i64 K) ∧ W.cell? ⟨gr, off + k * 5 + 1, none⟩ = some (.int .i64 V) ∧ W.cell? ⟨gr, off + k * 5 + 2, none⟩ = some (.int .i64 A) ∧ W.cell? ⟨gr, off + k * 5 + 3, none⟩ = some (.int .i64 B) ∧ W.cell? ⟨gr, off + k * 5 + 4, none⟩ = some (.int .i64 D)) := fun W hW => by
    have hb := bStep hb0 hW
    exact ⟨⟨(h.keep hb).two.1, (h.keep hb).two.2.1⟩, cell_below hb c0, cell_below hb c1, cell_below hb c2, cell_below hb c3, cell_below hb c4⟩
  have HK := (show Hid (Bk w g #[.slice (some ⟨gr, off, none⟩) l.length cap, .int .i64 k] 134) from h)
  have HSZ : Hid ((w.alloc (.cells #[.int .i64 0, .int .i64 0, .int .i64 0, .int .i64 0, .int .i64 0] 74)).heap.size = w.heap.size + 1) := by show _ = _; simp
  have HBB := (show Hid _ from hb0)
  clear hR hcells hr c0 c1 c2 c3 c4 h hb0
  go_enter Tryz.func116, Tryz.ntmps116
  go_wp2_with fail
  generalize (w.alloc (.cells #[.int .i64 0, .int .i64 0, .int .i64 0, .int .i64 0, .int .i64 0] 74)) = w0 at *
  go_region_held3 (fun W => (W.cell? ⟨g, 0, none⟩ = some (.slice (some ⟨gr, off, none⟩) l.length cap) ∧ W.cell? ⟨g, 1, none⟩ = some (.int .i64 k)) ∧ W.cell? ⟨gr, off + k * 5, none⟩ = some (.int .i64 K) ∧ W.cell? ⟨gr, off + k * 5 + 1, none⟩ = some (.int .i64 V) ∧ W.cell? ⟨gr, off + k * 5 + 2, none⟩ = some (.int .i64 A) ∧ W.cell? ⟨gr, off + k * 5 + 3, none⟩ = some (.int .i64 B) ∧ W.cell? ⟨gr, off + k * 5 + 4, none⟩ = some (.int .i64 D))
    (first | exact HX.out _ (Below.refl _ _).drew | exact HX.out _ (bAlloc (Below.refl _ _) _).drew)
    (fail)
  have hz : w0.heap.size = w.heap.size + 1 := HSZ.out
  have bi : Bk ((w0.alloc (.cells #[.int .i64 K, .int .i64 V, .int .i64 A, .int .i64 B, .int .i64 D] 74)).drew) w.heap.size #[.int .i64 0, .int .i64 0, .int .i64 0, .int .i64 0, .int .i64 0] 74 := (HB0.out.alloc _).drew
  have br : Bk ((w0.alloc (.cells #[.int .i64 K, .int .i64 V, .int .i64 A, .int .i64 B, .int .i64 D] 74)).drew) w0.heap.size #[.int .i64 K, .int .i64 V, .int .i64 A, .int .i64 B, .int .i64 D] 74 := (Bk.new _ _ rfl).drew
  have bc : Bk ((w0.alloc (.cells #[.int .i64 K, .int .i64 V, .int .i64 A, .int .i64 B, .int .i64 D] 74)).drew) g #[.slice (some ⟨gr, off, none⟩) l.length cap, .int .i64 k] 134 := ((HK.out.keep HBB.out).alloc _).drew
  have hbW : Below w.heap.size w ((w0.alloc (.cells #[.int .i64 K, .int .i64 V, .int .i64 A, .int .i64 B, .int .i64 D] 74)).drew) := (bAlloc HBB.out _).drew
  generalize ((w0.alloc (.cells #[.int .i64 K, .int .i64 V, .int .i64 A, .int .i64 B, .int .i64 D] 74)).drew) = W1 at *
  generalize hO : w0.heap.size = o at *
  have hgi : w.heap.size ≠ g := by omega
  have hgo : o ≠ g := by omega
  have hoi : o ≠ w.heap.size := by omega
  have bc2 : Bk (W1.setCell ⟨g, 1, none⟩ (.int .i64 ((k : Int) + 1))) g #[.slice (some ⟨gr, off, none⟩) l.length cap, .int .i64 ((k : Int) + 1)] 134 := bc.set 1 _
  have bi2 := bi.apart (p := ⟨g, 1, none⟩) hgi (.int .i64 ((k : Int) + 1))
  have br2 := br.apart (p := ⟨g, 1, none⟩) hgo (.int .i64 ((k : Int) + 1))
  obtain ⟨_, c1, _, f1⟩ := bc.two
  obtain ⟨r0, r1, r2, r3, r4⟩ := br2.five
  obtain ⟨z0, z1, z2, z3, z4⟩ := bi2.five
  have g0 := bi2.free 0
  have g1 := bi2.free 1
  have g2 := bi2.free 2
  have g3 := bi2.free 3
  have g4 := bi2.free 4
  have bi3 := bi2.set5 (.int .i64 K) (.int .i64 V) (.int .i64 A) (.int .i64 B) (.int .i64 D)
  obtain ⟨y0, y1, y2, y3, y4⟩ := bi3.five
  have hk1 : ((k + 1 : Nat) : Int) = (k : Int) + 1 := by omega
  have HF : Hid (Bk ((((((W1.setCell ⟨g, 1, none⟩ (.int .i64 ((k : Int) + 1))).setCell ⟨w.heap.size, 0, none⟩ (.int .i64 K)).setCell ⟨w.heap.size, 1, none⟩ (.int .i64 V)).setCell ⟨w.heap.size, 2, none⟩ (.int .i64 A)).setCell ⟨w.heap.size, 3, none⟩ (.int .i64 B)).setCell ⟨w.heap.size, 4, none⟩ (.int .i64 D)) g #[.slice (some ⟨gr, off, none⟩) l.length cap, .int .i64 ((k + 1 : Nat) : Int)] 134 ∧ Kg [g] w ((((((W1.setCell ⟨g, 1, none⟩ (.int .i64 ((k : Int) + 1))).setCell ⟨w.heap.size, 0, none⟩ (.int .i64 K)).setCell ⟨w.heap.size, 1, none⟩ (.int .i64 V)).setCell ⟨w.heap.size, 2, none⟩ (.int .i64 A)).setCell ⟨w.heap.size, 3, none⟩ (.int .i64 B)).setCell ⟨w.heap.size, 4, none⟩ (.int .i64 D))) := by
    rw [hk1]
    exact ⟨((((bc2.apart (show g ≠ w.heap.size from fun e => hgi e.symm) _).apart (show g ≠ w.heap.size from fun e => hgi e.symm) _).apart (show g ≠ w.heap.size from fun e => hgi e.symm) _).apart (show g ≠ w.heap.size from fun e => hgi e.symm) _).apart (show g ≠ w.heap.size from fun e => hgi e.symm) _,
      ((((((Kg.of_below hbW).trans (Kg.set 1 _)).setNew (Nat.le_refl _) _).setNew (Nat.le_refl _) _).setNew (Nat.le_refl _) _).setNew (Nat.le_refl _) _).setNew (Nat.le_refl _) _⟩
  clear bi bi2 br br2 bc bc2 bi3 hbW HB0 HK HBB HX hk1 hO hz
  go_wp2_with fail
  refine bodyPost_ret (v := rv K V A B D) (by simp [results, Tryz.results116, go_sem, y0, y1, y2, y3, y4]) rfl ?_
  exact ⟨rfl, HF.out.1, HF.out.2⟩
end Go.Proofs.YtjkojbafifbdgaaGreat
