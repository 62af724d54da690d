/- Two plans that are the same: what the laws' own compare says. -/
import Derived.Test.YtfofchgcbdbikaaDoorLq4
namespace Go.Proofs.YtfofchgcbdbikaaDoor
open Go.RowKit Go.Shelf

def TruePost (w : World) (e : Ending) (w' : World) : Prop := e = .returned (.bool true) ∧ Below w.heap.size w w'
set_option maxRecDepth 100000 in
set_option maxHeartbeats 4000000 in
theorem lwPlan_step {t : PT} {B B' : Nat} {s s' : Value} {w : World} (hs : KdS B w t s) (hs' : KdS B' w t s')
    (hrec : ∀ i, i < t.len → ∀ (W : World) (u u' : Value), KdS B W (t.kid i) u → KdS B' W (t.kid i) u' → Calls Tryd.prog 11 #[pl (t.kid i).k (t.kid i).n u, pl (t.kid i).k (t.kid i).n u'] W (TruePost W)) :
    Calls Tryd.prog 11 #[pl t.k t.n s, pl t.k t.n s'] w (TruePost w) := by
  have HR := (show Hid _ from hrec)
  have HS := (show Hid (KdS B w t s) from hs)
  have HS' := (show Hid (KdS B' w t s') from hs')
  obtain ⟨a, c, rfl⟩ := hs.sl
  obtain ⟨a', c', rfl⟩ := hs'.sl
  have htl := PT.len_le t
  have bA : Bk ((w.alloc (.cells #[.int .i64 t.k, .int .i64 t.n, .slice a t.len c] 25)).alloc (.cells #[.int .i64 t.k, .int .i64 t.n, .slice a' t.len c'] 25)) w.heap.size #[.int .i64 t.k, .int .i64 t.n, .slice a t.len c] 25 := (Bk.new _ _ rfl).alloc _
  have bA' : Bk ((w.alloc (.cells #[.int .i64 t.k, .int .i64 t.n, .slice a t.len c] 25)).alloc (.cells #[.int .i64 t.k, .int .i64 t.n, .slice a' t.len c'] 25)) (w.heap.size + 1) #[.int .i64 t.k, .int .i64 t.n, .slice a' t.len c'] 25 := Bk.new _ _ (by simp)
  have hb0 : Below w.heap.size w ((w.alloc (.cells #[.int .i64 t.k, .int .i64 t.n, .slice a t.len c] 25)).alloc (.cells #[.int .i64 t.k, .int .i64 t.n, .slice a' t.len c'] 25)) := bAlloc (bAlloc (Below.refl _ _) _) _
  obtain ⟨x0, x1, x2⟩ := bA.three'
  obtain ⟨y0, y1, y2⟩ := bA'.three'
  clear hs hs' hrec
  go_enter Tryd.func11, Tryd.ntmps11
  go_wp2_with fail
  clear x0 x1 x2 y0 y1 y2
  generalize ((w.alloc (.cells #[.int .i64 t.k, .int .i64 t.n, .slice a t.len c] 25)).alloc (.cells #[.int .i64 t.k, .int .i64 t.n, .slice a' t.len c'] 25)) = W0 at *
  go_loopw [5] (fun i wr => ∃ k : Nat, i = .int .i64 k ∧ k ≤ t.len ∧ Bk wr w.heap.size #[.int .i64 t.k, .int .i64 t.n, .slice a t.len c] 25 ∧ Bk wr (w.heap.size + 1) #[.int .i64 t.k, .int .i64 t.n, .slice a' t.len c'] 25 ∧ Below w.heap.size w wr) (fun i _ => t.len - (intOf i).toNat)
  case atStart => exact ⟨0, rfl, Nat.zero_le _, bA, bA', hb0⟩
  case round =>
    clear bA bA' hb0
    obtain ⟨k, rfl, hkl, bA, bA', hb⟩ := hrel
    by_cases hlt : k < t.len
    · have ik : ((k : Int) < (t.len : Int)) := by omega
      obtain ⟨g, off, sx, rfl, hgl, c0, c1, c2, hkid, b2, m2, d2, rfl⟩ := (HS.out.keep hb).at hlt
      obtain ⟨g', off', sx', rfl, hgl', c0', c1', c2', hkid', b2', m2', d2', rfl⟩ := (HS'.out.keep hb).at hlt
      have HK := (show Hid _ from fun (V : World) (hV : Below wr.heap.size wr V) => HR.out k hlt V _ _ (hkid.keep hV) (hkid'.keep hV))
      have hd : Below wr.heap.size wr wr.drew := (Below.refl _ _).drew
      have HW : Hid (∀ V, Below wr.heap.size wr V → V.cell? ⟨w.heap.size, 2, none⟩ = some (.slice (some ⟨g, off, none⟩) t.len c) ∧ V.cell? ⟨w.heap.size + 1, 2, none⟩ = some (.slice (some ⟨g', off', none⟩) t.len c') ∧ (V.cell? ⟨g, off + k * 3, none⟩ = some (.int .i64 (t.kid k).k) ∧ V.cell? ⟨g, off + k * 3 + 1, none⟩ = some (.int .i64 (t.kid k).n) ∧ V.cell? ⟨g, off + k * 3 + 2, none⟩ = some (.slice b2 m2 d2)) ∧ (V.cell? ⟨g', off' + k * 3, none⟩ = some (.int .i64 (t.kid k).k) ∧ V.cell? ⟨g', off' + k * 3 + 1, none⟩ = some (.int .i64 (t.kid k).n) ∧ V.cell? ⟨g', off' + k * 3 + 2, none⟩ = some (.slice b2' m2' d2'))) := fun V hV => ⟨(bA.keep hV).three'.2.2, (bA'.keep hV).three'.2.2, ⟨cell_below hV c0, cell_below hV c1, cell_below hV c2⟩, ⟨cell_below hV c0', cell_below hV c1', cell_below hV c2'⟩⟩
      obtain ⟨x0, x1, x2⟩ := bA.three'
      have HA : Hid (Bk wr w.heap.size #[.int .i64 t.k, .int .i64 t.n, .slice (some ⟨g, off, none⟩) t.len c] 25) := bA
      have HA' : Hid (Bk wr (w.heap.size + 1) #[.int .i64 t.k, .int .i64 t.n, .slice (some ⟨g', off', none⟩) t.len c'] 25) := bA'
      clear hkid hkid' bA bA'
      go_wp2_with fail
      clear c0 c1 c2 c0' c1' c2' x0 x1 x2
      obtain ⟨i1, i2, ⟨i3, i4, i5⟩, i6, i7, i8⟩ := HW.out _ (Below.refl _ _)
      obtain ⟨j1, j2, ⟨j3, j4, j5⟩, j6, j7, j8⟩ := HW.out _ hd
      go_region_law (go_simp; go_at_call 11; refine Calls.mono (HK.out _ hd) ?_; rintro e w7 ⟨rfl, hb7⟩; have hc7 : Below wr.heap.size wr w7 := bStep hd hb7)
      all_goals
        clear i1 i2 i3 i4 i5 i6 i7 i8 j1 j2 j3 j4 j5 j6 j7 j8
        go_wp2_with fail
        go_roundw
        case rel => exact ⟨k + 1, by go_num, by omega, Bk.keep HA.out hc7, Bk.keep HA'.out hc7, bStep hb hc7⟩
        case measure => simp [intOf]; omega
    · have hke : k = t.len := by omega
      have ik : ¬ ((k : Int) < (t.len : Int)) := by omega
      obtain ⟨x0, x1, x2⟩ := bA.three'
      go_wp2_with fail
      go_ret
      exact ⟨rfl, hb⟩
theorem lwPlan_any : ∀ (t : PT) {B B' : Nat} {s s' : Value} {w : World}, KdS B w t s → KdS B' w t s' → Calls Tryd.prog 11 #[pl t.k t.n s, pl t.k t.n s'] w (TruePost w)
  | .n0 _ _, _, _, _, _, _, hs, hs' => lwPlan_step hs hs' fun i hi => by simp [PT.len] at hi
  | .n1 _ _ x, _, _, _, _, _, hs, hs' => lwPlan_step hs hs' fun i _ W u u' h h' => lwPlan_any x h h'
  | .n2 _ _ x y, _, _, _, _, _, hs, hs' => lwPlan_step hs hs' fun i _ W u u' h h' => by
    cases i with
    | zero => exact lwPlan_any x h h'
    | succ i => exact lwPlan_any y h h'
end Go.Proofs.YtfofchgcbdbikaaDoor
