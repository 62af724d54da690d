import Derived.Test.YtbdpcngcbnoioaaGreatDoorGqb
import Derived.Test.YtbdpcngcbnoioaaGreatDoorGqa
import Derived.Test.YtbdpcngcbnoioaaGreatDoorGd3
import Derived.Test.YtbdpcngcbnoioaaGreatDoorGb0
import Derived.Test.YtbdpcngcbnoioaaGreatDoorGpa
import Derived.Deep.RegionHeld3
import Derived.Test.YtbdpcngcbnoioaaGreatDoorQa8
import Derived.Test.YtbdpcngcbnoioaaGreatDoorGqc
namespace Go.Proofs.YtbdpcngcbnoioaaGreatDoor
open Go.RowKit Go.Shelf
def SesN (w : World) (p : Nat → Prop) (sp si sf sd : Value) (s : SS) : Prop := ∀ V : World, (∀ z, p z → z < w.heap.size → V.heap[z]? = w.heap[z]?) → Ses V sp si sf sd s
section
variable {w w1 : World} {p q : Nat → Prop} {sp si sf sd : Value} {s : SS}
theorem SesN.ses (h : SesN w p sp si sf sd s) : Ses w sp si sf sd s := h w fun _ _ _ => rfl
theorem SesN.move (h : SesN w p sp si sf sd s) (H : ∀ z, p z → z < w.heap.size → q z ∧ w1.heap[z]? = w.heap[z]?) (hs : w.heap.size ≤ w1.heap.size) : SesN w1 q sp si sf sd s := fun V hV =>
  h V fun z hz hl => (hV z (H z hz hl).1 (Nat.lt_of_lt_of_le hl hs)).trans (H z hz hl).2
theorem SesN.keep (h : SesN w p sp si sf sd s) (hb : Below w.heap.size w w1) : SesN w1 p sp si sf sd s := h.move (fun z hz hl => ⟨hz, hb.block z hl⟩) hb.size
theorem SesN.wk (h : SesN w p sp si sf sd s) (H : ∀ z, p z → z < w.heap.size → q z) : SesN w q sp si sf sd s := h.move (fun z hz hl => ⟨H z hz hl, rfl⟩) (Nat.le_refl _)
theorem SesN.keepx {g : Nat} (h : SesN w p sp si sf sd s) (hx : Bx g w w1) (hg : ∀ z, p z → z ≠ g) : SesN w1 p sp si sf sd s := h.move (fun z hz hl => ⟨hz, hx.block z hl (hg z hz)⟩) hx.size
theorem SesN.set (h : SesN w p sp si sf sd s) {b i : Nat} {v : Value} (hp : ∀ z, p z → z ≠ b) : SesN (w.setCell ⟨b, i, none⟩ v) p sp si sf sd s := h.move (fun z hz _ => ⟨hz, Below.heap_setCell _ _ _ _ (hp z hz)⟩) (by simp)
end
end Go.Proofs.YtbdpcngcbnoioaaGreatDoor
namespace Go.Proofs.YtbdpcngcbnoioaaGreatDoor
open Go.RowKit Go.Shelf
attribute [local go_sem ↓] Go.wp_at_zero Go.wp_at_succ
def SamePost (w : World) (e : Ending) (w' : World) : Prop := e = .returned (.bool true) ∧ Below w.heap.size w w'
set_option maxRecDepth 100000 in
set_option maxHeartbeats 16000000 in
theorem lwPlan_step {t : PT} {B B' : Nat} {s s' : Value} {w : World} (hs : KdS B w t s) (hs' : KdS B' w t s')
    (hrec : ∀ i, i < t.len → ∀ (W : World) (u u' : Value), KdS B W (t.kid i) u → KdS B' W (t.kid i) u' → Calls Tryz.prog 40 #[pl (t.kid i).k (t.kid i).n u, pl (t.kid i).k (t.kid i).n u'] W (SamePost W)) :
    Calls Tryz.prog 40 #[pl t.k t.n s, pl t.k t.n s'] w (SamePost w) := by
  have HR := (show Hid _ from hrec)
  obtain ⟨a, c, rfl⟩ := hs.sl
  obtain ⟨a', c', rfl⟩ := hs'.sl
  have b0 : Bk ((w.alloc (.cells #[.int .i64 t.k, .int .i64 t.n, .slice a t.len c] 25)).alloc (.cells #[.int .i64 t.k, .int .i64 t.n, .slice a' t.len c'] 25)) w.heap.size #[.int .i64 t.k, .int .i64 t.n, .slice a t.len c] 25 := (Bk.new _ _ rfl).alloc _
  have b1 : Bk ((w.alloc (.cells #[.int .i64 t.k, .int .i64 t.n, .slice a t.len c] 25)).alloc (.cells #[.int .i64 t.k, .int .i64 t.n, .slice a' t.len c'] 25)) (w.heap.size + 1) #[.int .i64 t.k, .int .i64 t.n, .slice a' t.len c'] 25 := Bk.new _ _ (by simp)
  have hb0 : Below w.heap.size w ((w.alloc (.cells #[.int .i64 t.k, .int .i64 t.n, .slice a t.len c] 25)).alloc (.cells #[.int .i64 t.k, .int .i64 t.n, .slice a' t.len c'] 25)) := bAlloc (bAlloc (Below.refl _ _) _) _
  have HS : Hid (KdS B ((w.alloc (.cells #[.int .i64 t.k, .int .i64 t.n, .slice a t.len c] 25)).alloc (.cells #[.int .i64 t.k, .int .i64 t.n, .slice a' t.len c'] 25)) t (.slice a t.len c)) := hs.keep hb0
  have HS' : Hid (KdS B' ((w.alloc (.cells #[.int .i64 t.k, .int .i64 t.n, .slice a t.len c] 25)).alloc (.cells #[.int .i64 t.k, .int .i64 t.n, .slice a' t.len c'] 25)) t (.slice a' t.len c')) := hs'.keep hb0
  obtain ⟨x0, x1, x2⟩ := b0.three'
  obtain ⟨y0, y1, y2⟩ := b1.three'
  have htl := PT.len_le t
  clear hs hs' hrec
  go_enter Tryz.func40, Tryz.ntmps40
  go_wp2_with fail
  generalize ((w.alloc (.cells #[.int .i64 t.k, .int .i64 t.n, .slice a t.len c] 25)).alloc (.cells #[.int .i64 t.k, .int .i64 t.n, .slice a' t.len c'] 25)) = W0 at *
  clear x0 x1 x2 y0 y1 y2
  go_loopw [5] (fun i wr => ∃ k : Nat, i = .int .i64 k ∧ k ≤ t.len ∧ Below W0.heap.size W0 wr) (fun i _ => t.len - (intOf i).toNat)
  case atStart => exact ⟨0, rfl, Nat.zero_le _, Below.refl _ _⟩
  case round =>
    obtain ⟨k, rfl, hkl, hb⟩ := hrel
    obtain ⟨x0, x1, x2⟩ := (b0.keep hb).three'
    by_cases hlt : k < t.len
    · have ik : ((k : Int) < (t.len : Int)) := by omega
      obtain ⟨g, off, sx, rfl, hgl, p0, p1, p2, hkid, e2, m2, d2, rfl⟩ := HS.out.at hlt
      obtain ⟨g', off', sx', rfl, hgl', q0, q1, q2, hkid', e2', m2', d2', rfl⟩ := HS'.out.at hlt
      have HX : Hid (∀ V, Below W0.heap.size W0 V → V.cell? ⟨w.heap.size, 2, none⟩ = some (.slice (some ⟨g, off, none⟩) t.len c) ∧ V.cell? ⟨w.heap.size + 1, 2, none⟩ = some (.slice (some ⟨g', off', none⟩) t.len c') ∧ V.cell? ⟨g, off + k * 3, none⟩ = some (.int .i64 (t.kid k).k) ∧ V.cell? ⟨g, off + k * 3 + 1, none⟩ = some (.int .i64 (t.kid k).n) ∧ V.cell? ⟨g, off + k * 3 + 2, none⟩ = some (.slice e2 m2 d2) ∧
          V.cell? ⟨g', off' + k * 3, none⟩ = some (.int .i64 (t.kid k).k) ∧ V.cell? ⟨g', off' + k * 3 + 1, none⟩ = some (.int .i64 (t.kid k).n) ∧ V.cell? ⟨g', off' + k * 3 + 2, none⟩ = some (.slice e2' m2' d2')) := fun V hV => ⟨(b0.keep hV).three'.2.2, (b1.keep hV).three'.2.2, cell_below hV p0, cell_below hV p1, cell_below hV p2, cell_below hV q0, cell_below hV q1, cell_below hV q2⟩
      have hbD := hb.drew
      have HC : Hid (Calls Tryz.prog 40 #[pl (t.kid k).k (t.kid k).n (.slice e2 m2 d2), pl (t.kid k).k (t.kid k).n (.slice e2' m2' d2')] wr.drew (SamePost wr.drew)) := HR.out k hlt wr.drew _ _ (hkid.keep hbD) (hkid'.keep hbD)
      clear p0 p1 p2 q0 q1 q2 hkid hkid'
      go_wp2_with fail
      go_region_held3 (fun V => V.cell? ⟨w.heap.size, 2, none⟩ = some (.slice (some ⟨g, off, none⟩) t.len c) ∧ V.cell? ⟨w.heap.size + 1, 2, none⟩ = some (.slice (some ⟨g', off', none⟩) t.len c') ∧ V.cell? ⟨g, off + k * 3, none⟩ = some (.int .i64 (t.kid k).k) ∧ V.cell? ⟨g, off + k * 3 + 1, none⟩ = some (.int .i64 (t.kid k).n) ∧ V.cell? ⟨g, off + k * 3 + 2, none⟩ = some (.slice e2 m2 d2) ∧
          V.cell? ⟨g', off' + k * 3, none⟩ = some (.int .i64 (t.kid k).k) ∧ V.cell? ⟨g', off' + k * 3 + 1, none⟩ = some (.int .i64 (t.kid k).n) ∧ V.cell? ⟨g', off' + k * 3 + 2, none⟩ = some (.slice e2' m2' d2'))
        (first | exact HX.out _ hbD | exact HX.out _ hb7)
        (first
          | (go_at_call 40; refine Calls.mono HC.out ?_; rintro e w7 ⟨rfl, hb7'⟩; have hb7 : Below W0.heap.size W0 w7 := bStep hbD hb7'))
      all_goals
        go_wp2_with fail
        go_roundw
        case rel => exact ⟨k + 1, by go_num, by omega, hb7⟩
        case measure => simp [intOf]; omega
    · obtain rfl : k = t.len := by omega
      have ik : ¬ ((t.len : Int) < (t.len : Int)) := by omega
      go_wp2_with fail
      go_ret
      exact ⟨rfl, bStep hb0 hb⟩
theorem lwPlan_same : ∀ (t : PT) {B B' : Nat} {s s' : Value} {w : World}, KdS B w t s → KdS B' w t s' → Calls Tryz.prog 40 #[pl t.k t.n s, pl t.k t.n s'] w (SamePost w)
  | .n0 _ _, _, _, _, _, _, hs, hs' => lwPlan_step hs hs' fun i hi => by simp [PT.len] at hi
  | .n1 _ _ x, _, _, _, _, _, hs, hs' => lwPlan_step hs hs' fun i _ W u u' h h' => lwPlan_same x h h'
  | .n2 _ _ x y, _, _, _, _, _, hs, hs' => lwPlan_step hs hs' fun i _ W u u' h h' => by
    cases i with
    | zero => exact lwPlan_same x h h'
    | succ i => exact lwPlan_same y h h'
set_option maxRecDepth 100000 in
set_option maxHeartbeats 16000000 in
theorem lwBatches_same {K : List (List Rw)} {v v' : Value} {w : World} (h : LyR w v K) (h' : LyR w v' K) :
    Calls Tryz.prog 85 #[v, v'] w (SamePost w) := by
  obtain ⟨a, c, rfl, -, hm, hn, hcell⟩ := h.open
  obtain ⟨a', c', rfl, -, hm', -, hcell'⟩ := h'.open
  have HC := (show Hid _ from hcell)
  have HC' := (show Hid _ from hcell')
  clear hcell hcell' h h'
  go_enter Tryz.func85, Tryz.ntmps85
  go_wp2_with fail
  go_loopw [5] (fun i wr => ∃ k : Nat, i = .int .i64 k ∧ k ≤ K.length ∧ Below w.heap.size w wr) (fun i _ => K.length - (intOf i).toNat)
  case atStart => exact ⟨0, rfl, Nat.zero_le _, Below.refl _ _⟩
  case round =>
    obtain ⟨k, rfl, hkl, hb⟩ := hrel
    by_cases hlt : k < K.length
    · have ik : ((k : Int) < (K.length : Int)) := by omega
      obtain ⟨l, hl'⟩ : ∃ l, K[k]? = some l := ⟨_, List.getElem?_eq_getElem hlt⟩
      obtain ⟨g, off, ad, cp, rfl, hgl, p0, R0⟩ := HC.out k l hl'
      obtain ⟨g', off', ad', cp', rfl, hgl', q0, R1⟩ := HC'.out k l hl'
      have HX : Hid (∀ V, Below w.heap.size w V → V.cell? ⟨g, off + k, none⟩ = some (.slice ad l.length cp) ∧ V.cell? ⟨g', off' + k, none⟩ = some (.slice ad' l.length cp')) := fun V hV => ⟨cell_below hV p0, cell_below hV q0⟩
      have hbD := hb.drew
      have HR0 : Hid (Rs wr.drew (.slice ad l.length cp) l) := R0.keep hbD
      have HR1 : Hid (Rs wr.drew (.slice ad' l.length cp') l) := R1.keep hbD
      clear p0 q0 R0 R1 hl'
      go_wp2_with fail
      go_region_held3 (fun V => V.cell? ⟨g, off + k, none⟩ = some (.slice ad l.length cp) ∧ V.cell? ⟨g', off' + k, none⟩ = some (.slice ad' l.length cp'))
        (first | exact HX.out _ hbD | exact HX.out _ hb7)
        (first
          | (go_at_call 26; refine (lwRows_eq (decide_eq_true rfl) HR0.out HR1.out).mono ?_; rintro e w7 ⟨rfl, hb7'⟩; have hb7 : Below w.heap.size w w7 := bStep hbD hb7'))
      all_goals
        go_wp2_with fail
        go_roundw
        case rel => exact ⟨k + 1, by go_num, by omega, hb7⟩
        case measure => simp [intOf]; omega
    · obtain rfl : k = K.length := by omega
      have ik : ¬ ((K.length : Int) < (K.length : Int)) := by omega
      go_wp2_with fail
      go_ret
      exact ⟨rfl, hb⟩
set_option maxRecDepth 100000 in
set_option maxHeartbeats 16000000 in
theorem lwSess_same {s : SS} {sp si sf sd up ui uf ud : Value} {w : World} (h : Ses w sp si sf sd s) (h' : Ses w up ui uf ud s) :
    Calls Tryz.prog 25 #[sv s.t.k s.t.n sp si sf sd, sv s.t.k s.t.n up ui uf ud] w (SamePost w) := by
  obtain ⟨a0, c0, a1, c1, a2, c2, a3, c3, rfl, rfl, rfl, rfl⟩ := h.sl
  obtain ⟨e0, d0, e1, d1, e2, d2, e3, d3, rfl, rfl, rfl, rfl⟩ := h'.sl
  have b0 : Bk ((w.alloc (.cells (sc s.t.k s.t.n (.slice a0 s.t.len c0) (.slice a1 s.K.length c1) (.slice a2 s.f.length c2) (.slice a3 s.d.length c3)) 30)).alloc (.cells (sc s.t.k s.t.n (.slice e0 s.t.len d0) (.slice e1 s.K.length d1) (.slice e2 s.f.length d2) (.slice e3 s.d.length d3)) 30)) w.heap.size (sc s.t.k s.t.n (.slice a0 s.t.len c0) (.slice a1 s.K.length c1) (.slice a2 s.f.length c2) (.slice a3 s.d.length c3)) 30 := (Bk.new _ _ rfl).alloc _
  have b1 : Bk ((w.alloc (.cells (sc s.t.k s.t.n (.slice a0 s.t.len c0) (.slice a1 s.K.length c1) (.slice a2 s.f.length c2) (.slice a3 s.d.length c3)) 30)).alloc (.cells (sc s.t.k s.t.n (.slice e0 s.t.len d0) (.slice e1 s.K.length d1) (.slice e2 s.f.length d2) (.slice e3 s.d.length d3)) 30)) (w.heap.size + 1) (sc s.t.k s.t.n (.slice e0 s.t.len d0) (.slice e1 s.K.length d1) (.slice e2 s.f.length d2) (.slice e3 s.d.length d3)) 30 := Bk.new _ _ (by simp)
  have hb0 : Below w.heap.size w ((w.alloc (.cells (sc s.t.k s.t.n (.slice a0 s.t.len c0) (.slice a1 s.K.length c1) (.slice a2 s.f.length c2) (.slice a3 s.d.length c3)) 30)).alloc (.cells (sc s.t.k s.t.n (.slice e0 s.t.len d0) (.slice e1 s.K.length d1) (.slice e2 s.f.length d2) (.slice e3 s.d.length d3)) 30)) := bAlloc (bAlloc (Below.refl _ _) _) _
  have hA := h.keep hb0
  have hB := h'.keep hb0
  clear h h'
  obtain ⟨x0, x1, x2, x3, x4, x5⟩ := b0.six
  obtain ⟨y0, y1, y2, y3, y4, y5⟩ := b1.six
  go_enter Tryz.func25, Tryz.ntmps25
  go_wp2_with fail
  generalize ((w.alloc (.cells (sc s.t.k s.t.n (.slice a0 s.t.len c0) (.slice a1 s.K.length c1) (.slice a2 s.f.length c2) (.slice a3 s.d.length c3)) 30)).alloc (.cells (sc s.t.k s.t.n (.slice e0 s.t.len d0) (.slice e1 s.K.length d1) (.slice e2 s.f.length d2) (.slice e3 s.d.length d3)) 30)) = W0 at *
  refine Calls.mono (lwPlan_same s.t hA.kd hB.kd) ?_
  rintro e w1 ⟨rfl, hb1⟩
  have hA1 := hA.keep hb1
  have hB1 := hB.keep hb1
  have hbw1 := bStep hb0 hb1
  have c0' := b0.keep hb1
  have c1' := b1.keep hb1
  clear x0 x1 x2 x3 x4 x5 y0 y1 y2 y3 y4 y5 hA hB b0 b1 hb0 hb1
  obtain ⟨x0, x1, x2, x3, x4, x5⟩ := c0'.six
  obtain ⟨y0, y1, y2, y3, y4, y5⟩ := c1'.six
  go_wp2_with fail
  refine Calls.mono (lwBatches_same hA1.ly hB1.ly) ?_
  rintro e w2 ⟨rfl, hb2⟩
  have hA2 := hA1.keep hb2
  have hB2 := hB1.keep hb2
  have hbw2 := bStep hbw1 hb2
  have c2' := c0'.keep hb2
  have c3' := c1'.keep hb2
  clear x0 x1 x2 x3 x4 x5 y0 y1 y2 y3 y4 y5 hA1 hB1 c0' c1' hbw1 hb2
  obtain ⟨x0, x1, x2, x3, x4, x5⟩ := c2'.six
  obtain ⟨y0, y1, y2, y3, y4, y5⟩ := c3'.six
  go_wp2_with fail
  refine (lwTimes_eq (decide_eq_true rfl) hA2.ts hB2.ts).mono ?_
  rintro e w3 ⟨rfl, hb3⟩
  have hA3 := hA2.keep hb3
  have hB3 := hB2.keep hb3
  have hbw3 := bStep hbw2 hb3
  have c4' := c2'.keep hb3
  have c5' := c3'.keep hb3
  clear x0 x1 x2 x3 x4 x5 y0 y1 y2 y3 y4 y5 hA2 hB2 c2' c3' hbw2 hb3
  obtain ⟨x0, x1, x2, x3, x4, x5⟩ := c4'.six
  obtain ⟨y0, y1, y2, y3, y4, y5⟩ := c5'.six
  go_wp2_with fail
  refine (lwRows_eq (decide_eq_true rfl) hA3.rs hB3.rs).mono ?_
  rintro e w4 ⟨rfl, hb4⟩
  have hbw4 := bStep hbw3 hb4
  clear x0 x1 x2 x3 x4 x5 y0 y1 y2 y3 y4 y5
  go_wp2_with fail
  go_ret
  exact ⟨rfl, hbw4⟩
end Go.Proofs.YtbdpcngcbnoioaaGreatDoor
namespace Go.Proofs.YtbdpcngcbnoioaaGreatDoor
open Go.RowKit Go.Shelf
attribute [local go_sem ↓] Go.wp_at_zero Go.wp_at_succ
def zeroS : SS := ⟨.n0 0 0, [], [], []⟩
theorem zero_ses (w : World) : Ses w nilV nilV nilV nilV zeroS :=
  ⟨⟨none, 0, rfl⟩, ⟨[], ownK_sl (ownK_nil oneR 1 28 w 0) oneR_len (by simp), rfl, fun i u l h => by simp at h⟩, Own.ts (ownK_nil _ _ _ w 0) (Nat.zero_le _), OwnR.rs (ownK_nil rowC 5 55 w 0) (Nat.zero_le _)⟩
theorem specPlanOk_eq {t : PT} {B : Nat} {s : Value} {w : World} {b : Bool} (hp : pokB t 4 = b) (hs : KdS B w t s) :
    Calls Tryz.prog 102 #[pl t.k t.n s] w fun e w' => e = .returned (.bool b) ∧ Below w.heap.size w w' := by
  rw [← hp]; exact specPlanOk_any hs
theorem rs_nil (w : World) (a : Option Addr) : Rs w (.slice a 0 0) [] := ⟨a, 0, rfl, Nat.le_refl _, by unfold maxLen; omega, by simp, fun i x hi => by simp at hi⟩
set_option maxRecDepth 100000 in
set_option maxHeartbeats 16000000 in
theorem implSessNew_no (ea : Addr) {t : PT} {B : Nat} {s : Value} {w : World} (hp : pokB t 4 = false) (hsm : t.sm) (hs : KdS B w t s) (hg : w.cell? ⟨0, 0, none⟩ = some (erV ea)) :
    Calls Tryz.prog 39 #[pl t.k t.n s] w fun e w' => ∃ sp si sf sd, e = .returned (.tuple #[sv 0 0 sp si sf sd, .bool false]) ∧ Ses w' sp si sf sd zeroS ∧ Below w.heap.size w w' := by
  obtain ⟨a0, c0, rfl⟩ := hs.sl
  have bA : Bk ((w.alloc (.cells #[.int .i64 t.k, .int .i64 t.n, .slice a0 t.len c0] 25)).alloc (.cells #[.int .i64 0, .int .i64 0, .slice none 0 0, .slice none 0 0, .slice none 0 0, .slice none 0 0] 30)) w.heap.size #[.int .i64 t.k, .int .i64 t.n, .slice a0 t.len c0] 25 := (Bk.new _ _ rfl).alloc _
  have bR : Bk ((w.alloc (.cells #[.int .i64 t.k, .int .i64 t.n, .slice a0 t.len c0] 25)).alloc (.cells #[.int .i64 0, .int .i64 0, .slice none 0 0, .slice none 0 0, .slice none 0 0, .slice none 0 0] 30)) (w.heap.size + 1) #[.int .i64 0, .int .i64 0, .slice none 0 0, .slice none 0 0, .slice none 0 0, .slice none 0 0] 30 := Bk.new _ _ (by simp)
  have hb0 : Below w.heap.size w ((w.alloc (.cells #[.int .i64 t.k, .int .i64 t.n, .slice a0 t.len c0] 25)).alloc (.cells #[.int .i64 0, .int .i64 0, .slice none 0 0, .slice none 0 0, .slice none 0 0, .slice none 0 0] 30)) := bAlloc (bAlloc (Below.refl _ _) _) _
  have hz0 : ((w.alloc (.cells #[.int .i64 t.k, .int .i64 t.n, .slice a0 t.len c0] 25)).alloc (.cells #[.int .i64 0, .int .i64 0, .slice none 0 0, .slice none 0 0, .slice none 0 0, .slice none 0 0] 30)).heap.size = w.heap.size + 2 := by simp
  obtain ⟨x0, x1, x2⟩ := bA.three'
  have hk0 := hs.keep hb0
  have hg0 := cell_below hb0 hg
  go_enter Tryz.func39, Tryz.ntmps39
  go_wp2_with fail
  generalize ((w.alloc (.cells #[.int .i64 t.k, .int .i64 t.n, .slice a0 t.len c0] 25)).alloc (.cells #[.int .i64 0, .int .i64 0, .slice none 0 0, .slice none 0 0, .slice none 0 0, .slice none 0 0] 30)) = W1 at *
  refine (planOk_eq ea hp hsm hk0 hg0).mono ?_
  rintro e W0 ⟨rfl, hb1⟩
  have bR1 := bR.keep hb1
  have hbw1 := bStep hb0 hb1
  clear x0 x1 x2 bA bR hb0 hb1 hk0 hs hz0
  have sf0 := bR1.free 0
  have sq0 := bR1.set 0 (.int .i64 0)
  have sf1 := sq0.free 1
  have sq1 := sq0.set 1 (.int .i64 0)
  have sf2 := sq1.free 2
  have sq2 := sq1.set 2 (.slice none 0 0)
  have sf3 := sq2.free 3
  have sq3 := sq2.set 3 (.slice none 0 0)
  have sf4 := sq3.free 4
  have sq4 := sq3.set 4 (.slice none 0 0)
  have sf5 := sq4.free 5
  have sq5 := sq4.set 5 (.slice none 0 0)
  have sN : Bk ((((((W0.setCell ⟨w.heap.size + 1, 0, none⟩ (.int .i64 0)).setCell ⟨w.heap.size + 1, 1, none⟩ (.int .i64 0)).setCell ⟨w.heap.size + 1, 2, none⟩ (.slice none 0 0)).setCell ⟨w.heap.size + 1, 3, none⟩ (.slice none 0 0)).setCell ⟨w.heap.size + 1, 4, none⟩ (.slice none 0 0)).setCell ⟨w.heap.size + 1, 5, none⟩ (.slice none 0 0)) (w.heap.size + 1) #[.int .i64 0, .int .i64 0, .slice none 0 0, .slice none 0 0, .slice none 0 0, .slice none 0 0] 30 := sq5
  obtain ⟨sy0, sy1, sy2, sy3, sy4, sy5⟩ := bR1.six
  obtain ⟨sr0, sr1, sr2, sr3, sr4, sr5⟩ := sN.six
  have sset : ∀ z, z ≠ w.heap.size + 1 → ((((((W0.setCell ⟨w.heap.size + 1, 0, none⟩ (.int .i64 0)).setCell ⟨w.heap.size + 1, 1, none⟩ (.int .i64 0)).setCell ⟨w.heap.size + 1, 2, none⟩ (.slice none 0 0)).setCell ⟨w.heap.size + 1, 3, none⟩ (.slice none 0 0)).setCell ⟨w.heap.size + 1, 4, none⟩ (.slice none 0 0)).setCell ⟨w.heap.size + 1, 5, none⟩ (.slice none 0 0)).heap[z]? = W0.heap[z]? := fun z hz => (((((Below.heap_setCell _ _ _ _ hz).trans (Below.heap_setCell _ _ _ _ hz)).trans (Below.heap_setCell _ _ _ _ hz)).trans (Below.heap_setCell _ _ _ _ hz)).trans (Below.heap_setCell _ _ _ _ hz)).trans (Below.heap_setCell _ _ _ _ hz)
  clear sq0 sq1 sq2 sq3 sq4 sq5
  have HBF : Hid (Below w.heap.size w ((((((W0.setCell ⟨w.heap.size + 1, 0, none⟩ (.int .i64 0)).setCell ⟨w.heap.size + 1, 1, none⟩ (.int .i64 0)).setCell ⟨w.heap.size + 1, 2, none⟩ (.slice none 0 0)).setCell ⟨w.heap.size + 1, 3, none⟩ (.slice none 0 0)).setCell ⟨w.heap.size + 1, 4, none⟩ (.slice none 0 0)).setCell ⟨w.heap.size + 1, 5, none⟩ (.slice none 0 0))) := ((((((hbw1.setCell (by simp) _).setCell (by simp) _).setCell (by simp) _).setCell (by simp) _).setCell (by simp) _).setCell (by simp) _)
  clear sset sN
  go_wp2_with fail
  refine bodyPost_ret (v := .tuple #[sv 0 0 nilV nilV nilV nilV, .bool false]) (by simp [results, Tryz.results39, go_sem, sr0, sr1, sr2, sr3, sr4, sr5]; try rfl) rfl ?_
  exact ⟨_, _, _, _, rfl, zero_ses _, HBF.out⟩
set_option maxRecDepth 100000 in
set_option maxHeartbeats 16000000 in
theorem specSessNew_no {t : PT} {B : Nat} {s : Value} {w : World} (hp : pokB t 4 = false) (hs : KdS B w t s) :
    Calls Tryz.prog 38 #[pl t.k t.n s] w fun e w' => ∃ sp si sf sd, e = .returned (.tuple #[sv 0 0 sp si sf sd, .bool false]) ∧ Ses w' sp si sf sd zeroS ∧ Below w.heap.size w w' := by
  obtain ⟨a0, c0, rfl⟩ := hs.sl
  have bA : Bk ((w.alloc (.cells #[.int .i64 t.k, .int .i64 t.n, .slice a0 t.len c0] 25)).alloc (.cells #[.int .i64 0, .int .i64 0, .slice none 0 0, .slice none 0 0, .slice none 0 0, .slice none 0 0] 30)) w.heap.size #[.int .i64 t.k, .int .i64 t.n, .slice a0 t.len c0] 25 := (Bk.new _ _ rfl).alloc _
  have bR : Bk ((w.alloc (.cells #[.int .i64 t.k, .int .i64 t.n, .slice a0 t.len c0] 25)).alloc (.cells #[.int .i64 0, .int .i64 0, .slice none 0 0, .slice none 0 0, .slice none 0 0, .slice none 0 0] 30)) (w.heap.size + 1) #[.int .i64 0, .int .i64 0, .slice none 0 0, .slice none 0 0, .slice none 0 0, .slice none 0 0] 30 := Bk.new _ _ (by simp)
  have hb0 : Below w.heap.size w ((w.alloc (.cells #[.int .i64 t.k, .int .i64 t.n, .slice a0 t.len c0] 25)).alloc (.cells #[.int .i64 0, .int .i64 0, .slice none 0 0, .slice none 0 0, .slice none 0 0, .slice none 0 0] 30)) := bAlloc (bAlloc (Below.refl _ _) _) _
  have hz0 : ((w.alloc (.cells #[.int .i64 t.k, .int .i64 t.n, .slice a0 t.len c0] 25)).alloc (.cells #[.int .i64 0, .int .i64 0, .slice none 0 0, .slice none 0 0, .slice none 0 0, .slice none 0 0] 30)).heap.size = w.heap.size + 2 := by simp
  obtain ⟨x0, x1, x2⟩ := bA.three'
  have hk0 := hs.keep hb0
  go_enter Tryz.func38, Tryz.ntmps38
  go_wp2_with fail
  generalize ((w.alloc (.cells #[.int .i64 t.k, .int .i64 t.n, .slice a0 t.len c0] 25)).alloc (.cells #[.int .i64 0, .int .i64 0, .slice none 0 0, .slice none 0 0, .slice none 0 0, .slice none 0 0] 30)) = W1 at *
  refine (specPlanOk_eq hp hk0).mono ?_
  rintro e W0 ⟨rfl, hb1⟩
  have bR1 := bR.keep hb1
  have hbw1 := bStep hb0 hb1
  clear x0 x1 x2 bA bR hb0 hb1 hk0 hs hz0
  have sf0 := bR1.free 0
  have sq0 := bR1.set 0 (.int .i64 0)
  have sf1 := sq0.free 1
  have sq1 := sq0.set 1 (.int .i64 0)
  have sf2 := sq1.free 2
  have sq2 := sq1.set 2 (.slice none 0 0)
  have sf3 := sq2.free 3
  have sq3 := sq2.set 3 (.slice none 0 0)
  have sf4 := sq3.free 4
  have sq4 := sq3.set 4 (.slice none 0 0)
  have sf5 := sq4.free 5
  have sq5 := sq4.set 5 (.slice none 0 0)
  have sN : Bk ((((((W0.setCell ⟨w.heap.size + 1, 0, none⟩ (.int .i64 0)).setCell ⟨w.heap.size + 1, 1, none⟩ (.int .i64 0)).setCell ⟨w.heap.size + 1, 2, none⟩ (.slice none 0 0)).setCell ⟨w.heap.size + 1, 3, none⟩ (.slice none 0 0)).setCell ⟨w.heap.size + 1, 4, none⟩ (.slice none 0 0)).setCell ⟨w.heap.size + 1, 5, none⟩ (.slice none 0 0)) (w.heap.size + 1) #[.int .i64 0, .int .i64 0, .slice none 0 0, .slice none 0 0, .slice none 0 0, .slice none 0 0] 30 := sq5
  obtain ⟨sy0, sy1, sy2, sy3, sy4, sy5⟩ := bR1.six
  obtain ⟨sr0, sr1, sr2, sr3, sr4, sr5⟩ := sN.six
  have sset : ∀ z, z ≠ w.heap.size + 1 → ((((((W0.setCell ⟨w.heap.size + 1, 0, none⟩ (.int .i64 0)).setCell ⟨w.heap.size + 1, 1, none⟩ (.int .i64 0)).setCell ⟨w.heap.size + 1, 2, none⟩ (.slice none 0 0)).setCell ⟨w.heap.size + 1, 3, none⟩ (.slice none 0 0)).setCell ⟨w.heap.size + 1, 4, none⟩ (.slice none 0 0)).setCell ⟨w.heap.size + 1, 5, none⟩ (.slice none 0 0)).heap[z]? = W0.heap[z]? := fun z hz => (((((Below.heap_setCell _ _ _ _ hz).trans (Below.heap_setCell _ _ _ _ hz)).trans (Below.heap_setCell _ _ _ _ hz)).trans (Below.heap_setCell _ _ _ _ hz)).trans (Below.heap_setCell _ _ _ _ hz)).trans (Below.heap_setCell _ _ _ _ hz)
  clear sq0 sq1 sq2 sq3 sq4 sq5
  have HBF : Hid (Below w.heap.size w ((((((W0.setCell ⟨w.heap.size + 1, 0, none⟩ (.int .i64 0)).setCell ⟨w.heap.size + 1, 1, none⟩ (.int .i64 0)).setCell ⟨w.heap.size + 1, 2, none⟩ (.slice none 0 0)).setCell ⟨w.heap.size + 1, 3, none⟩ (.slice none 0 0)).setCell ⟨w.heap.size + 1, 4, none⟩ (.slice none 0 0)).setCell ⟨w.heap.size + 1, 5, none⟩ (.slice none 0 0))) := ((((((hbw1.setCell (by simp) _).setCell (by simp) _).setCell (by simp) _).setCell (by simp) _).setCell (by simp) _).setCell (by simp) _)
  clear sset sN
  go_wp2_with fail
  refine bodyPost_ret (v := .tuple #[sv 0 0 nilV nilV nilV nilV, .bool false]) (by simp [results, Tryz.results38, go_sem, sr0, sr1, sr2, sr3, sr4, sr5]; try rfl) rfl ?_
  exact ⟨_, _, _, _, rfl, zero_ses _, HBF.out⟩
set_option maxRecDepth 100000 in
set_option maxHeartbeats 16000000 in
theorem specSessNew_yes {t : PT} {B : Nat} {s : Value} {w : World} (hp : pokB t 4 = true) (hs : KdS B w t s) :
    Calls Tryz.prog 38 #[pl t.k t.n s] w fun e w' => ∃ sp si sf, e = .returned (.tuple #[sv t.k t.n sp si sf nilV, .bool true]) ∧ SesN w' (fun z => w.heap.size + 2 ≤ z) sp si sf nilV (newV t) ∧ Below w.heap.size w w' := by
  obtain ⟨a0, c0, rfl⟩ := hs.sl
  have bA : Bk ((w.alloc (.cells #[.int .i64 t.k, .int .i64 t.n, .slice a0 t.len c0] 25)).alloc (.cells #[.int .i64 0, .int .i64 0, .slice none 0 0, .slice none 0 0, .slice none 0 0, .slice none 0 0] 30)) w.heap.size #[.int .i64 t.k, .int .i64 t.n, .slice a0 t.len c0] 25 := (Bk.new _ _ rfl).alloc _
  have bR : Bk ((w.alloc (.cells #[.int .i64 t.k, .int .i64 t.n, .slice a0 t.len c0] 25)).alloc (.cells #[.int .i64 0, .int .i64 0, .slice none 0 0, .slice none 0 0, .slice none 0 0, .slice none 0 0] 30)) (w.heap.size + 1) #[.int .i64 0, .int .i64 0, .slice none 0 0, .slice none 0 0, .slice none 0 0, .slice none 0 0] 30 := Bk.new _ _ (by simp)
  have hb0 : Below w.heap.size w ((w.alloc (.cells #[.int .i64 t.k, .int .i64 t.n, .slice a0 t.len c0] 25)).alloc (.cells #[.int .i64 0, .int .i64 0, .slice none 0 0, .slice none 0 0, .slice none 0 0, .slice none 0 0] 30)) := bAlloc (bAlloc (Below.refl _ _) _) _
  have hz0 : ((w.alloc (.cells #[.int .i64 t.k, .int .i64 t.n, .slice a0 t.len c0] 25)).alloc (.cells #[.int .i64 0, .int .i64 0, .slice none 0 0, .slice none 0 0, .slice none 0 0, .slice none 0 0] 30)).heap.size = w.heap.size + 2 := by simp
  obtain ⟨x0, x1, x2⟩ := bA.three'
  have hk0 := hs.keep hb0
  go_enter Tryz.func38, Tryz.ntmps38
  go_wp2_with fail
  generalize ((w.alloc (.cells #[.int .i64 t.k, .int .i64 t.n, .slice a0 t.len c0] 25)).alloc (.cells #[.int .i64 0, .int .i64 0, .slice none 0 0, .slice none 0 0, .slice none 0 0, .slice none 0 0] 30)) = W1 at *
  refine (specPlanOk_eq hp hk0).mono ?_
  rintro e W0 ⟨rfl, hb1⟩
  have bA1 := bA.keep hb1
  have bR1 := bR.keep hb1
  have hbw1 := bStep hb0 hb1
  have hk1 := hk0.keep hb1
  have hz1 : w.heap.size + 2 ≤ W0.heap.size := by have := hb1.size; omega
  clear x0 x1 x2 bA bR hb0 hb1 hk0 hs hz0
  obtain ⟨x0, x1, x2⟩ := bA1.three'
  go_wp2_with fail
  refine (l31Plan_any t hk1).mono ?_
  rintro e w3 ⟨ak, ck, rfl, kp, hb3⟩
  have hbw3 := bStep hbw1 hb3
  have hz3 := hb3.size
  have hb4 : Below w3.heap.size w3 ((((w3.alloc (.cells #[] 55)).alloc (.cells #[] 55)).alloc (.cells #[.slice (some ⟨w3.heap.size, 0, none⟩) 0 0, .slice (some ⟨w3.heap.size + 1, 0, none⟩) 0 0] 28)).alloc (.cells #[.int .i64 0, .int .i64 0] 32)) := bAlloc (bAlloc (bAlloc (bAlloc (Below.refl _ _) _) _) _) _
  have bV : Bk ((((w3.alloc (.cells #[] 55)).alloc (.cells #[] 55)).alloc (.cells #[.slice (some ⟨w3.heap.size, 0, none⟩) 0 0, .slice (some ⟨w3.heap.size + 1, 0, none⟩) 0 0] 28)).alloc (.cells #[.int .i64 0, .int .i64 0] 32)) (w3.heap.size + 1 + 1) #[.slice (some ⟨w3.heap.size, 0, none⟩) 0 0, .slice (some ⟨w3.heap.size + 1, 0, none⟩) 0 0] 28 := (Bk.new _ _ (by simp)).alloc _
  have bT : Bk ((((w3.alloc (.cells #[] 55)).alloc (.cells #[] 55)).alloc (.cells #[.slice (some ⟨w3.heap.size, 0, none⟩) 0 0, .slice (some ⟨w3.heap.size + 1, 0, none⟩) 0 0] 28)).alloc (.cells #[.int .i64 0, .int .i64 0] 32)) (w3.heap.size + 1 + 1 + 1) #[.int .i64 0, .int .i64 0] 32 := Bk.new _ _ (by simp)
  have bR4 := (bR1.keep hb3).keep hb4
  have hbw4 := bStep hbw3 hb4
  have kp4 : KdP (fun g => W0.heap.size ≤ g) ((((w3.alloc (.cells #[] 55)).alloc (.cells #[] 55)).alloc (.cells #[.slice (some ⟨w3.heap.size, 0, none⟩) 0 0, .slice (some ⟨w3.heap.size + 1, 0, none⟩) 0 0] 28)).alloc (.cells #[.int .i64 0, .int .i64 0] 32)) t (.slice ak t.len ck) := kp.keep hb4
  clear x0 x1 x2 bA1 bR1 hbw1 hb3 hk1 kp hb4 hbw3
  have sf0 := bR4.free 0
  have sq0 := bR4.set 0 (.int .i64 t.k)
  have sf1 := sq0.free 1
  have sq1 := sq0.set 1 (.int .i64 t.n)
  have sf2 := sq1.free 2
  have sq2 := sq1.set 2 (.slice ak t.len ck)
  have sf3 := sq2.free 3
  have sq3 := sq2.set 3 (.slice (some ⟨w3.heap.size + 1 + 1, 0, none⟩) 2 2)
  have sf4 := sq3.free 4
  have sq4 := sq3.set 4 (.slice (some ⟨w3.heap.size + 1 + 1 + 1, 0, none⟩) 1 1)
  have sf5 := sq4.free 5
  have sq5 := sq4.set 5 (.slice none 0 0)
  have sN : Bk ((((((((((w3.alloc (.cells #[] 55)).alloc (.cells #[] 55)).alloc (.cells #[.slice (some ⟨w3.heap.size, 0, none⟩) 0 0, .slice (some ⟨w3.heap.size + 1, 0, none⟩) 0 0] 28)).alloc (.cells #[.int .i64 0, .int .i64 0] 32)).setCell ⟨w.heap.size + 1, 0, none⟩ (.int .i64 t.k)).setCell ⟨w.heap.size + 1, 1, none⟩ (.int .i64 t.n)).setCell ⟨w.heap.size + 1, 2, none⟩ (.slice ak t.len ck)).setCell ⟨w.heap.size + 1, 3, none⟩ (.slice (some ⟨w3.heap.size + 1 + 1, 0, none⟩) 2 2)).setCell ⟨w.heap.size + 1, 4, none⟩ (.slice (some ⟨w3.heap.size + 1 + 1 + 1, 0, none⟩) 1 1)).setCell ⟨w.heap.size + 1, 5, none⟩ (.slice none 0 0)) (w.heap.size + 1) #[.int .i64 t.k, .int .i64 t.n, .slice ak t.len ck, .slice (some ⟨w3.heap.size + 1 + 1, 0, none⟩) 2 2, .slice (some ⟨w3.heap.size + 1 + 1 + 1, 0, none⟩) 1 1, .slice none 0 0] 30 := sq5
  obtain ⟨sy0, sy1, sy2, sy3, sy4, sy5⟩ := bR4.six
  obtain ⟨sr0, sr1, sr2, sr3, sr4, sr5⟩ := sN.six
  have sset : ∀ z, z ≠ w.heap.size + 1 → ((((((((((w3.alloc (.cells #[] 55)).alloc (.cells #[] 55)).alloc (.cells #[.slice (some ⟨w3.heap.size, 0, none⟩) 0 0, .slice (some ⟨w3.heap.size + 1, 0, none⟩) 0 0] 28)).alloc (.cells #[.int .i64 0, .int .i64 0] 32)).setCell ⟨w.heap.size + 1, 0, none⟩ (.int .i64 t.k)).setCell ⟨w.heap.size + 1, 1, none⟩ (.int .i64 t.n)).setCell ⟨w.heap.size + 1, 2, none⟩ (.slice ak t.len ck)).setCell ⟨w.heap.size + 1, 3, none⟩ (.slice (some ⟨w3.heap.size + 1 + 1, 0, none⟩) 2 2)).setCell ⟨w.heap.size + 1, 4, none⟩ (.slice (some ⟨w3.heap.size + 1 + 1 + 1, 0, none⟩) 1 1)).setCell ⟨w.heap.size + 1, 5, none⟩ (.slice none 0 0)).heap[z]? = ((((w3.alloc (.cells #[] 55)).alloc (.cells #[] 55)).alloc (.cells #[.slice (some ⟨w3.heap.size, 0, none⟩) 0 0, .slice (some ⟨w3.heap.size + 1, 0, none⟩) 0 0] 28)).alloc (.cells #[.int .i64 0, .int .i64 0] 32)).heap[z]? := fun z hz => (((((Below.heap_setCell _ _ _ _ hz).trans (Below.heap_setCell _ _ _ _ hz)).trans (Below.heap_setCell _ _ _ _ hz)).trans (Below.heap_setCell _ _ _ _ hz)).trans (Below.heap_setCell _ _ _ _ hz)).trans (Below.heap_setCell _ _ _ _ hz)
  clear sq0 sq1 sq2 sq3 sq4 sq5
  have zB : w3.heap.size + 4 ≤ ((((w3.alloc (.cells #[] 55)).alloc (.cells #[] 55)).alloc (.cells #[.slice (some ⟨w3.heap.size, 0, none⟩) 0 0, .slice (some ⟨w3.heap.size + 1, 0, none⟩) 0 0] 28)).alloc (.cells #[.int .i64 0, .int .i64 0] 32)).heap.size := by simp
  have zW : ((((((((((w3.alloc (.cells #[] 55)).alloc (.cells #[] 55)).alloc (.cells #[.slice (some ⟨w3.heap.size, 0, none⟩) 0 0, .slice (some ⟨w3.heap.size + 1, 0, none⟩) 0 0] 28)).alloc (.cells #[.int .i64 0, .int .i64 0] 32)).setCell ⟨w.heap.size + 1, 0, none⟩ (.int .i64 t.k)).setCell ⟨w.heap.size + 1, 1, none⟩ (.int .i64 t.n)).setCell ⟨w.heap.size + 1, 2, none⟩ (.slice ak t.len ck)).setCell ⟨w.heap.size + 1, 3, none⟩ (.slice (some ⟨w3.heap.size + 1 + 1, 0, none⟩) 2 2)).setCell ⟨w.heap.size + 1, 4, none⟩ (.slice (some ⟨w3.heap.size + 1 + 1 + 1, 0, none⟩) 1 1)).setCell ⟨w.heap.size + 1, 5, none⟩ (.slice none 0 0)).heap.size = ((((w3.alloc (.cells #[] 55)).alloc (.cells #[] 55)).alloc (.cells #[.slice (some ⟨w3.heap.size, 0, none⟩) 0 0, .slice (some ⟨w3.heap.size + 1, 0, none⟩) 0 0] 28)).alloc (.cells #[.int .i64 0, .int .i64 0] 32)).heap.size := by simp
  have HSF : Hid (SesN ((((((((((w3.alloc (.cells #[] 55)).alloc (.cells #[] 55)).alloc (.cells #[.slice (some ⟨w3.heap.size, 0, none⟩) 0 0, .slice (some ⟨w3.heap.size + 1, 0, none⟩) 0 0] 28)).alloc (.cells #[.int .i64 0, .int .i64 0] 32)).setCell ⟨w.heap.size + 1, 0, none⟩ (.int .i64 t.k)).setCell ⟨w.heap.size + 1, 1, none⟩ (.int .i64 t.n)).setCell ⟨w.heap.size + 1, 2, none⟩ (.slice ak t.len ck)).setCell ⟨w.heap.size + 1, 3, none⟩ (.slice (some ⟨w3.heap.size + 1 + 1, 0, none⟩) 2 2)).setCell ⟨w.heap.size + 1, 4, none⟩ (.slice (some ⟨w3.heap.size + 1 + 1 + 1, 0, none⟩) 1 1)).setCell ⟨w.heap.size + 1, 5, none⟩ (.slice none 0 0)) (fun z => w.heap.size + 2 ≤ z) (.slice ak t.len ck) (.slice (some ⟨w3.heap.size + 1 + 1, 0, none⟩) 2 2) (.slice (some ⟨w3.heap.size + 1 + 1 + 1, 0, none⟩) 1 1) nilV (newV t)) := by
    intro V hV
    have hag : ∀ z, w.heap.size + 2 ≤ z → z < ((((w3.alloc (.cells #[] 55)).alloc (.cells #[] 55)).alloc (.cells #[.slice (some ⟨w3.heap.size, 0, none⟩) 0 0, .slice (some ⟨w3.heap.size + 1, 0, none⟩) 0 0] 28)).alloc (.cells #[.int .i64 0, .int .i64 0] 32)).heap.size → V.heap[z]? = ((((w3.alloc (.cells #[] 55)).alloc (.cells #[] 55)).alloc (.cells #[.slice (some ⟨w3.heap.size, 0, none⟩) 0 0, .slice (some ⟨w3.heap.size + 1, 0, none⟩) 0 0] 28)).alloc (.cells #[.int .i64 0, .int .i64 0] 32)).heap[z]? := fun z h1 h2 => (hV z h1 (by rw [zW]; exact h2)).trans (sset z (by omega))
    have bV' : Bk V (w3.heap.size + 1 + 1) #[.slice (some ⟨w3.heap.size, 0, none⟩) 0 0, .slice (some ⟨w3.heap.size + 1, 0, none⟩) 0 0] 28 := by unfold Bk; rw [hag _ (by omega) (by omega)]; exact bV
    have bT' : Bk V (w3.heap.size + 1 + 1 + 1) #[.int .i64 0, .int .i64 0] 32 := by unfold Bk; rw [hag _ (by omega) (by omega)]; exact bT
    obtain ⟨v0, v1, _, _⟩ := bV'.two
    exact ses_new ((kp4.move (q := fun _ => True) fun g hg hl => ⟨trivial, hag g (by omega) hl⟩).kd fun g _ => Nat.zero_le _) v0 v1 (rs_nil _ _) (rs_nil _ _) (by decide) (by unfold maxLen; omega) (by decide) (by unfold maxLen; omega) bT'
  have HBF : Hid (Below w.heap.size w ((((((((((w3.alloc (.cells #[] 55)).alloc (.cells #[] 55)).alloc (.cells #[.slice (some ⟨w3.heap.size, 0, none⟩) 0 0, .slice (some ⟨w3.heap.size + 1, 0, none⟩) 0 0] 28)).alloc (.cells #[.int .i64 0, .int .i64 0] 32)).setCell ⟨w.heap.size + 1, 0, none⟩ (.int .i64 t.k)).setCell ⟨w.heap.size + 1, 1, none⟩ (.int .i64 t.n)).setCell ⟨w.heap.size + 1, 2, none⟩ (.slice ak t.len ck)).setCell ⟨w.heap.size + 1, 3, none⟩ (.slice (some ⟨w3.heap.size + 1 + 1, 0, none⟩) 2 2)).setCell ⟨w.heap.size + 1, 4, none⟩ (.slice (some ⟨w3.heap.size + 1 + 1 + 1, 0, none⟩) 1 1)).setCell ⟨w.heap.size + 1, 5, none⟩ (.slice none 0 0))) := ((((((hbw4.setCell (by simp) _).setCell (by simp) _).setCell (by simp) _).setCell (by simp) _).setCell (by simp) _).setCell (by simp) _)
  clear sset sN bR4 hbw4 bV bT kp4 zB zW
  go_wp2_with fail
  refine bodyPost_ret (v := .tuple #[sv t.k t.n (.slice ak t.len ck) (.slice (some ⟨w3.heap.size + 1 + 1, 0, none⟩) 2 2) (.slice (some ⟨w3.heap.size + 1 + 1 + 1, 0, none⟩) 1 1) nilV, .bool true]) (by simp [results, Tryz.results38, go_sem, sr0, sr1, sr2, sr3, sr4, sr5]; try rfl) rfl ?_
  exact ⟨_, _, _, rfl, HSF.out, HBF.out⟩
end Go.Proofs.YtbdpcngcbnoioaaGreatDoor
