import Derived.Test.YtbdpcngcbnoioaaGreatDoorQa7
import Derived.Test.YtbdpcngcbnoioaaGreatDoorGmr
import Derived.Test.YtbdpcngcbnoioaaGreatDoorDp1
import Derived.Laws.OwnMore
namespace Go.Proofs.YtbdpcngcbnoioaaGreatDoor
open Go.RowKit Go.Shelf
attribute [local go_sem ↓] Go.wp_at_zero Go.wp_at_succ
structure NewS (t : PT) (A N : Nat) (a0 : Option Addr) (c0 : Nat) (L : Array Bool) (W : World) (t3 t8 t9 t10 t11 t12 t13 : Value) : Prop where
  s0 : L.getD 0 false = true → t8 = pl t.k t.n (.slice a0 t.len c0)
  s1 : L.getD 1 false = true → ∃ ak ck, t9 = pl t.k t.n (.slice ak t.len ck) ∧ KdP (fun g => N ≤ g) W t (.slice ak t.len ck)
  s2 : L.getD 2 false = true → ∃ q, t10 = .slice (some ⟨q, 0, none⟩) 2 2 ∧ N ≤ q ∧ Bk W q #[nilV, nilV] 28
  s3 : L.getD 3 false = true → t11 = tv 0 0
  s4 : L.getD 4 false = true → ∃ q, t12 = .slice (some ⟨q, 0, none⟩) 1 1 ∧ N ≤ q ∧ Bk W q #[.int .i64 0, .int .i64 0] 32
  s5 : L.getD 5 false = true → ∃ ak ck q q', t13 = sv t.k t.n (.slice ak t.len ck) (.slice (some ⟨q, 0, none⟩) 2 2) (.slice (some ⟨q', 0, none⟩) 1 1) nilV ∧ t9 = pl t.k t.n (.slice ak t.len ck) ∧ t10 = .slice (some ⟨q, 0, none⟩) 2 2 ∧ t12 = .slice (some ⟨q', 0, none⟩) 1 1
  s6 : L.getD 6 false = true → ∃ ak ck q q', Bk W (A + 1) #[.int .i64 t.k, .int .i64 t.n, .slice ak t.len ck, .slice (some ⟨q, 0, none⟩) 2 2, .slice (some ⟨q', 0, none⟩) 1 1, nilV] 30 ∧ t9 = pl t.k t.n (.slice ak t.len ck) ∧ t10 = .slice (some ⟨q, 0, none⟩) 2 2 ∧ t12 = .slice (some ⟨q', 0, none⟩) 1 1
  s7 : L.getD 7 false = true → t3 = .bool true
  z : L.getD 6 true = false → Bk W (A + 1) #[.int .i64 0, .int .i64 0, .slice none 0 0, .slice none 0 0, .slice none 0 0, .slice none 0 0] 30
  c5 : L.getD 5 false = true → L.getD 1 false = true ∧ L.getD 2 false = true ∧ L.getD 4 false = true
  c6 : L.getD 6 false = true → L.getD 5 false = true
variable {t : PT} {A N : Nat} {a0 : Option Addr} {c0 : Nat} {L : Array Bool} {W W' : World} {t3 t8 t9 t10 t11 t12 t13 : Value}
theorem NewS.keep (h : NewS t A N a0 c0 L W t3 t8 t9 t10 t11 t12 t13) (hb : Below W.heap.size W W') : NewS t A N a0 c0 L W' t3 t8 t9 t10 t11 t12 t13 where
  s0 := h.s0
  s1 := fun e => by obtain ⟨ak, ck, h1, h2⟩ := h.s1 e; exact ⟨ak, ck, h1, h2.keep hb⟩
  s2 := fun e => by obtain ⟨q, h1, h2, h3⟩ := h.s2 e; exact ⟨q, h1, h2, h3.keep hb⟩
  s3 := h.s3
  s4 := fun e => by obtain ⟨q, h1, h2, h3⟩ := h.s4 e; exact ⟨q, h1, h2, h3.keep hb⟩
  s5 := h.s5
  s6 := fun e => by obtain ⟨ak, ck, q, q', h1, h2⟩ := h.s6 e; exact ⟨ak, ck, q, q', h1.keep hb, h2⟩
  s7 := h.s7
  z := fun e => (h.z e).keep hb
  c5 := h.c5
  c6 := h.c6
theorem NewS.put0 {u : Value} (h : NewS t A N a0 c0 L W t3 t8 t9 t10 t11 t12 t13) (hu : u = pl t.k t.n (.slice a0 t.len c0)) : NewS t A N a0 c0 (L.setIfInBounds 0 true) W t3 u t9 t10 t11 t12 t13 where
  s0 := fun _ => hu
  s1 := fun e => h.s1 (getD_set (by decide) e)
  s2 := fun e => h.s2 (getD_set (by decide) e)
  s3 := fun e => h.s3 (getD_set (by decide) e)
  s4 := fun e => h.s4 (getD_set (by decide) e)
  s5 := fun e => h.s5 (getD_set (by decide) e)
  s6 := fun e => h.s6 (getD_set (by decide) e)
  s7 := fun e => h.s7 (getD_set (by decide) e)
  z := fun e => h.z (getD_setT (by decide) e)
  c5 := fun e => by obtain ⟨x1, x2, x3⟩ := h.c5 (getD_set (by decide) e); exact ⟨getD_up x1, getD_up x2, getD_up x3⟩
  c6 := fun e => getD_up (h.c6 (getD_set (by decide) e))
theorem NewS.put1 {u : Value} (hL : L.getD 5 false = true → False) (hL6 : L.getD 6 false = true → False) (h : NewS t A N a0 c0 L W t3 t8 t9 t10 t11 t12 t13) (hu : ∃ ak ck, u = pl t.k t.n (.slice ak t.len ck) ∧ KdP (fun g => N ≤ g) W t (.slice ak t.len ck)) : NewS t A N a0 c0 (L.setIfInBounds 1 true) W t3 t8 u t10 t11 t12 t13 where
  s0 := fun e => h.s0 (getD_set (by decide) e)
  s1 := fun _ => hu
  s2 := fun e => h.s2 (getD_set (by decide) e)
  s3 := fun e => h.s3 (getD_set (by decide) e)
  s4 := fun e => h.s4 (getD_set (by decide) e)
  s5 := fun e => (hL (getD_set (by decide) e)).elim
  s6 := fun e => (hL6 (getD_set (by decide) e)).elim
  s7 := fun e => h.s7 (getD_set (by decide) e)
  z := fun e => h.z (getD_setT (by decide) e)
  c5 := fun e => by obtain ⟨x1, x2, x3⟩ := h.c5 (getD_set (by decide) e); exact ⟨getD_up x1, getD_up x2, getD_up x3⟩
  c6 := fun e => getD_up (h.c6 (getD_set (by decide) e))
theorem NewS.put2 {u : Value} (hL : L.getD 5 false = true → False) (hL6 : L.getD 6 false = true → False) (h : NewS t A N a0 c0 L W t3 t8 t9 t10 t11 t12 t13) (hu : ∃ q, u = .slice (some ⟨q, 0, none⟩) 2 2 ∧ N ≤ q ∧ Bk W q #[nilV, nilV] 28) : NewS t A N a0 c0 (L.setIfInBounds 2 true) W t3 t8 t9 u t11 t12 t13 where
  s0 := fun e => h.s0 (getD_set (by decide) e)
  s1 := fun e => h.s1 (getD_set (by decide) e)
  s2 := fun _ => hu
  s3 := fun e => h.s3 (getD_set (by decide) e)
  s4 := fun e => h.s4 (getD_set (by decide) e)
  s5 := fun e => (hL (getD_set (by decide) e)).elim
  s6 := fun e => (hL6 (getD_set (by decide) e)).elim
  s7 := fun e => h.s7 (getD_set (by decide) e)
  z := fun e => h.z (getD_setT (by decide) e)
  c5 := fun e => by obtain ⟨x1, x2, x3⟩ := h.c5 (getD_set (by decide) e); exact ⟨getD_up x1, getD_up x2, getD_up x3⟩
  c6 := fun e => getD_up (h.c6 (getD_set (by decide) e))
theorem NewS.put3 {u : Value} (h : NewS t A N a0 c0 L W t3 t8 t9 t10 t11 t12 t13) (hu : u = tv 0 0) : NewS t A N a0 c0 (L.setIfInBounds 3 true) W t3 t8 t9 t10 u t12 t13 where
  s0 := fun e => h.s0 (getD_set (by decide) e)
  s1 := fun e => h.s1 (getD_set (by decide) e)
  s2 := fun e => h.s2 (getD_set (by decide) e)
  s3 := fun _ => hu
  s4 := fun e => h.s4 (getD_set (by decide) e)
  s5 := fun e => h.s5 (getD_set (by decide) e)
  s6 := fun e => h.s6 (getD_set (by decide) e)
  s7 := fun e => h.s7 (getD_set (by decide) e)
  z := fun e => h.z (getD_setT (by decide) e)
  c5 := fun e => by obtain ⟨x1, x2, x3⟩ := h.c5 (getD_set (by decide) e); exact ⟨getD_up x1, getD_up x2, getD_up x3⟩
  c6 := fun e => getD_up (h.c6 (getD_set (by decide) e))
theorem NewS.put4 {u : Value} (hL : L.getD 5 false = true → False) (hL6 : L.getD 6 false = true → False) (h : NewS t A N a0 c0 L W t3 t8 t9 t10 t11 t12 t13) (hu : ∃ q, u = .slice (some ⟨q, 0, none⟩) 1 1 ∧ N ≤ q ∧ Bk W q #[.int .i64 0, .int .i64 0] 32) : NewS t A N a0 c0 (L.setIfInBounds 4 true) W t3 t8 t9 t10 t11 u t13 where
  s0 := fun e => h.s0 (getD_set (by decide) e)
  s1 := fun e => h.s1 (getD_set (by decide) e)
  s2 := fun e => h.s2 (getD_set (by decide) e)
  s3 := fun e => h.s3 (getD_set (by decide) e)
  s4 := fun _ => hu
  s5 := fun e => (hL (getD_set (by decide) e)).elim
  s6 := fun e => (hL6 (getD_set (by decide) e)).elim
  s7 := fun e => h.s7 (getD_set (by decide) e)
  z := fun e => h.z (getD_setT (by decide) e)
  c5 := fun e => by obtain ⟨x1, x2, x3⟩ := h.c5 (getD_set (by decide) e); exact ⟨getD_up x1, getD_up x2, getD_up x3⟩
  c6 := fun e => getD_up (h.c6 (getD_set (by decide) e))
theorem NewS.put5 {u : Value} (hall : L.getD 1 false = true ∧ L.getD 2 false = true ∧ L.getD 4 false = true) (h : NewS t A N a0 c0 L W t3 t8 t9 t10 t11 t12 t13) (hu : ∃ ak ck q q', u = sv t.k t.n (.slice ak t.len ck) (.slice (some ⟨q, 0, none⟩) 2 2) (.slice (some ⟨q', 0, none⟩) 1 1) nilV ∧ t9 = pl t.k t.n (.slice ak t.len ck) ∧ t10 = .slice (some ⟨q, 0, none⟩) 2 2 ∧ t12 = .slice (some ⟨q', 0, none⟩) 1 1) : NewS t A N a0 c0 (L.setIfInBounds 5 true) W t3 t8 t9 t10 t11 t12 u where
  s0 := fun e => h.s0 (getD_set (by decide) e)
  s1 := fun e => h.s1 (getD_set (by decide) e)
  s2 := fun e => h.s2 (getD_set (by decide) e)
  s3 := fun e => h.s3 (getD_set (by decide) e)
  s4 := fun e => h.s4 (getD_set (by decide) e)
  s5 := fun _ => hu
  s6 := fun e => h.s6 (getD_set (by decide) e)
  s7 := fun e => h.s7 (getD_set (by decide) e)
  z := fun e => h.z (getD_setT (by decide) e)
  c5 := fun _ => ⟨getD_up hall.1, getD_up hall.2.1, getD_up hall.2.2⟩
  c6 := fun e => getD_up (h.c6 (getD_set (by decide) e))
theorem NewS.put7 {u : Value} (h : NewS t A N a0 c0 L W t3 t8 t9 t10 t11 t12 t13) (hu : u = .bool true) : NewS t A N a0 c0 (L.setIfInBounds 7 true) W u t8 t9 t10 t11 t12 t13 where
  s0 := fun e => h.s0 (getD_set (by decide) e)
  s1 := fun e => h.s1 (getD_set (by decide) e)
  s2 := fun e => h.s2 (getD_set (by decide) e)
  s3 := fun e => h.s3 (getD_set (by decide) e)
  s4 := fun e => h.s4 (getD_set (by decide) e)
  s5 := fun e => h.s5 (getD_set (by decide) e)
  s6 := fun e => h.s6 (getD_set (by decide) e)
  s7 := fun _ => hu
  z := fun e => h.z (getD_setT (by decide) e)
  c5 := fun e => by obtain ⟨x1, x2, x3⟩ := h.c5 (getD_set (by decide) e); exact ⟨getD_up x1, getD_up x2, getD_up x3⟩
  c6 := fun e => getD_up (h.c6 (getD_set (by decide) e))
theorem NewS.put6 {q q' ck : Nat} {ak : Option Addr} (hLs : L.size = 8) (hN : A + 1 < N) (hl5 : L.getD 5 false = true) (h : NewS t A N a0 c0 L W t3 t8 t9 t10 t11 t12 t13) (hx : ∀ x, x ≠ A + 1 → W'.heap[x]? = W.heap[x]?) (hu : Bk W' (A + 1) #[.int .i64 t.k, .int .i64 t.n, .slice ak t.len ck, .slice (some ⟨q, 0, none⟩) 2 2, .slice (some ⟨q', 0, none⟩) 1 1, nilV] 30) (e9 : t9 = pl t.k t.n (.slice ak t.len ck)) (e10 : t10 = .slice (some ⟨q, 0, none⟩) 2 2) (e12 : t12 = .slice (some ⟨q', 0, none⟩) 1 1) : NewS t A N a0 c0 (L.setIfInBounds 6 true) W' t3 t8 t9 t10 t11 t12 t13 where
  s0 := fun e => h.s0 (getD_set (by decide) e)
  s1 := fun e => by obtain ⟨ak, ck, h1, h2⟩ := h.s1 (getD_set (by decide) e); exact ⟨ak, ck, h1, h2.move fun g hg _ => ⟨hg, hx g (by omega)⟩⟩
  s2 := fun e => by obtain ⟨z, h1, h2, h3⟩ := h.s2 (getD_set (by decide) e); exact ⟨z, h1, h2, by unfold Bk; rw [hx z (by omega)]; exact h3⟩
  s3 := fun e => h.s3 (getD_set (by decide) e)
  s4 := fun e => by obtain ⟨z, h1, h2, h3⟩ := h.s4 (getD_set (by decide) e); exact ⟨z, h1, h2, by unfold Bk; rw [hx z (by omega)]; exact h3⟩
  s5 := fun e => h.s5 (getD_set (by decide) e)
  s6 := fun _ => ⟨ak, ck, q, q', hu, e9, e10, e12⟩
  s7 := fun e => h.s7 (getD_set (by decide) e)
  z := fun e2 => absurd e2 (by rw [getD_here (by omega)]; decide)
  c5 := fun e => by obtain ⟨x1, x2, x3⟩ := h.c5 (getD_set (by decide) e); exact ⟨getD_up x1, getD_up x2, getD_up x3⟩
  c6 := fun _ => getD_up hl5
def NewI (t : PT) (A N : Nat) (a0 : Option Addr) (c0 : Nat) (W0 : World) (L : Array Bool) (a : Act) (W : World) : Prop :=
  L.size = 8 ∧ Bx (A + 1) W0 W ∧ ∃ z0 t3 z4 z5 z6 z7 t8 t9 t10 t11 t12 t13 : Value,
    a = { tmps := #[z0, .pointer (some ⟨A, 0, none⟩), .pointer (some ⟨A + 1, 0, none⟩), t3, z4, z5, z6, z7, t8, t9, t10, t11, t12, t13], defers := [] } ∧ NewS t A N a0 c0 L W t3 t8 t9 t10 t11 t12 t13
theorem newI_next {i : Nat} {W0 : World} {z0 z4 z5 z6 z7 : Value} (hLs : L.size = 8) (hx : Bx (A + 1) W0 W') (S : NewS t A N a0 c0 (L.setIfInBounds i true) W' t3 t8 t9 t10 t11 t12 t13) :
    NewI t A N a0 c0 W0 (L.setIfInBounds i true) { tmps := #[z0, .pointer (some ⟨A, 0, none⟩), .pointer (some ⟨A + 1, 0, none⟩), t3, z4, z5, z6, z7, t8, t9, t10, t11, t12, t13], defers := [] } W' :=
  ⟨by simp [hLs], hx, _, _, _, _, _, _, _, _, _, _, _, _, rfl, S⟩
theorem infoV2 : (Tryz.prog.info? 28).map (fun i => (i.zero, i.size, i.bytes)) = some (some (.slice none 0 0), 1, 24) := by kernel_rfl
theorem make_two (u : World) : (Instr.makeSlice 26 (.int .i64 2) (.int .i64 2)).run Tryz.prog u = .ok (.slice (some ⟨u.heap.size, 0, none⟩) 2 2) (u.alloc (.cells #[nilV, nilV] 28)) := by
  obtain ⟨i0, hi, hz0, hz1, hz2⟩ := info_parts infoV2
  have := run_make (P := Tryz.prog) u 26 28 i0 _ Tryz.underlying26 hi hz0 .i64 .i64 2 2 (by omega) (by omega) (by rw [hz2]; omega) (by omega)
  rw [hz1] at this
  have e : madeCells (Value.slice none 0 0).cells (Int.toNat 2 * 1) = #[nilV, nilV] := by
    show madeCells #[nilV] 2 = _
    apply Array.toList_inj.1
    rw [toList_madeCells_one]; rfl
  rw [e] at this
  exact this
def newV (t : PT) : SS := ⟨t, [[], []], [(0, 0)], []⟩
theorem ses_new {w : World} {t : PT} {q q' cap cap' : Nat} {sp v v' : Value} (hk : KdS 0 w t sp) (h0 : w.cell? ⟨q, 0, none⟩ = some v) (h1 : w.cell? ⟨q, 1, none⟩ = some v') (hv : Rs w v []) (hv' : Rs w v' []) (hc : 2 ≤ cap) (hm : cap ≤ maxLen) (hc' : 1 ≤ cap') (hm' : cap' ≤ maxLen) (hb : Bk w q' #[.int .i64 0, .int .i64 0] 32) : Ses w sp (.slice (some ⟨q, 0, none⟩) 2 cap) (.slice (some ⟨q', 0, none⟩) 1 cap') nilV (newV t) := by
  refine ⟨hk, LyR.mk2 h0 (by simpa using h1) hv hv' hc hm, ⟨_, cap', rfl, hc', hm', by simp [newV], fun i hi => ?_⟩, OwnR.rs (ownK_nil rowC 5 55 _ 0) (by simp [newV])⟩
  obtain rfl : i = 0 := by simp [newV] at hi; exact hi
  obtain ⟨e0, e1, -, -⟩ := hb.two
  exact ⟨q', 0, rfl, hb.lt, by simpa [newV, tA] using e0, by simpa [newV, tB] using e1⟩
set_option maxRecDepth 100000 in
set_option maxHeartbeats 16000000 in
theorem implSessNew_yes (ea : Addr) {t : PT} {B : Nat} {s : Value} {w : World} (hp : pokB t 4 = true) (hsm : t.sm) (hs : KdS B w t s) (hg : w.cell? ⟨0, 0, none⟩ = some (erV ea)) :
    Calls Tryz.prog 39 #[pl t.k t.n s] w fun e w' => ∃ sp si sf, e = .returned (.tuple #[sv t.k t.n sp si sf nilV, .bool true]) ∧ Ses w' sp si sf nilV (newV t) ∧ Below w.heap.size w w' := by
  obtain ⟨a0, c0, rfl⟩ := hs.sl
  have bA : Bk ((w.alloc (.cells #[.int .i64 t.k, .int .i64 t.n, .slice a0 t.len c0] 25)).alloc (.cells #[.int .i64 0, .int .i64 0, .slice none 0 0, .slice none 0 0, .slice none 0 0, .slice none 0 0] 30)) w.heap.size #[.int .i64 t.k, .int .i64 t.n, .slice a0 t.len c0] 25 := (Bk.new _ _ rfl).alloc _
  have bR : Bk ((w.alloc (.cells #[.int .i64 t.k, .int .i64 t.n, .slice a0 t.len c0] 25)).alloc (.cells #[.int .i64 0, .int .i64 0, .slice none 0 0, .slice none 0 0, .slice none 0 0, .slice none 0 0] 30)) (w.heap.size + 1) #[.int .i64 0, .int .i64 0, .slice none 0 0, .slice none 0 0, .slice none 0 0, .slice none 0 0] 30 := Bk.new _ _ (by simp)
  have hb0 : Below w.heap.size w ((w.alloc (.cells #[.int .i64 t.k, .int .i64 t.n, .slice a0 t.len c0] 25)).alloc (.cells #[.int .i64 0, .int .i64 0, .slice none 0 0, .slice none 0 0, .slice none 0 0, .slice none 0 0] 30)) := bAlloc (bAlloc (Below.refl _ _) _) _
  have hz0 : ((w.alloc (.cells #[.int .i64 t.k, .int .i64 t.n, .slice a0 t.len c0] 25)).alloc (.cells #[.int .i64 0, .int .i64 0, .slice none 0 0, .slice none 0 0, .slice none 0 0, .slice none 0 0] 30)).heap.size = w.heap.size + 2 := by simp
  obtain ⟨x0, x1, x2⟩ := bA.three'
  have hk0 := hs.keep hb0
  have HSS : Hid (KdS B w t (.slice a0 t.len c0)) := hs
  clear hs
  have hg0 := cell_below hb0 hg
  go_enter Tryz.func39, Tryz.ntmps39
  go_wp2_with fail
  generalize ((w.alloc (.cells #[.int .i64 t.k, .int .i64 t.n, .slice a0 t.len c0] 25)).alloc (.cells #[.int .i64 0, .int .i64 0, .slice none 0 0, .slice none 0 0, .slice none 0 0, .slice none 0 0] 30)) = W1 at *
  refine (planOk_eq ea hp hsm hk0 hg0).mono ?_
  rintro e W0 ⟨rfl, hb1⟩
  have bA1 := bA.keep hb1
  have bR1 := bR.keep hb1
  have hbw1 := bStep hb0 hb1
  have hz1 : w.heap.size + 2 ≤ W0.heap.size := by have := hb1.size; omega
  clear x0 x1 x2 bA bR hb0 hb1 hk0 hg0 hz0
  go_wp2_with fail
  have HX : Hid (∀ V : World, Bx (w.heap.size + 1) W0 V → V.cell? ⟨w.heap.size, 0, none⟩ = some (.int .i64 t.k) ∧ V.cell? ⟨w.heap.size, 1, none⟩ = some (.int .i64 t.n) ∧ V.cell? ⟨w.heap.size, 2, none⟩ = some (.slice a0 t.len c0)) := fun V hV => (bA1.keepx hV (by omega)).three'
  have HBL : Hid (∀ V : World, Bx (w.heap.size + 1) W0 V → Below w.heap.size w V) := fun V hV => ⟨hV.os.trans hbw1.os, hV.tape.trans hbw1.tape, hV.output.trans hbw1.output, Nat.le_trans hbw1.size hV.size, fun z hz => (hV.block z (by omega) (by omega)).trans (hbw1.block z hz)⟩
  have HKD : Hid (∀ V : World, Bx (w.heap.size + 1) W0 V → KdS B V t (.slice a0 t.len c0)) := fun V hV => HSS.out.keep (HBL.out V hV)
  refine wp_region_inv (by kernel_rfl) (NewI t w.heap.size (w.heap.size + 2) a0 c0 W0) ?hg ?hs ?h0 ?hstep ?hend
  case hg =>
    intro i o ho
    have hi : i < 8 := (Array.getElem?_eq_some_iff.1 ho).1
    obtain rfl | rfl | rfl | rfl | rfl | rfl | rfl | rfl : i = 0 ∨ i = 1 ∨ i = 2 ∨ i = 3 ∨ i = 4 ∨ i = 5 ∨ i = 6 ∨ i = 7 := by omega
    all_goals cases ho; rfl
  case hs => intro L a W hI; exact hI.1
  case h0 =>
    refine ⟨by simp, Bx.of_below (Below.refl _ _).drew, _, _, _, _, _, _, _, _, _, _, _, _, rfl, ?_⟩
    constructor
    case z => exact fun _ => bR1
    all_goals (intro e; simp at e)
  case hstep =>
    rintro L a W i o ⟨hLs, hx, z0, t3, z4, z5, z6, z7, t8, t9, t10, t11, t12, t13, rfl, S⟩ hi ho
    obtain ⟨hun, o', ho', hall⟩ := mem_ready.1 hi
    rw [ho] at ho'
    cases ho'
    have hi8 : i < 8 := (Array.getElem?_eq_some_iff.1 ho).1
    have hNW : w.heap.size + 2 ≤ W.heap.size := by have := hx.size; omega
    clear hi
    generalize hK : (fun a' w' => NewI t w.heap.size (w.heap.size + 2) a0 c0 W0 (L.setIfInBounds i true) a' w') = K
    obtain rfl | rfl | rfl | rfl | rfl | rfl | rfl | rfl : i = 0 ∨ i = 1 ∨ i = 2 ∨ i = 3 ∨ i = 4 ∨ i = 5 ∨ i = 6 ∨ i = 7 := by omega
    · cases ho
      obtain ⟨x0, x1, x2⟩ := HX.out _ hx
      go_simp
      subst hK
      exact newI_next hLs hx (S.put0 rfl)
    · cases ho
      have e0 := S.s0 (hall ⟨0, .data⟩ (by simp) rfl)
      subst e0
      go_simp
      refine (planLike_any t (HKD.out _ hx)).mono ?_
      rintro e W1 ⟨ak, ck, rfl, kp, hb1⟩
      subst hK
      exact newI_next hLs (hx.trans (Bx.of_below hb1)) ((S.keep hb1).put1 (fun e => getD_no (S.c5 e).1 hun) (fun e => getD_no (S.c5 (S.c6 e)).1 hun) ⟨ak, ck, rfl, kp.wk fun g hg => by omega⟩)
    · cases ho
      have hm := make_two W
      go_simp
      subst hK
      exact newI_next hLs (hx.trans (Bx.of_below (bAlloc (Below.refl _ _) _))) ((S.keep (bAlloc (Below.refl _ _) _)).put2 (fun e => getD_no (S.c5 e).2.1 hun) (fun e => getD_no (S.c5 (S.c6 e)).2.1 hun) ⟨_, rfl, hNW, Bk.new _ _ rfl⟩)
    · cases ho
      go_simp
      subst hK
      exact newI_next hLs hx (S.put3 rfl)
    · cases ho
      have e0 := S.s3 (hall ⟨3, .data⟩ (by simp) rfl)
      subst e0
      go_simp
      subst hK
      exact newI_next hLs (hx.trans (Bx.of_below (bAlloc (Below.refl _ _) _))) ((S.keep (bAlloc (Below.refl _ _) _)).put4 (fun e => getD_no (S.c5 e).2.2 hun) (fun e => getD_no (S.c5 (S.c6 e)).2.2 hun) ⟨_, rfl, hNW, Bk.new _ _ rfl⟩)
    · cases ho
      have l1 := hall ⟨1, .data⟩ (by simp) rfl
      have l2 := hall ⟨2, .data⟩ (by simp) rfl
      have l4 := hall ⟨4, .data⟩ (by simp) rfl
      obtain ⟨ak, ck, e9, -⟩ := S.s1 l1
      obtain ⟨q, e10, -, -⟩ := S.s2 l2
      obtain ⟨q', e12, -, -⟩ := S.s4 l4
      subst e9 e10 e12
      go_simp
      subst hK
      exact newI_next hLs hx (S.put5 ⟨l1, l2, l4⟩ ⟨ak, ck, q, q', rfl, rfl, rfl, rfl⟩)
    · cases ho
      have l5 := hall ⟨5, .data⟩ (by simp) rfl
      have bq := S.z hun
      obtain ⟨ak, ck, q, q', e13, e9, e10, e12⟩ := S.s5 l5
      subst e13 e9 e10 e12
      have g0 := bq.free 0
      have q1 := bq.set 0 (.int .i64 t.k)
      have g1 := q1.free 1
      have q2 := q1.set 1 (.int .i64 t.n)
      have g2 := q2.free 2
      have q3 := q2.set 2 (.slice ak t.len ck)
      have g3 := q3.free 3
      have q4 := q3.set 3 (.slice (some ⟨q, 0, none⟩) 2 2)
      have g4 := q4.free 4
      have q5 := q4.set 4 (.slice (some ⟨q', 0, none⟩) 1 1)
      have g5 := q5.free 5
      have q6 : Bk ((((((W.setCell ⟨w.heap.size + 1, 0, none⟩ (.int .i64 t.k)).setCell ⟨w.heap.size + 1, 1, none⟩ (.int .i64 t.n)).setCell ⟨w.heap.size + 1, 2, none⟩ (.slice ak t.len ck)).setCell ⟨w.heap.size + 1, 3, none⟩ (.slice (some ⟨q, 0, none⟩) 2 2)).setCell ⟨w.heap.size + 1, 4, none⟩ (.slice (some ⟨q', 0, none⟩) 1 1)).setCell ⟨w.heap.size + 1, 5, none⟩ (nilV)) (w.heap.size + 1) #[.int .i64 t.k, .int .i64 t.n, .slice ak t.len ck, .slice (some ⟨q, 0, none⟩) 2 2, .slice (some ⟨q', 0, none⟩) 1 1, nilV] 30 := q5.set 5 nilV
      obtain ⟨y0, y1, y2, y3, y4, y5⟩ := bq.six
      have hset : ∀ z, z ≠ w.heap.size + 1 → ((((((W.setCell ⟨w.heap.size + 1, 0, none⟩ (.int .i64 t.k)).setCell ⟨w.heap.size + 1, 1, none⟩ (.int .i64 t.n)).setCell ⟨w.heap.size + 1, 2, none⟩ (.slice ak t.len ck)).setCell ⟨w.heap.size + 1, 3, none⟩ (.slice (some ⟨q, 0, none⟩) 2 2)).setCell ⟨w.heap.size + 1, 4, none⟩ (.slice (some ⟨q', 0, none⟩) 1 1)).setCell ⟨w.heap.size + 1, 5, none⟩ (nilV)).heap[z]? = W.heap[z]? := fun z hz => (((((Below.heap_setCell _ _ _ _ hz).trans (Below.heap_setCell _ _ _ _ hz)).trans (Below.heap_setCell _ _ _ _ hz)).trans (Below.heap_setCell _ _ _ _ hz)).trans (Below.heap_setCell _ _ _ _ hz)).trans (Below.heap_setCell _ _ _ _ hz)
      go_simp
      subst hK
      exact newI_next hLs (hx.trans ⟨rfl, rfl, rfl, by simp [World.setCell], fun z _ hz => hset z hz⟩) (S.put6 hLs (by omega) l5 hset q6 rfl rfl rfl)
    · cases ho
      go_simp
      subst hK
      exact newI_next hLs hx (S.put7 rfl)
  case hend =>
    rintro L a W ⟨hLs, hx, z0, t3, z4, z5, z6, z7, t8, t9, t10, t11, t12, t13, rfl, S⟩ hr
    have hallL : ∀ j, j < 8 → L.getD j false = true := by
      refine all_listed2 (by simpa using hLs) ?_ hr
      intro i o ho
      have hi : i < 8 := (Array.getElem?_eq_some_iff.1 ho).1
      obtain rfl | rfl | rfl | rfl | rfl | rfl | rfl | rfl : i = 0 ∨ i = 1 ∨ i = 2 ∨ i = 3 ∨ i = 4 ∨ i = 5 ∨ i = 6 ∨ i = 7 := by omega
      all_goals cases ho
      all_goals (first | (simp; done) | (simp [Region.binds]; done) | decide)
    obtain ⟨ak, ck, q, q', bN, e9, e10, e12⟩ := S.s6 (hallL 6 (by omega))
    obtain ⟨ak', ck', e9', kp⟩ := S.s1 (hallL 1 (by omega))
    obtain ⟨x1, e10', hq1, bq1⟩ := S.s2 (hallL 2 (by omega))
    obtain ⟨x2, e12', hq2, bq2⟩ := S.s4 (hallL 4 (by omega))
    have e3 := S.s7 (hallL 7 (by omega))
    rw [e9] at e9'
    rw [e10] at e10'
    rw [e12] at e12'
    obtain ⟨rfl, rfl⟩ : ak = ak' ∧ ck = ck' := by simp at e9'; exact e9'
    obtain rfl : q = x1 := by simp at e10'; exact e10'
    obtain rfl : q' = x2 := by simp at e12'; exact e12'
    subst e3
    obtain ⟨y0, y1, _, _⟩ := bq1.two
    have HF : Hid (Ses W (.slice ak t.len ck) (.slice (some ⟨q, 0, none⟩) 2 2) (.slice (some ⟨q', 0, none⟩) 1 1) nilV (newV t)) := ses_new (kp.kd fun g _ => Nat.zero_le _) y0 y1 (OwnR.rs (ownK_nil rowC 5 55 _ 0) (by simp)) (OwnR.rs (ownK_nil rowC 5 55 _ 0) (by simp)) (by decide) (by unfold maxLen; omega) (by decide) (by unfold maxLen; omega) bq2
    have HBF : Hid (Below w.heap.size w W) := HBL.out W hx
    obtain ⟨r0, r1, r2, r3, r4, r5⟩ := bN.six
    clear hallL S hr kp bq1 bq2 bN y0 y1 e9 e10 e12 e9' e10' e12' bA1 bR1 hbw1 hx
    go_wp2_with fail
    refine bodyPost_ret (v := .tuple #[sv t.k t.n (.slice ak t.len ck) (.slice (some ⟨q, 0, none⟩) 2 2) (.slice (some ⟨q', 0, none⟩) 1 1) nilV, .bool true]) (by simp [results, Tryz.results39, go_sem, r0, r1, r2, r3, r4, r5]; try rfl) rfl ?_
    exact ⟨_, _, _, rfl, HF.out, HBF.out⟩
end Go.Proofs.YtbdpcngcbnoioaaGreatDoor
