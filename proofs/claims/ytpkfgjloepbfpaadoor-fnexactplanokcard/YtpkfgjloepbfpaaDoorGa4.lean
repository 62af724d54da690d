/- Small facts on worlds for the drawing of arguments: a reader in memory, and calls that turn nothing old but that reader. -/
import Derived.Test.YtpkfgjloepbfpaaDoorGa1
import Derived.Deep.DeepCutAuto
/-! Small facts on worlds for the drawing of arguments: a reader in memory, and calls that turn nothing old but that reader. -/
namespace Go.Proofs.YtpkfgjloepbfpaaDoor
open Go.RowKit

/-- All old blocks but number g are as they were. -/
structure Bx (g : Nat) (w w' : World) : Prop where
  os : w'.os = w.os
  tape : w'.tape = w.tape
  output : w'.output = w.output
  size : w.heap.size ≤ w'.heap.size
  block : ∀ k, k < w.heap.size → k ≠ g → w'.heap[k]? = w.heap[k]?
theorem Bx.refl (g : Nat) (w : World) : Bx g w w := ⟨rfl, rfl, rfl, Nat.le_refl _, fun _ _ _ => rfl⟩
theorem Bx.trans {g : Nat} {a b c : World} (h : Bx g a b) (k : Bx g b c) : Bx g a c :=
  ⟨k.os.trans h.os, k.tape.trans h.tape, k.output.trans h.output, Nat.le_trans h.size k.size, fun i hi hg => (k.block i (Nat.lt_of_lt_of_le hi h.size) hg).trans (h.block i hi hg)⟩
theorem Bx.alloc {g : Nat} {a w : World} (h : Bx g a w) (o : Obj) : Bx g a (w.alloc o) :=
  h.trans ⟨rfl, rfl, rfl, by simp, fun _ hk _ => Below.heap_alloc _ _ _ hk⟩
theorem Bx.drew {g : Nat} {a w : World} (h : Bx g a w) : Bx g a w.drew := ⟨h.os, h.tape, h.output, h.size, h.block⟩
theorem Bx.drewN {g : Nat} {a w : World} (h : Bx g a w) (n : Nat) : Bx g a (w.drewN n) := ⟨h.os, h.tape, h.output, h.size, h.block⟩
theorem Bx.setG {g : Nat} {a w : World} (h : Bx g a w) {p : Addr} (hp : p.block = g) (u : Value) : Bx g a (w.setCell p u) :=
  h.trans ⟨rfl, rfl, rfl, by simp [World.setCell], fun k _ hg => Below.heap_setCell _ _ _ _ (by omega)⟩
theorem Bx.setNew {g : Nat} {a w : World} (h : Bx g a w) {p : Addr} (hp : a.heap.size ≤ p.block) (u : Value) : Bx g a (w.setCell p u) :=
  ⟨h.os, h.tape, h.output, by simpa [World.setCell] using h.size, fun k hk hg => by rw [Below.heap_setCell _ _ _ _ (by omega)]; exact h.block k hk hg⟩
theorem Bx.of_below {g : Nat} {w w' : World} (h : Below w.heap.size w w') : Bx g w w' := ⟨h.os, h.tape, h.output, h.size, fun k hk _ => h.block k hk⟩
theorem Bx.below {g B : Nat} {w0 w w' : World} (h : Bx g w w') (h0 : Below B w0 w) (hB : B ≤ w.heap.size) (hg : B ≤ g) : Below B w0 w' :=
  h0.trans ⟨h.os, h.tape, h.output, h.size, fun k hk => h.block k (by omega) (by omega)⟩
theorem Bk.keepx {g : Nat} {w w1 : World} {k : Nat} {c : Array Value} {t : TypeId} (h : Bk w k c t) (hb : Bx g w w1) (hk : k ≠ g) : Bk w1 k c t := by
  unfold Bk; rw [hb.block k h.lt hk]; exact h

/-- The slice v holds n readable bytes, in a block other than those from B on. -/
def Src (w : World) (v : Value) (n : Nat) : Prop :=
  ∃ a cap, v = .slice a n cap ∧ n ≤ cap ∧ cap ≤ maxLen ∧ ∀ i : Nat, i < n → ∃ (b off : Nat) (z : Int), a = some ⟨b, off, none⟩ ∧ b < w.heap.size ∧ w.cell? ⟨b, off + i, none⟩ = some (.int .u8 z) ∧ 0 ≤ z ∧ z ≤ 255
theorem Src.nil (w : World) : Src w (.slice none 0 0) 0 := ⟨none, 0, rfl, Nat.le_refl _, by unfold maxLen; omega, fun i h => by omega⟩
theorem wf_u8 {n : Int} (h : (Lit.int .u8 n).wf = true) : 0 ≤ n ∧ n ≤ 255 := by
  simp [Lit.wf, IntKind.min, IntKind.max, IntKind.signed, IntKind.bits] at h; omega
theorem Src.of_row {w : World} {x : Addr} {len cap : Nat} {zs : List Int} (hl : len ≤ cap) (hm : cap ≤ maxLen) (hz : zs.length = cap) (hcell : ∀ i, i < zs.length → w.cell? (x.add i) = some (.int .u8 (zs.getD i 0))) (hwz : ∀ n ∈ zs, (Lit.int .u8 n).wf = true) :
    Src w (.slice (some x) len cap) len := by
  refine ⟨some x, cap, rfl, hl, hm, fun i hi => ?_⟩
  obtain ⟨b, off, spot⟩ := x
  have hspot : spot = none := by
    have h0 := World.cell?_spot (hcell 0 (by omega))
    simpa [Addr.add] using h0
  subst hspot
  have hc' : w.cell? ⟨b, off + i, none⟩ = some (.int .u8 (zs.getD i 0)) := by
    have hc := hcell i (by omega)
    by_cases h0 : i = 0
    · subst h0; simpa [Addr.add] using hc
    · simpa [Addr.add, h0] using hc
  have hmem : zs.getD i 0 ∈ zs := by
    have hi' : i < zs.length := by omega
    simp [List.getD, List.getElem?_eq_getElem hi']
  obtain ⟨h0, h1⟩ := wf_u8 (hwz _ hmem)
  exact ⟨b, off, zs.getD i 0, rfl, lt_of_cell hc', hc', h0, h1⟩
theorem Src.keep {w w1 : World} {v : Value} {n : Nat} (h : Src w v n) (hb : Below w.heap.size w w1) : Src w1 v n := by
  obtain ⟨a, cap, rfl, h1, h2, h3⟩ := h
  refine ⟨a, cap, rfl, h1, h2, fun i hi => ?_⟩
  obtain ⟨b, off, z, rfl, hb', hc, h4, h5⟩ := h3 i hi
  exact ⟨b, off, z, rfl, Nat.lt_of_lt_of_le hb' hb.size, cell_below hb hc, h4, h5⟩

/-- A reader: block g holds the bytes' slice and how far it has read; the bytes lie below block B, the reader from B on. -/
structure Rd (B : Nat) (w : World) (g : Nat) (v : Value) (n : Nat) (p : Int) : Prop where
  blk : Bk w g #[v, .int .i64 p] 56
  bytes : ∃ a cap, v = .slice a n cap ∧ n ≤ cap ∧ cap ≤ maxLen ∧ ∀ i : Nat, i < n → ∃ (b off : Nat) (z : Int), a = some ⟨b, off, none⟩ ∧ b < B ∧ w.cell? ⟨b, off + i, none⟩ = some (.int .u8 z) ∧ 0 ≤ z ∧ z ≤ 255
  few : n ≤ 2000
  here : B ≤ g
  size : B ≤ w.heap.size
theorem Rd.keepx {B : Nat} {w w1 : World} {g : Nat} {v : Value} {n : Nat} {p q : Int} (h : Rd B w g v n p) (hb : Bx g w w1) (hq : Bk w1 g #[v, .int .i64 q] 56) : Rd B w1 g v n q := by
  refine ⟨hq, ?_, h.few, h.here, Nat.le_trans h.size hb.size⟩
  obtain ⟨a, cap, rfl, h1, h2, h3⟩ := h.bytes
  refine ⟨a, cap, rfl, h1, h2, fun i hi => ?_⟩
  obtain ⟨b, off, z, rfl, hb', hc, h4, h5⟩ := h3 i hi
  have hs := h.size
  have hh := h.here
  refine ⟨b, off, z, rfl, hb', ?_, h4, h5⟩
  rw [World.cell?_of_block (w := w) (hb.block b (by omega) (by omega))]; exact hc
theorem Rd.keepb {B : Nat} {w w1 : World} {g : Nat} {v : Value} {n : Nat} {p : Int} (h : Rd B w g v n p) (hb : Below w.heap.size w w1) : Rd B w1 g v n p :=
  h.keepx (Bx.of_below hb) (h.blk.keep hb)
end Go.Proofs.YtpkfgjloepbfpaaDoor

/-! What the reader's pick answers: a number below the given one; it turns nothing but the reader's count. -/
namespace Go.Proofs.YtpkfgjloepbfpaaDoor
open Go.RowKit

theorem ret_int {k : IntKind} {a b : Int} (h : a = b) : Ending.returned (.int k a) = .returned (.int k b) := by rw [h]

theorem bits_xor_i64_nat (a b : Nat) (ha : a < 4611686018427387904) (hb : b < 4611686018427387904) :
    bits .xor .i64 (a : Int) (b : Int) = ((a ^^^ b : Nat) : Int) := by
  have hx : a ^^^ b < 2 ^ 62 := Nat.xor_lt_two_pow (by omega) (by omega)
  have h1 : (BitVec.ofInt 64 (a : Int)).toNat = a := by
    rw [BitVec.ofInt_natCast, BitVec.toNat_ofNat]; exact Nat.mod_eq_of_lt (by omega)
  have h2 : (BitVec.ofInt 64 (b : Int)).toNat = b := by
    rw [BitVec.ofInt_natCast, BitVec.toNat_ofNat]; exact Nat.mod_eq_of_lt (by omega)
  show IntKind.i64.wrap ((BitVec.ofInt 64 (a : Int) ^^^ BitVec.ofInt 64 (b : Int)).toNat : Int) = _
  rw [BitVec.toNat_xor, h1, h2, IntKind.wrap_i64]
  omega
theorem mix_bound (x m : Int) (h0 : 0 ≤ x) (h1 : x < 4611686018427387904) (hm : 1 ≤ m) : 0 ≤ (bits .xor .i64 x (x / 64)).tmod m ∧ (bits .xor .i64 x (x / 64)).tmod m < m := by
  obtain ⟨X, rfl⟩ := Int.eq_ofNat_of_zero_le h0
  have e : ((X : Int) / 64) = ((X / 64 : Nat) : Int) := by omega
  rw [e, bits_xor_i64_nat _ _ (by omega) (by omega)]
  rw [Int.tmod_eq_emod_of_nonneg (by omega)]
  exact ⟨Int.emod_nonneg _ (by omega), Int.emod_lt_of_pos _ (by omega)⟩

/-- What is behind the count's step. -/
theorem pick_step {B : Nat} {w : World} {g : Nat} {v : Value} {n : Nat} {p : Int} (h : Rd B w g v n p) :
    Rd B (w.setCell ⟨g, 1, none⟩ (.int .i64 (p + 1))) g v n (p + 1) ∧ Bx g w (w.setCell ⟨g, 1, none⟩ (.int .i64 (p + 1))) :=
  have hx : Bx g w (w.setCell ⟨g, 1, none⟩ (.int .i64 (p + 1))) := (Bx.refl g w).setG rfl _
  ⟨h.keepx hx (h.blk.set 1 _), hx⟩

set_option maxHeartbeats 1000000 in
theorem pick_none {B : Nat} {w : World} {g : Nat} {v : Value} {p : Int} (h : Rd B w g v 0 p) (hp : 0 ≤ p) (hp' : p ≤ 1000000) (m : Int) (hm : 1 ≤ m) :
    Calls Tryd.prog 20 #[.pointer (some ⟨g, 0, none⟩), .int .i64 m] w fun e w' => ∃ k : Int, e = .returned (.int .i64 k) ∧ 0 ≤ k ∧ k < m ∧ Rd B w' g v 0 (p + 1) ∧ Bx g w w' := by
  obtain ⟨hr, hx⟩ := pick_step h
  obtain ⟨c0, c1, f0, f1⟩ := h.blk.two
  obtain ⟨d0, d1, _, _⟩ := hr.blk.two
  obtain ⟨a, cap, rfl, h1, h2, _⟩ := h.bytes
  go_enter Tryd.func20, Tryd.ntmps20
  go_wp2
  go_ret
  exact ⟨0, rfl, by omega, by omega, hr, hx⟩

set_option maxHeartbeats 1000000 in
theorem pick_in {B : Nat} {w : World} {g : Nat} {v : Value} {n : Nat} {p : Nat} (h : Rd B w g v n p) (hp : p < n) (m : Int) (hm : 1 ≤ m) (hm' : m ≤ 1000) :
    Calls Tryd.prog 20 #[.pointer (some ⟨g, 0, none⟩), .int .i64 m] w fun e w' => ∃ k : Int, e = .returned (.int .i64 k) ∧ 0 ≤ k ∧ k < m ∧ Rd B w' g v n (p + 1) ∧ Bx g w w' := by
  obtain ⟨hr, hx⟩ := pick_step h
  obtain ⟨c0, c1, f0, f1⟩ := h.blk.two
  obtain ⟨d0, d1, _, _⟩ := hr.blk.two
  have hn := h.few
  obtain ⟨a, cap, rfl, h1, h2, h3⟩ := hr.bytes
  obtain ⟨b, off, z, rfl, hb, hc, hz0, hz1⟩ := h3 p hp
  unfold maxLen at h2
  clear h3
  have e0 : ((n : Int) == 0) = false := by simp; omega
  go_enter Tryd.func20, Tryd.ntmps20
  go_wp2
  go_ret
  exact ⟨z % m, rfl, Int.emod_nonneg _ (by omega), Int.emod_lt_of_pos _ (by omega), hr, hx⟩

set_option maxHeartbeats 4000000 in
theorem pick_out {B : Nat} {w : World} {g : Nat} {v : Value} {n : Nat} {p : Nat} (h : Rd B w g v n p) (hn0 : 0 < n) (hp : n ≤ p) (hp' : p ≤ 1000000) (m : Int) (hm : 1 ≤ m) (hm' : m ≤ 1000) :
    Calls Tryd.prog 20 #[.pointer (some ⟨g, 0, none⟩), .int .i64 m] w fun e w' => ∃ k : Int, e = .returned (.int .i64 k) ∧ 0 ≤ k ∧ k < m ∧ Rd B w' g v n (p + 1) ∧ Bx g w w' := by
  obtain ⟨hr, hx⟩ := pick_step h
  obtain ⟨c0, c1, f0, f1⟩ := h.blk.two
  obtain ⟨d0, d1, _, _⟩ := hr.blk.two
  have hn := h.few
  obtain ⟨a, cap, rfl, h1, h2, h3⟩ := hr.bytes
  have i1 : p % n < n := Nat.mod_lt _ hn0
  have i2 : (p * 7 + 3) % n < n := Nat.mod_lt _ hn0
  obtain ⟨b, off, z, rfl, hb, hc, hz0, hz1⟩ := h3 (p % n) i1
  obtain ⟨b', off', y, heq, hb', hc', hy0, hy1⟩ := h3 ((p * 7 + 3) % n) i2
  simp at heq
  obtain ⟨rfl, rfl⟩ := heq
  unfold maxLen at h2
  clear h3
  have e0 : ((n : Int) == 0) = false := by simp; omega
  have e1 : decide ((p : Int) < (n : Int)) = false := by simp; omega
  have e2 : decide (m < 1) = false := by simp; omega
  have j1 : (0 : Int) ≤ ((p : Int) * 7 + 3) % (n : Int) := Int.emod_nonneg _ (by omega)
  have j2 : ((p : Int) * 7 + 3) % (n : Int) < (n : Int) := Int.emod_lt_of_pos _ (by omega)
  have j3 : (0 : Int) ≤ (p : Int) / (n : Int) := Int.ediv_nonneg (by omega) (by omega)
  have j4 : (p : Int) / (n : Int) ≤ (p : Int) := Int.ediv_le_self _ (by omega)
  go_enter Tryd.func20, Tryd.ntmps20
  go_wp2
  go_quiet (fail)
  go_wp2
  go_ret
  obtain ⟨q0, q1⟩ := mix_bound (z * 131 + y * 1117 + p * 29 + p / n * 53) m (by omega) (by omega) hm
  exact ⟨_, rfl, q0, q1, hr.keepb (bDrewN (Below.refl _ _) _), hx.drewN _⟩

theorem pick_any {B : Nat} {w : World} {g : Nat} {v : Value} {n : Nat} {p : Int} (h : Rd B w g v n p) (hp : 0 ≤ p) (hp' : p ≤ 1000000) (m : Int) (hm : 1 ≤ m) (hm' : m ≤ 1000) :
    Calls Tryd.prog 20 #[.pointer (some ⟨g, 0, none⟩), .int .i64 m] w fun e w' => ∃ k : Int, e = .returned (.int .i64 k) ∧ 0 ≤ k ∧ k < m ∧ Rd B w' g v n (p + 1) ∧ Bx g w w' := by
  obtain ⟨q, rfl⟩ := Int.eq_ofNat_of_zero_le hp
  by_cases h0 : n = 0
  · subst h0; exact pick_none h hp hp' m hm
  · by_cases h1 : q < n
    · exact pick_in h h1 m hm hm'
    · exact pick_out h (by omega) (by omega) (by omega) m hm hm'
end Go.Proofs.YtpkfgjloepbfpaaDoor

/-! What the drawing of times answers: contracts. -/
namespace Go.Proofs.YtpkfgjloepbfpaaDoor
open Go.RowKit

theorem Rd.apart {B : Nat} {w : World} {g : Nat} {v : Value} {n : Nat} {p : Int} (h : Rd B w g v n p) {q : Addr} (hq : g ≠ q.block) (hB : B ≤ q.block) (u : Value) : Rd B (w.setCell q u) g v n p := by
  refine ⟨h.blk.apart hq u, ?_, h.few, h.here, by simpa [World.setCell] using h.size⟩
  obtain ⟨a, cap, rfl, h1, h2, h3⟩ := h.bytes
  refine ⟨a, cap, rfl, h1, h2, fun i hi => ?_⟩
  obtain ⟨b, off, z, rfl, hb', hc, h4, h5⟩ := h3 i hi
  exact ⟨b, off, z, rfl, hb', cell_apart hc (by omega), h4, h5⟩

theorem Rd.new {w : World} {a : Option Addr} {len cap k : Nat} (hk : k ≤ len) (hf : k ≤ 2000) (h1 : len ≤ cap) (h2 : cap ≤ maxLen)
    (h3 : ∀ i : Nat, i < len → ∃ (b off : Nat) (z : Int), a = some ⟨b, off, none⟩ ∧ b < w.heap.size ∧ w.cell? ⟨b, off + i, none⟩ = some (.int .u8 z) ∧ 0 ≤ z ∧ z ≤ 255) :
    Rd w.heap.size (w.alloc (.cells #[.slice a k cap, .int .i64 0] 56)) w.heap.size (.slice a k cap) k 0 := by
  refine ⟨Bk.new _ _ rfl, ⟨a, cap, rfl, by omega, h2, fun i hi => ?_⟩, hf, Nat.le_refl _, by simp⟩
  obtain ⟨b, off, z, rfl, hb, hc, h4, h5⟩ := h3 i (by omega)
  exact ⟨b, off, z, rfl, hb, cell_alloc hc, h4, h5⟩

set_option maxHeartbeats 1000000 in
theorem l6Open_any (a : Option Addr) (len cap : Nat) (w : World) (h : Src w (.slice a len cap) len) :
    Calls Tryd.prog 12 #[.slice a len cap] w fun e w' => e = .returned (.pointer (some ⟨w.heap.size, 0, none⟩)) ∧ (∃ v n, Rd w.heap.size w' w.heap.size v n 0) ∧ Below w.heap.size w w' := by
  obtain ⟨a', cap', e, h1, h2, h3⟩ := h
  simp at e
  obtain ⟨rfl, rfl⟩ := e
  have h2' := h2
  unfold maxLen at h2'
  by_cases hl : (2000 : Int) < (len : Int)
  · have R := Rd.new (k := 2000) (by omega) (by omega) h1 h2 h3
    clear h3
    go_enter Tryd.func12, Tryd.ntmps12
    go_wp2
    go_ret
    exact ⟨rfl, ⟨_, _, R⟩, bAlloc (Below.refl _ _) _⟩
  · have R := Rd.new (k := len) (by omega) (by omega) h1 h2 h3
    clear h3
    go_enter Tryd.func12, Tryd.ntmps12
    go_wp2
    go_ret
    exact ⟨rfl, ⟨_, _, R⟩, bAlloc (Below.refl _ _) _⟩

end Go.Proofs.YtpkfgjloepbfpaaDoor
