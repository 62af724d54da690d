/- Small facts on worlds for the drawing of arguments: a reader in memory, and calls that turn nothing old but that reader. -/
import Derived.Test.YtbmdfmboabfceaaBase2
namespace Go.Proofs.Ytbmdfmboabfceaa
open Go.RowKit

/-- All old blocks but number g are as they were. -/
structure Bx (g : Nat) (w w' : World) : Prop where
  os : w'.os = w.os
  tape : w'.tape = w.tape
  output : w'.output = w.output
  size : w.heap.size ≤ w'.heap.size
  block : ∀ k, k < w.heap.size → k ≠ g → w'.heap[k]? = w.heap[k]?
theorem Bx.refl (g : Nat) (w : World) : Bx g w w := ⟨rfl, rfl, rfl, Nat.le_refl _, fun _ _ _ => rfl⟩
theorem Bx.trans {g : Nat} {a b c : World} (h : Bx g a b) (k : Bx g b c) : Bx g a c :=
  ⟨k.os.trans h.os, k.tape.trans h.tape, k.output.trans h.output, Nat.le_trans h.size k.size, fun i hi hg => (k.block i (Nat.lt_of_lt_of_le hi h.size) hg).trans (h.block i hi hg)⟩
theorem Bx.alloc {g : Nat} {a w : World} (h : Bx g a w) (o : Obj) : Bx g a (w.alloc o) :=
  h.trans ⟨rfl, rfl, rfl, by simp, fun _ hk _ => Below.heap_alloc _ _ _ hk⟩
theorem Bx.drew {g : Nat} {a w : World} (h : Bx g a w) : Bx g a w.drew := ⟨h.os, h.tape, h.output, h.size, h.block⟩
theorem Bx.drewN {g : Nat} {a w : World} (h : Bx g a w) (n : Nat) : Bx g a (w.drewN n) := ⟨h.os, h.tape, h.output, h.size, h.block⟩
theorem Bx.setG {g : Nat} {a w : World} (h : Bx g a w) {p : Addr} (hp : p.block = g) (u : Value) : Bx g a (w.setCell p u) :=
  h.trans ⟨rfl, rfl, rfl, by simp [World.setCell], fun k _ hg => Below.heap_setCell _ _ _ _ (by omega)⟩
theorem Bx.setNew {g : Nat} {a w : World} (h : Bx g a w) {p : Addr} (hp : a.heap.size ≤ p.block) (u : Value) : Bx g a (w.setCell p u) :=
  ⟨h.os, h.tape, h.output, by simpa [World.setCell] using h.size, fun k hk hg => by rw [Below.heap_setCell _ _ _ _ (by omega)]; exact h.block k hk hg⟩
theorem Bx.of_below {g : Nat} {w w' : World} (h : Below w.heap.size w w') : Bx g w w' := ⟨h.os, h.tape, h.output, h.size, fun k hk _ => h.block k hk⟩
theorem Bx.below {g B : Nat} {w0 w w' : World} (h : Bx g w w') (h0 : Below B w0 w) (hB : B ≤ w.heap.size) (hg : B ≤ g) : Below B w0 w' :=
  h0.trans ⟨h.os, h.tape, h.output, h.size, fun k hk => h.block k (by omega) (by omega)⟩
theorem Bk.keepx {g : Nat} {w w1 : World} {k : Nat} {c : Array Value} {t : TypeId} (h : Bk w k c t) (hb : Bx g w w1) (hk : k ≠ g) : Bk w1 k c t := by
  unfold Bk; rw [hb.block k h.lt hk]; exact h

/-- The slice v holds n readable bytes, in a block other than those from B on. -/
def Src (w : World) (v : Value) (n : Nat) : Prop :=
  ∃ a cap, v = .slice a n cap ∧ n ≤ cap ∧ cap ≤ maxLen ∧ ∀ i : Nat, i < n → ∃ (b off : Nat) (z : Int), a = some ⟨b, off, none⟩ ∧ b < w.heap.size ∧ w.cell? ⟨b, off + i, none⟩ = some (.int .u8 z) ∧ 0 ≤ z ∧ z ≤ 255
theorem Src.nil (w : World) : Src w (.slice none 0 0) 0 := ⟨none, 0, rfl, Nat.le_refl _, by unfold maxLen; omega, fun i h => by omega⟩
theorem wf_u8 {n : Int} (h : (Lit.int .u8 n).wf = true) : 0 ≤ n ∧ n ≤ 255 := by
  simp [Lit.wf, IntKind.min, IntKind.max, IntKind.signed, IntKind.bits] at h; omega
theorem Src.of_row {w : World} {x : Addr} {len cap : Nat} {zs : List Int} (hl : len ≤ cap) (hm : cap ≤ maxLen) (hz : zs.length = cap) (hcell : ∀ i, i < zs.length → w.cell? (x.add i) = some (.int .u8 (zs.getD i 0))) (hwz : ∀ n ∈ zs, (Lit.int .u8 n).wf = true) :
    Src w (.slice (some x) len cap) len := by
  refine ⟨some x, cap, rfl, hl, hm, fun i hi => ?_⟩
  obtain ⟨b, off, spot⟩ := x
  have hspot : spot = none := by
    have h0 := World.cell?_spot (hcell 0 (by omega))
    simpa [Addr.add] using h0
  subst hspot
  have hc' : w.cell? ⟨b, off + i, none⟩ = some (.int .u8 (zs.getD i 0)) := by
    have hc := hcell i (by omega)
    by_cases h0 : i = 0
    · subst h0; simpa [Addr.add] using hc
    · simpa [Addr.add, h0] using hc
  have hmem : zs.getD i 0 ∈ zs := by
    have hi' : i < zs.length := by omega
    simp [List.getD, List.getElem?_eq_getElem hi']
  obtain ⟨h0, h1⟩ := wf_u8 (hwz _ hmem)
  exact ⟨b, off, zs.getD i 0, rfl, lt_of_cell hc', hc', h0, h1⟩
theorem Src.keep {w w1 : World} {v : Value} {n : Nat} (h : Src w v n) (hb : Below w.heap.size w w1) : Src w1 v n := by
  obtain ⟨a, cap, rfl, h1, h2, h3⟩ := h
  refine ⟨a, cap, rfl, h1, h2, fun i hi => ?_⟩
  obtain ⟨b, off, z, rfl, hb', hc, h4, h5⟩ := h3 i hi
  exact ⟨b, off, z, rfl, Nat.lt_of_lt_of_le hb' hb.size, cell_below hb hc, h4, h5⟩

/-- A reader: block g holds the bytes' slice and how far it has read; the bytes lie below block B, the reader from B on. -/
structure Rd (B : Nat) (w : World) (g : Nat) (v : Value) (n : Nat) (p : Int) : Prop where
  blk : Bk w g #[v, .int .i64 p] 132
  bytes : ∃ a cap, v = .slice a n cap ∧ n ≤ cap ∧ cap ≤ maxLen ∧ ∀ i : Nat, i < n → ∃ (b off : Nat) (z : Int), a = some ⟨b, off, none⟩ ∧ b < B ∧ w.cell? ⟨b, off + i, none⟩ = some (.int .u8 z) ∧ 0 ≤ z ∧ z ≤ 255
  few : n ≤ 2000
  here : B ≤ g
  size : B ≤ w.heap.size
theorem Rd.keepx {B : Nat} {w w1 : World} {g : Nat} {v : Value} {n : Nat} {p q : Int} (h : Rd B w g v n p) (hb : Bx g w w1) (hq : Bk w1 g #[v, .int .i64 q] 132) : Rd B w1 g v n q := by
  refine ⟨hq, ?_, h.few, h.here, Nat.le_trans h.size hb.size⟩
  obtain ⟨a, cap, rfl, h1, h2, h3⟩ := h.bytes
  refine ⟨a, cap, rfl, h1, h2, fun i hi => ?_⟩
  obtain ⟨b, off, z, rfl, hb', hc, h4, h5⟩ := h3 i hi
  have hs := h.size
  have hh := h.here
  refine ⟨b, off, z, rfl, hb', ?_, h4, h5⟩
  rw [World.cell?_of_block (w := w) (hb.block b (by omega) (by omega))]; exact hc
theorem Rd.keepb {B : Nat} {w w1 : World} {g : Nat} {v : Value} {n : Nat} {p : Int} (h : Rd B w g v n p) (hb : Below w.heap.size w w1) : Rd B w1 g v n p :=
  h.keepx (Bx.of_below hb) (h.blk.keep hb)
end Go.Proofs.Ytbmdfmboabfceaa
