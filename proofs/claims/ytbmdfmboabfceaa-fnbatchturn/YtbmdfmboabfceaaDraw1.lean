/- What the reader's pick answers: a number below the given one; it turns nothing but the reader's count. -/
import Derived.Test.YtbmdfmboabfceaaDraw0
namespace Go.Proofs.Ytbmdfmboabfceaa
open Go.RowKit

theorem ret_int {k : IntKind} {a b : Int} (h : a = b) : Ending.returned (.int k a) = .returned (.int k b) := by rw [h]

theorem bits_xor_i64_nat (a b : Nat) (ha : a < 4611686018427387904) (hb : b < 4611686018427387904) :
    bits .xor .i64 (a : Int) (b : Int) = ((a ^^^ b : Nat) : Int) := by
  have hx : a ^^^ b < 2 ^ 62 := Nat.xor_lt_two_pow (by omega) (by omega)
  have h1 : (BitVec.ofInt 64 (a : Int)).toNat = a := by
    rw [BitVec.ofInt_natCast, BitVec.toNat_ofNat]; exact Nat.mod_eq_of_lt (by omega)
  have h2 : (BitVec.ofInt 64 (b : Int)).toNat = b := by
    rw [BitVec.ofInt_natCast, BitVec.toNat_ofNat]; exact Nat.mod_eq_of_lt (by omega)
  show IntKind.i64.wrap ((BitVec.ofInt 64 (a : Int) ^^^ BitVec.ofInt 64 (b : Int)).toNat : Int) = _
  rw [BitVec.toNat_xor, h1, h2, IntKind.wrap_i64]
  omega
theorem mix_bound (x m : Int) (h0 : 0 ≤ x) (h1 : x < 4611686018427387904) (hm : 1 ≤ m) : 0 ≤ (bits .xor .i64 x (x / 64)).tmod m ∧ (bits .xor .i64 x (x / 64)).tmod m < m := by
  obtain ⟨X, rfl⟩ := Int.eq_ofNat_of_zero_le h0
  have e : ((X : Int) / 64) = ((X / 64 : Nat) : Int) := by omega
  rw [e, bits_xor_i64_nat _ _ (by omega) (by omega)]
  rw [Int.tmod_eq_emod_of_nonneg (by omega)]
  exact ⟨Int.emod_nonneg _ (by omega), Int.emod_lt_of_pos _ (by omega)⟩

/-- What is behind the count's step. -/
theorem pick_step {B : Nat} {w : World} {g : Nat} {v : Value} {n : Nat} {p : Int} (h : Rd B w g v n p) :
    Rd B (w.setCell ⟨g, 1, none⟩ (.int .i64 (p + 1))) g v n (p + 1) ∧ Bx g w (w.setCell ⟨g, 1, none⟩ (.int .i64 (p + 1))) :=
  have hx : Bx g w (w.setCell ⟨g, 1, none⟩ (.int .i64 (p + 1))) := (Bx.refl g w).setG rfl _
  ⟨h.keepx hx (h.blk.set 1 _), hx⟩

set_option maxHeartbeats 1000000 in
theorem pick_none {B : Nat} {w : World} {g : Nat} {v : Value} {p : Int} (h : Rd B w g v 0 p) (hp : 0 ≤ p) (hp' : p ≤ 1000000) (m : Int) (hm : 1 ≤ m) :
    Calls Try.prog 107 #[.pointer (some ⟨g, 0, none⟩), .int .i64 m] w fun e w' => ∃ k : Int, e = .returned (.int .i64 k) ∧ 0 ≤ k ∧ k < m ∧ Rd B w' g v 0 (p + 1) ∧ Bx g w w' := by
  obtain ⟨hr, hx⟩ := pick_step h
  obtain ⟨c0, c1, f0, f1⟩ := h.blk.two
  obtain ⟨d0, d1, _, _⟩ := hr.blk.two
  obtain ⟨a, cap, rfl, h1, h2, _⟩ := h.bytes
  go_enter Try.func107, Try.ntmps107
  go_wp2
  go_ret
  exact ⟨0, rfl, by omega, by omega, hr, hx⟩

set_option maxHeartbeats 1000000 in
theorem pick_in {B : Nat} {w : World} {g : Nat} {v : Value} {n : Nat} {p : Nat} (h : Rd B w g v n p) (hp : p < n) (m : Int) (hm : 1 ≤ m) (hm' : m ≤ 1000) :
    Calls Try.prog 107 #[.pointer (some ⟨g, 0, none⟩), .int .i64 m] w fun e w' => ∃ k : Int, e = .returned (.int .i64 k) ∧ 0 ≤ k ∧ k < m ∧ Rd B w' g v n (p + 1) ∧ Bx g w w' := by
  obtain ⟨hr, hx⟩ := pick_step h
  obtain ⟨c0, c1, f0, f1⟩ := h.blk.two
  obtain ⟨d0, d1, _, _⟩ := hr.blk.two
  have hn := h.few
  obtain ⟨a, cap, rfl, h1, h2, h3⟩ := hr.bytes
  obtain ⟨b, off, z, rfl, hb, hc, hz0, hz1⟩ := h3 p hp
  unfold maxLen at h2
  clear h3
  have e0 : ((n : Int) == 0) = false := by simp; omega
  go_enter Try.func107, Try.ntmps107
  go_wp2
  go_ret
  exact ⟨z % m, rfl, Int.emod_nonneg _ (by omega), Int.emod_lt_of_pos _ (by omega), hr, hx⟩

set_option maxHeartbeats 4000000 in
theorem pick_out {B : Nat} {w : World} {g : Nat} {v : Value} {n : Nat} {p : Nat} (h : Rd B w g v n p) (hn0 : 0 < n) (hp : n ≤ p) (hp' : p ≤ 1000000) (m : Int) (hm : 1 ≤ m) (hm' : m ≤ 1000) :
    Calls Try.prog 107 #[.pointer (some ⟨g, 0, none⟩), .int .i64 m] w fun e w' => ∃ k : Int, e = .returned (.int .i64 k) ∧ 0 ≤ k ∧ k < m ∧ Rd B w' g v n (p + 1) ∧ Bx g w w' := by
  obtain ⟨hr, hx⟩ := pick_step h
  obtain ⟨c0, c1, f0, f1⟩ := h.blk.two
  obtain ⟨d0, d1, _, _⟩ := hr.blk.two
  have hn := h.few
  obtain ⟨a, cap, rfl, h1, h2, h3⟩ := hr.bytes
  have i1 : p % n < n := Nat.mod_lt _ hn0
  have i2 : (p * 7 + 3) % n < n := Nat.mod_lt _ hn0
  obtain ⟨b, off, z, rfl, hb, hc, hz0, hz1⟩ := h3 (p % n) i1
  obtain ⟨b', off', y, heq, hb', hc', hy0, hy1⟩ := h3 ((p * 7 + 3) % n) i2
  simp at heq
  obtain ⟨rfl, rfl⟩ := heq
  unfold maxLen at h2
  clear h3
  have e0 : ((n : Int) == 0) = false := by simp; omega
  have e1 : decide ((p : Int) < (n : Int)) = false := by simp; omega
  have e2 : decide (m < 1) = false := by simp; omega
  have j1 : (0 : Int) ≤ ((p : Int) * 7 + 3) % (n : Int) := Int.emod_nonneg _ (by omega)
  have j2 : ((p : Int) * 7 + 3) % (n : Int) < (n : Int) := Int.emod_lt_of_pos _ (by omega)
  have j3 : (0 : Int) ≤ (p : Int) / (n : Int) := Int.ediv_nonneg (by omega) (by omega)
  have j4 : (p : Int) / (n : Int) ≤ (p : Int) := Int.ediv_le_self _ (by omega)
  go_enter Try.func107, Try.ntmps107
  go_wp2
  go_quiet (fail)
  go_wp2
  go_ret
  obtain ⟨q0, q1⟩ := mix_bound (z * 131 + y * 1117 + p * 29 + p / n * 53) m (by omega) (by omega) hm
  exact ⟨_, rfl, q0, q1, hr.keepb (bDrewN (Below.refl _ _) _), hx.drewN _⟩

theorem pick_any {B : Nat} {w : World} {g : Nat} {v : Value} {n : Nat} {p : Int} (h : Rd B w g v n p) (hp : 0 ≤ p) (hp' : p ≤ 1000000) (m : Int) (hm : 1 ≤ m) (hm' : m ≤ 1000) :
    Calls Try.prog 107 #[.pointer (some ⟨g, 0, none⟩), .int .i64 m] w fun e w' => ∃ k : Int, e = .returned (.int .i64 k) ∧ 0 ≤ k ∧ k < m ∧ Rd B w' g v n (p + 1) ∧ Bx g w w' := by
  obtain ⟨q, rfl⟩ := Int.eq_ofNat_of_zero_le hp
  by_cases h0 : n = 0
  · subst h0; exact pick_none h hp hp' m hm
  · by_cases h1 : q < n
    · exact pick_in h h1 m hm hm'
    · exact pick_out h (by omega) (by omega) (by omega) m hm hm'
end Go.Proofs.Ytbmdfmboabfceaa
